/- Ic, Ie0, K9, Ka. -/
import Derived.Test.YtimmiidkjpbffaaX01
import Derived.Test.YtimmiidkjpbffaaX02
import Derived.Test.YtimmiidkjpbffaaX03
import Derived.BigQuiet
import Derived.BigRegion
import Derived.ChangeKeysEq
import Derived.Deep.DeepCutAuto
import Derived.Deep.DrawnRows
import Derived.Deep.MidRow
import Derived.Deep.QuietTactic
import Derived.Deep.RegionHeld3
import Derived.Deep.RegionLaw
import Derived.Deep.RegionWith
import Derived.Deep.WholeRow
import Derived.DeepKeys3
import Derived.Great.BuildSlice
import Derived.Handy
import Derived.Laws.AppendOwnNone
import Derived.Laws.BitsLemmas
import Derived.Laws.BytesArg
import Derived.Laws.CopyOwn
import Derived.Laws.ResultCell
import Derived.Laws.Tables
import Derived.Lib.SlBytesConst
import Derived.LoopIn
import Derived.LoopNIn
import Derived.LoopTactic
import Derived.Maps.AppendAt
import Derived.OwnWalkIn
import Derived.RangeFuncBound
import Derived.RangeFuncCalls
import Derived.RangeFuncLeaves
import Derived.RangeFuncNested
import Derived.RangeFuncRecord
import Derived.Shelf.Abstract
import Derived.Shelf.RegionOpen
import Derived.SizedLaws
import Derived.TacticsInMore
import Derived.WalkKit
import Derived.WalkLawsBesides
import Derived.WalkSpells
import Derived.Test.YtimmiidkjpbffaaX08
import Derived.Test.YtimmiidkjpbffaaX06
/- Layer compile: what the layers below give. -/
namespace Go.Proofs.Ytimmiidkjpbffaa
open Go.RowKit
set_option maxRecDepth 100000
set_option linter.unusedVariables false
set_option linter.unusedSimpArgs false

def BoP (b : Bool) (w : World) (e : Ending) (w' : World) : Prop := e = .returned (.bool b) ∧ Below w.heap.size w w'
theorem has_any (sp : Option Addr) (n cap : Nat) (v vs : Int) (w : World) :
    Calls Try.prog 99 #[.agg #[.slice sp n cap, .int .i64 vs], .int .i64 v] w (BoP (decide (0 ≤ v ∧ v < vs)) w) := by
  have b0 := ab w (.cells #[.slice sp n cap, .int .i64 vs] 114)
  by_cases h1 : 0 ≤ v
  · by_cases h2 : v < vs
    · rw [decide_eq_true ⟨h1, h2⟩]
      go_enter Try.func99, Try.ntmps99
      go_wp2_with fail
      go_ret
      exact ⟨rfl, b0⟩
    · rw [decide_eq_false (fun h => h2 h.2)]
      go_enter Try.func99, Try.ntmps99
      go_wp2_with fail
      go_ret
      exact ⟨rfl, b0⟩
  · rw [decide_eq_false (fun h => h1 h.1)]
    go_enter Try.func99, Try.ntmps99
    go_wp2_with fail
    go_ret
    exact ⟨rfl, b0⟩
set_option maxHeartbeats 1000000 in
theorem mayE_1 {α : Type} (sp : Option Addr) (n cap : Nat) (vs nn v o : Int) (l : List α) (sl : Option Addr) (m cl : Nat) (w : World) (hm : m = l.length) :
    Calls Try.prog 104 #[.agg #[.slice sp n cap, .int .i64 vs], .agg (exC 1 nn v o (.slice sl m cl)).toArray] w (BoP (mayE vs ⟨1, nn, v, o, l⟩) w) := by
  have b0 : Below w.heap.size w ((w.alloc (.cells #[.slice sp n cap, .int .i64 vs] 114)).alloc (.cells (exC 1 nn v o (.slice sl m cl)).toArray 92)) := (ab w _).alloc (by simp) _
  have hh := fun u => has_any sp n cap v vs u
  unfold BoP at hh
  have A := Arr.new (w.alloc (.cells #[.slice sp n cap, .int .i64 vs] 114)) 92 (exC 1 nn v o (.slice sl m cl)).toArray
  simp only [World.size_alloc] at A
  obtain ⟨r, hr⟩ : ∃ r, r = mayE vs ⟨1, nn, v, o, l⟩ := ⟨_, rfl⟩
  rw [← hr]
  simp [mayE] at hr
  replace hr := hid hr
  replace hm := hid hm
  unfold exC at *
  skip
  skip
  skip
  all_goals go_enter Try.func104, Try.ntmps104
  all_goals go_wp2_with (fail)
  all_goals
    go_ret
    refine ⟨congrArg (fun b => Ending.returned (.bool b)) (?_ : _ = r), ?_⟩
    · have h1 := hr.out
      have h2 := hm.out
      skip
      clear b0 hh
      simp_all
      try (first | rfl | omega | (intros; omega))
    · exact (ab w _).alloc (by simp) _
set_option maxHeartbeats 1000000 in
theorem mayE_2 {α : Type} (sp : Option Addr) (n cap : Nat) (vs nn v o : Int) (l : List α) (sl : Option Addr) (m cl : Nat) (w : World) (hm : m = l.length) :
    Calls Try.prog 104 #[.agg #[.slice sp n cap, .int .i64 vs], .agg (exC 2 nn v o (.slice sl m cl)).toArray] w (BoP (mayE vs ⟨2, nn, v, o, l⟩) w) := by
  have b0 : Below w.heap.size w ((w.alloc (.cells #[.slice sp n cap, .int .i64 vs] 114)).alloc (.cells (exC 2 nn v o (.slice sl m cl)).toArray 92)) := (ab w _).alloc (by simp) _
  have hh := fun u => has_any sp n cap v vs u
  unfold BoP at hh
  have A := Arr.new (w.alloc (.cells #[.slice sp n cap, .int .i64 vs] 114)) 92 (exC 2 nn v o (.slice sl m cl)).toArray
  simp only [World.size_alloc] at A
  obtain ⟨r, hr⟩ : ∃ r, r = mayE vs ⟨2, nn, v, o, l⟩ := ⟨_, rfl⟩
  rw [← hr]
  simp [mayE] at hr
  replace hr := hid hr
  replace hm := hid hm
  unfold exC at *
  by_cases hv : 0 ≤ v ∧ v < vs
  rw [decide_eq_true hv] at hh; rotate_left; rw [decide_eq_false hv] at hh
  all_goals replace hv := hid hv
  all_goals go_enter Try.func104, Try.ntmps104
  all_goals go_wp2_with (go_at_call 99; go_must (refine (hh _).mono ?_; rintro e w1 ⟨rfl, hb1⟩; have B1 := ((ab w _).alloc (by simp) _).trans (hb1.mono (by simp; omega)); have c1 : w1.cell? ⟨w.heap.size + 1, 1, none⟩ = some (.int .u64 nn) := (A.bl hb1).cell 1; have c3 : w1.cell? ⟨w.heap.size + 1, 3, none⟩ = some (.int .u8 o) := (A.bl hb1).cell 3))
  all_goals
    go_ret
    refine ⟨congrArg (fun b => Ending.returned (.bool b)) (?_ : _ = r), ?_⟩
    · have h1 := hr.out
      have h2 := hm.out
      have h3 := hv.out
      clear b0 hh
      simp_all
      try (first | rfl | omega | (intros; omega))
    · exact B1
set_option maxHeartbeats 1000000 in
theorem mayE_3 {α : Type} (sp : Option Addr) (n cap : Nat) (vs nn v o : Int) (l : List α) (sl : Option Addr) (m cl : Nat) (w : World) (hm : m = l.length) :
    Calls Try.prog 104 #[.agg #[.slice sp n cap, .int .i64 vs], .agg (exC 3 nn v o (.slice sl m cl)).toArray] w (BoP (mayE vs ⟨3, nn, v, o, l⟩) w) := by
  have b0 : Below w.heap.size w ((w.alloc (.cells #[.slice sp n cap, .int .i64 vs] 114)).alloc (.cells (exC 3 nn v o (.slice sl m cl)).toArray 92)) := (ab w _).alloc (by simp) _
  have hh := fun u => has_any sp n cap v vs u
  unfold BoP at hh
  have A := Arr.new (w.alloc (.cells #[.slice sp n cap, .int .i64 vs] 114)) 92 (exC 3 nn v o (.slice sl m cl)).toArray
  simp only [World.size_alloc] at A
  obtain ⟨r, hr⟩ : ∃ r, r = mayE vs ⟨3, nn, v, o, l⟩ := ⟨_, rfl⟩
  rw [← hr]
  simp [mayE] at hr
  replace hr := hid hr
  replace hm := hid hm
  unfold exC at *
  skip
  skip
  skip
  all_goals go_enter Try.func104, Try.ntmps104
  all_goals go_wp2_with (fail)
  all_goals
    go_ret
    refine ⟨congrArg (fun b => Ending.returned (.bool b)) (?_ : _ = r), ?_⟩
    · have h1 := hr.out
      have h2 := hm.out
      skip
      clear b0 hh
      simp_all
      try (first | rfl | omega | (intros; omega))
    · exact (ab w _).alloc (by simp) _
set_option maxHeartbeats 1000000 in
theorem mayE_4 {α : Type} (sp : Option Addr) (n cap : Nat) (vs nn v o : Int) (l : List α) (sl : Option Addr) (m cl : Nat) (w : World) (hm : m = l.length) :
    Calls Try.prog 104 #[.agg #[.slice sp n cap, .int .i64 vs], .agg (exC 4 nn v o (.slice sl m cl)).toArray] w (BoP (mayE vs ⟨4, nn, v, o, l⟩) w) := by
  have b0 : Below w.heap.size w ((w.alloc (.cells #[.slice sp n cap, .int .i64 vs] 114)).alloc (.cells (exC 4 nn v o (.slice sl m cl)).toArray 92)) := (ab w _).alloc (by simp) _
  have hh := fun u => has_any sp n cap v vs u
  unfold BoP at hh
  have A := Arr.new (w.alloc (.cells #[.slice sp n cap, .int .i64 vs] 114)) 92 (exC 4 nn v o (.slice sl m cl)).toArray
  simp only [World.size_alloc] at A
  obtain ⟨r, hr⟩ : ∃ r, r = mayE vs ⟨4, nn, v, o, l⟩ := ⟨_, rfl⟩
  rw [← hr]
  simp [mayE] at hr
  replace hr := hid hr
  replace hm := hid hm
  unfold exC at *
  skip
  skip
  skip
  all_goals go_enter Try.func104, Try.ntmps104
  all_goals go_wp2_with (fail)
  all_goals
    go_ret
    refine ⟨congrArg (fun b => Ending.returned (.bool b)) (?_ : _ = r), ?_⟩
    · have h1 := hr.out
      have h2 := hm.out
      skip
      clear b0 hh
      simp_all
      try (first | rfl | omega | (intros; omega))
    · exact (ab w _).alloc (by simp) _
theorem mayE_o {α : Type} (sp : Option Addr) (n cap : Nat) (vs k nn v o : Int) (l : List α) (sl : Option Addr) (m cl : Nat) (w : World) (h1 : (k == 1) = false) (h2 : (k == 2) = false) (h3 : (k == 3) = false) (h4 : (k == 4) = false) :
    Calls Try.prog 104 #[.agg #[.slice sp n cap, .int .i64 vs], .agg (exC k nn v o (.slice sl m cl)).toArray] w (BoP false w) := by
  have b0 : Below w.heap.size w ((w.alloc (.cells #[.slice sp n cap, .int .i64 vs] 114)).alloc (.cells (exC k nn v o (.slice sl m cl)).toArray 92)) := (ab w _).alloc (by simp) _
  unfold exC at *
  go_enter Try.func104, Try.ntmps104
  go_wp2_with fail
  go_ret
  exact ⟨rfl, b0⟩
theorem mayE_any {α : Type} (sp : Option Addr) (n cap : Nat) (vs : Int) (t : ExN α) (sl : Option Addr) (m cl : Nat) (w : World) (hm : m = t.l.length) :
    Calls Try.prog 104 #[.agg #[.slice sp n cap, .int .i64 vs], .agg (exC t.k t.n t.v t.o (.slice sl m cl)).toArray] w (BoP (mayE vs t) w) := by
  obtain ⟨k, nn, v, o, l⟩ := t
  by_cases h1 : k = 1
  · subst h1; exact mayE_1 sp n cap vs nn v o l sl m cl w hm
  by_cases h2 : k = 2
  · subst h2; exact mayE_2 sp n cap vs nn v o l sl m cl w hm
  by_cases h3 : k = 3
  · subst h3; exact mayE_3 sp n cap vs nn v o l sl m cl w hm
  by_cases h4 : k = 4
  · subst h4; exact mayE_4 sp n cap vs nn v o l sl m cl w hm
  have e : mayE vs ⟨k, nn, v, o, l⟩ = false := by simp [mayE, h1, h2, h3, h4]
  rw [e]
  exact mayE_o sp n cap vs k nn v o l sl m cl w (by simpa using h1) (by simpa using h2) (by simpa using h3) (by simpa using h4)
end Go.Proofs.Ytimmiidkjpbffaa
/- Layer compile: what the layers below give. -/
namespace Go.Proofs.Ytimmiidkjpbffaa
open Go.RowKit
set_option maxRecDepth 100000
set_option linter.unusedVariables false
set_option linter.unusedSimpArgs false

set_option maxHeartbeats 1000000 in
theorem takes_any {N : Nat} {sp : Option Addr} {n cap : Nat} {fs : List FuT} {vs f a : Int} (w : World) (hS : RS N w 3 (FuM N w) sp n cap fs) (hN : N ≤ w.heap.size) :
    Calls Try.prog 100 #[.agg #[.slice sp n cap, .int .i64 vs], .int .i64 f, .int .i64 a] w (BoP (tkB (fs.map FuT.p) f a) w) := by
  unfold tkB
  have b0 := ab w (.cells #[.slice sp n cap, .int .i64 vs] 114)
  have hl := hS.len
  have hbig := hS.small
  by_cases h1 : 0 ≤ f
  · by_cases h2 : f < n
    · obtain ⟨j, rfl⟩ : ∃ j : Nat, f = j := ⟨f.toNat, by omega⟩
      obtain ⟨t, ht⟩ : ∃ t, fs[j]? = some t := ⟨fs[j]'(by rw [← hl.out]; omega), List.getElem?_eq_getElem _⟩
      obtain ⟨g, off, rfl, hg, hR⟩ := hS.at0 (by omega)
      obtain ⟨cs, hrg, hM⟩ := hR j t ht
      obtain ⟨q1, q2, q3, rfl, -, -⟩ := hM
      have hrg2 := rb hrg (b0.mono hN) hg
      have c0 := hrg2 0 _ rfl
      simp only [Nat.add_zero] at c0
      have e : (fs.map FuT.p).getD (j : Int).toNat 0 = t.p := by simp [List.getD, ht]
      have e2 : (0 ≤ (j : Int) ∧ (j : Int) < (fs.map FuT.p).length ∧ a = (fs.map FuT.p).getD (j : Int).toNat 0) ↔ a = t.p := by
        rw [e, List.length_map, ← hl.out]
        exact ⟨fun h => h.2.2, fun h => ⟨h1, h2, h⟩⟩
      have ed : decide (0 ≤ (j : Int) ∧ (j : Int) < (fs.map FuT.p).length ∧ a = (fs.map FuT.p).getD (j : Int).toNat 0) = decide (a = t.p) := by simp only [e2]
      rw [ed]
      have hjn : j < n := by omega
      clear hS hR hrg hrg2 hl e e2 ht ed
      go_enter Try.func100, Try.ntmps100
      go_wp2_with fail
      go_ret
      exact ⟨rfl, b0⟩
    · rw [decide_eq_false (by rintro ⟨-, h, -⟩; rw [List.length_map, ← hl.out] at h; omega)]
      clear hS hl
      go_enter Try.func100, Try.ntmps100
      go_wp2_with fail
      go_ret
      exact ⟨rfl, b0⟩
  · rw [decide_eq_false (fun h => h1 h.1)]
    clear hS hl
    go_enter Try.func100, Try.ntmps100
    go_wp2_with fail
    go_ret
    exact ⟨rfl, b0⟩
end Go.Proofs.Ytimmiidkjpbffaa
/- Layer compile: expressions. -/
namespace Go.Proofs.Ytimmiidkjpbffaa
open Go.RowKit
set_option maxRecDepth 100000
set_option linter.unusedVariables false
set_option linter.unusedSimpArgs false

variable {P : Nat → Prop} {q : KQ} {s : KS} {N : Nat}
theorem KK.out1 {s' : KS} {w w' : World} {o : Obj} (hK : KK N P q s w) (h1 : KK N (fun k => P k ∧ k ≠ w.heap.size) q s' w') (hc : Ch (fun k => P k ∧ k ≠ w.heap.size) (w.alloc o) w') : KK N P q s' w' ∧ Ch P w w' :=
  have h2 : Ch P w w' := ((Ch.refl P w).al o).trans (hc.mono fun k _ h => h.1)
  ⟨hK.up h1 h2, h2⟩
/-- The cells of a thing in a row that the builder leaves. -/
theorem rgk {w w' : World} {g off : Nat} {cs : List Value} (h : w.rangeAt g off cs) (hb : Below N w w') (hg : g < N) : w'.rangeAt g off cs := rb h hb hg
/-- The contract of value, for expressions so deep. -/
def VA (N : Nat) (d : Nat) : Prop := ∀ (P : Nat → Prop) (q : KQ) (s : KS) (w : World) (cs : List Value) (t : ExT d) (vs r : Int), KK N P q s w → KG q → ExM N w d cs t → okX vs d t → vs ≤ 64 → 0 ≤ r → r + d ≤ 100 → (kX q.E q.f d t r s).code.length ≤ 1000000 →
  Calls Try.prog 80 #[.pointer (some ⟨q.g, 0, none⟩), .agg cs.toArray, .int .u8 r] w (KZ N P q (kX q.E q.f d t r s) w)
theorem ExM.cs {w : World} {d : Nat} {cs : List Value} {t : ExT d} (h : ExM N w d cs t) : ∃ k n v o sp m c, cs = exC k n v o (.slice sp m c) := by
  cases d with
  | zero => exact h
  | succ d => obtain ⟨sp, m, cap, e, -⟩ := h; exact ⟨_, _, _, _, _, _, _, e⟩
set_option maxHeartbeats 2000000 in
theorem binary_any {d : Nat} (hE : VA N d) {n v o r vs : Int} {g off m c : Nat} {ca cb : List Value} {ta tb : ExT d} (w : World) (hK : KK N P q s w) (hG : KG q) (hm : 2 ≤ m) (hg : g < N)
    (ra : w.rangeAt g off ca) (rb' : w.rangeAt g (off + 5) cb) (hA : ExM N w d ca ta) (hB : ExM N w d cb tb) (oa : okX vs d ta) (ob : okX vs d tb) (hvs : vs ≤ 64) (hr : 0 ≤ r) (hrd : r + (d + 1) ≤ 100)
    (hb : ((kX q.E q.f d tb (r + 1) (kX q.E q.f d ta r s)).put [⟨o, r, r, r + 1, 0⟩]).code.length ≤ 1000000) :
    Calls Try.prog 60 #[.pointer (some ⟨q.g, 0, none⟩), .agg #[.int .u8 3, .int .u64 n, .int .i64 v, .int .u8 o, .slice (some ⟨g, off, none⟩) m c], .int .u8 r] w (KZ N P q ((kX q.E q.f d tb (r + 1) (kX q.E q.f d ta r s)).put [⟨o, r, r, r + 1, 0⟩]) w) := by
  obtain ⟨o1, ho1⟩ : ∃ o1, o1 = Obj.cells #[.int .u8 3, .int .u64 n, .int .i64 v, .int .u8 o, .slice (some ⟨g, off, none⟩) m c] 92 := ⟨_, rfl⟩
  have hK1 := hK.al o1
  have hfin : ∀ (s' : KS) (w' : World), KK N (fun k => P k ∧ k ≠ w.heap.size) q s' w' → Ch (fun k => P k ∧ k ≠ w.heap.size) (w.alloc o1) w' → KK N P q s' w' ∧ Ch P w w' := fun _ _ h1 h2 => hK.out1 h1 h2
  have A1 : Arr (w.alloc o1) w.heap.size 92 #[.int .u8 3, .int .u64 n, .int .i64 v, .int .u8 o, .slice (some ⟨g, off, none⟩) m c] := by rw [ho1]; exact Arr.new w 92 _
  have hbw : Below N w (w.alloc o1) := ((Ch.refl P w).al o1).bl hK.n
  have l2 := kX_le q.E q.f d tb (r + 1) (kX q.E q.f d ta r s)
  have hl2 : (kX q.E q.f d tb (r + 1) (kX q.E q.f d ta r s)).code.length + 1 ≤ 1000000 := by simpa [KS.put] using hb
  have h1 := hE _ q s _ ca ta vs r hK1 hG (ExM.below hbw d ca ta hA) oa hvs hr (by omega) (by have := l2.1.1; omega)
  have h2 := fun (u : World) (hu : KK N (fun k => P k ∧ k ≠ w.heap.size) q (kX q.E q.f d ta r s) u) (hbu : Below N w u) => hE _ q _ u cb tb vs (r + 1) hu hG (ExM.below hbu d cb tb hB) ob hvs (by omega) (by omega) (by omega)
  obtain ⟨ak, an, av, ao, asl, am, ac, hca⟩ := hA.cs
  obtain ⟨bk, bn, bv, bo, bsl, bm, bc, hcb⟩ := hB.cs
  subst hca hcb
  have hpx : ¬ (P w.heap.size ∧ w.heap.size ≠ w.heap.size) := fun e => e.2 rfl
  have hgb : q.g ≠ w.heap.size := by have := hK.g; omega
  have ra1 := rgk ra hbw hg
  have a0 := ra1 0 _ rfl
  have a1 := ra1 1 _ rfl
  have a2 := ra1 2 _ rfl
  have a3 := ra1 3 _ rfl
  have a4 := ra1 4 _ rfl
  simp only [Nat.add_zero] at a0 a1 a2 a3 a4
  have hm0 : (0 : Int) < m := by omega
  have hm1 : (1 : Int) < m := by omega
  have hw8 : IntKind.u8.wrap (r + 1) = r + 1 := by simp only [IntKind.wrap]; first | omega | (simp [IntKind.bits, IntKind.signed]; omega)
  subst ho1
  clear hE hA hB oa ob l2 ra ra1
  replace h1 := hid h1
  replace h2 := hid h2
  replace hfin := hid hfin
  replace hG := hid hG
  replace hK := hid hK
  replace hb := hid hb
  unfold exC at *
  generalize hX : kX q.E q.f d ta r s = s1 at *
  generalize hY : kX q.E q.f d tb (r + 1) s1 = s2 at *
  generalize hPP : (fun k => P k ∧ k ≠ w.heap.size) = P' at *
  have hpx : ¬ P' w.heap.size := by rw [← hPP]; exact fun e => e.2 rfl
  clear hPP
  go_enter Try.func60, Try.ntmps60
  go_upto_region 2 with (go_at_call 80; go_must (refine h1.out.mono ?_; rintro e w2 ⟨rfl, hK2, hc2⟩))
  have A2 := hc2.arr A1 hpx
  have hbw2 := hbw.trans (hK1.bel hc2)
  have rb2 := rgk rb' hbw2 hg
  have b0 := rb2 0 _ rfl
  have b1 := rb2 1 _ rfl
  have b2 := rb2 2 _ rfl
  have b3 := rb2 3 _ rfl
  have b4 := rb2 4 _ rfl
  simp only [Nat.add_zero, Nat.add_assoc, Nat.reduceAdd] at b0 b1 b2 b3 b4
  have h2' := hid (h2.out w2 hK2 hbw2)
  have x4 := A2.cell 4
  go_upto_region 3 with (go_at_call 80; go_must (refine h2'.out.mono ?_; rintro e w3 ⟨rfl, hK3, hc3⟩))
  have A3 := hc3.arr A2 hpx
  obtain ⟨cv3, gv3, hB3⟩ := hK3.b
  have hS3 : w3.cell? ⟨q.g, 2, none⟩ = some (pF q.gc) ∧ w3.cell? ⟨w.heap.size, 3, none⟩ = some (.int .u8 o) := ⟨hB3.c2, A3.cell 3⟩
  clear hB3
  refine rgn (fun u => u.cell? ⟨q.g, 2, none⟩ = some (pF q.gc) ∧ u.cell? ⟨w.heap.size, 3, none⟩ = some (.int .u8 o)) hS3 (fun _ => ?_)
  refine tk2 0 rfl ?_
  refine tk2 1 rfl ?_
  refine tk2 2 rfl ?_
  refine tk2 3 rfl ?_
  refine tk2 4 rfl ?_
  refine tk2 5 rfl ?_
  refine tk2 6 rfl ?_
  refine tk2 7 rfl ?_
  refine tk2 8 rfl ?_
  refine tk2 9 rfl ?_
  refine tk2 10 rfl ?_
  have hK4 := (hK3.al0 (.cells #[.int .u8 o, .int .u8 r, .int .u8 r, .int .u8 (r + 1), .int .u32 0] 108)).dw
  have hc4 := ((Ch.refl P' w3).al (.cells #[.int .u8 o, .int .u8 r, .int .u8 r, .int .u8 (r + 1), .int .u32 0] 108)).dw
  have A4 := (A3.alloc (.cells #[.int .u8 o, .int .u8 r, .int .u8 r, .int .u8 (r + 1), .int .u32 0] 108)).drew
  have R4 := (Arr.new w3 108 #[.int .u8 o, .int .u8 r, .int .u8 r, .int .u8 (r + 1), .int .u32 0]).drew
  refine rd 11 rfl (fun K hK' => ?_)
  go_simp
  obtain ⟨cv4, gv4, hB4⟩ := hK4.b
  refine ko hK' ⟨hB4.c2, A4.cell 3⟩ (fun _ => ?_)
  clear hK' hB4
  refine rd 12 rfl (fun K hK' => ?_)
  go_simp
  refine (put_k (l := [⟨o, r, r, r + 1, 0⟩]) _ hK4 (CR.one R4) hl2).mono ?_
  rintro e w5 ⟨rfl, hK5, hc5⟩
  obtain ⟨cv5, gv5, hB5⟩ := hK5.b
  refine ko hK' ⟨hB5.c2, (hc5.arr A4 hpx).cell 3⟩ (fun _ => ?_)
  clear hK' hB5
  refine dn ?_
  go_wp2_with fail
  go_end0
  exact ⟨rfl, hfin.out _ _ hK5 (((hc2.trans hc3).trans hc4).trans hc5)⟩
end Go.Proofs.Ytimmiidkjpbffaa
/- Layer compile: loads, whatever expression, addresses. -/
namespace Go.Proofs.Ytimmiidkjpbffaa
open Go.RowKit
set_option maxRecDepth 100000
set_option linter.unusedVariables false
set_option linter.unusedSimpArgs false

variable {P : Nat → Prop} {q : KQ} {s : KS} {N : Nat}
theorem kIn_is {d : Nat} {t : ExT (d + 1)} {E : KE} : ((t.nd.k == 1) && decide (t.nd.n < E.da)) = kIn E (d + 1) t := rfl
theorem okX_0 {vs : Int} {t : ExT 0} (h : okX vs 0 t) : False := by obtain ⟨n, m, h⟩ := h; cases h
set_option maxHeartbeats 2000000 in
theorem load61_any {d : Nat} (hE : VA N d) {n v o r vs : Int} {g off m c : Nat} {ca : List Value} {ta : ExT d} (w : World) (hK : KK N P q s w) (hG : KG q) (hm : 1 ≤ m) (hg : g < N)
    (ra : w.rangeAt g off ca) (hA : ExM N w d ca ta) (oa : okX vs d ta) (hvs : vs ≤ 64) (hr : 0 ≤ r) (hrd : r + (d + 1) ≤ 100)
    (hb : (if kIn q.E d ta = true then kData 17 r 0 (kNum d ta) s else kData 17 r r 0 (kProbe r (kX q.E q.f d ta r s))).code.length ≤ 1000000) :
    Calls Try.prog 61 #[.pointer (some ⟨q.g, 0, none⟩), .agg #[.int .u8 4, .int .u64 n, .int .i64 v, .int .u8 o, .slice (some ⟨g, off, none⟩) m c], .int .u8 r] w (KZ N P q (if kIn q.E d ta = true then kData 17 r 0 (kNum d ta) s else kData 17 r r 0 (kProbe r (kX q.E q.f d ta r s))) w) := by
  cases d with
  | zero => exact absurd oa fun h => okX_0 h
  | succ d =>
  obtain ⟨sa, na, cpa, hca, hko, hSa⟩ := id hA
  subst hca
  obtain ⟨o1, ho1⟩ : ∃ o1, o1 = Obj.cells #[.int .u8 4, .int .u64 n, .int .i64 v, .int .u8 o, .slice (some ⟨g, off, none⟩) m c] 92 := ⟨_, rfl⟩
  obtain ⟨o2, ho2⟩ : ∃ o2, o2 = Obj.cells #[.int .u8 ta.nd.k, .int .u64 ta.nd.n, .int .i64 ta.nd.v, .int .u8 ta.nd.o, .slice sa na cpa] 92 := ⟨_, rfl⟩
  have hK1 := hK.al o1
  have hss : (w.alloc o1).heap.size = w.heap.size + 1 := by simp
  have hK2 := hK1.al o2
  rw [hss] at hK2
  have hfin : ∀ (s' : KS) (w' : World), KK N (fun k => (P k ∧ k ≠ w.heap.size) ∧ k ≠ w.heap.size + 1) q s' w' → Ch (fun k => (P k ∧ k ≠ w.heap.size) ∧ k ≠ w.heap.size + 1) ((w.alloc o1).alloc o2) w' → KK N P q s' w' ∧ Ch P w w' := by
    intro s' w' h1 h2
    rw [← hss] at h1 h2
    obtain ⟨h3, h4⟩ := hK1.out1 h1 h2
    exact hK.out1 h3 h4
  have A1 : Arr ((w.alloc o1).alloc o2) w.heap.size 92 #[.int .u8 4, .int .u64 n, .int .i64 v, .int .u8 o, .slice (some ⟨g, off, none⟩) m c] := by rw [ho1]; exact (Arr.new w 92 _).alloc o2
  have A2 : Arr ((w.alloc o1).alloc o2) (w.heap.size + 1) 92 #[.int .u8 ta.nd.k, .int .u64 ta.nd.n, .int .i64 ta.nd.v, .int .u8 ta.nd.o, .slice sa na cpa] := by rw [ho2, ← hss]; exact Arr.new _ 92 _
  have hbw1 : Below N w (w.alloc o1) := ((Ch.refl P w).al o1).bl hK.n
  have hbw2 : Below N w ((w.alloc o1).alloc o2) := (((Ch.refl P w).al o1).al o2).bl hK.n
  have hin := fun (u : World) (hu : KK N (fun k => (P k ∧ k ≠ w.heap.size) ∧ k ≠ w.heap.size + 1) q s u) => inData_any (k := ta.nd.k) (n := ta.nd.n) (v := ta.nd.v) (o := ta.nd.o) (sp := sa) (m := na) (c := cpa) u hu hG
  have hin1 := hin _ hK2
  rw [kIn_is] at hin1
  have ra1 := rgk ra hbw1 hg
  have a0 := ra1 0 _ rfl
  have a1 := ra1 1 _ rfl
  have a2 := ra1 2 _ rfl
  have a3 := ra1 3 _ rfl
  have a4 := ra1 4 _ rfl
  simp only [Nat.add_zero] at a0 a1 a2 a3 a4
  have hm0 : (0 : Int) < m := by omega
  by_cases hI : kIn q.E (d + 1) ta = true
  · rw [if_pos hI] at hb ⊢
    rw [hI] at hin1
    have hbl : s.code.length + 1 ≤ 1000000 := by simpa [kData, KS.to] using hb
    have hnum : 0 ≤ ta.nd.n ∧ ta.nd.n ≤ 1024 := by
      have h1 := hko.n.1
      have h2 := hG.d.2
      unfold kIn at hI
      simp at hI
      omega
    have hda := fun (u : World) (hu : KK N (fun k => (P k ∧ k ≠ w.heap.size) ∧ k ≠ w.heap.size + 1) q s u) => data_any (o := 17) (r := r) (a := 0) (m := ta.nd.n) u hu hbl hnum
    have hnn : kNum (d + 1) ta = ta.nd.n := rfl
    rw [hnn]
    generalize hPP : (fun k => (P k ∧ k ≠ w.heap.size) ∧ k ≠ w.heap.size + 1) = P' at *
    have hx1 : ¬ P' w.heap.size := by rw [← hPP]; exact fun e => e.1.2 rfl
    have hx2 : ¬ P' (w.heap.size + 1) := by rw [← hPP]; exact fun e => e.2 rfl
    subst ho1 ho2
    clear hss hPP hE hA oa ra ra1 hin hI hnn hSa hb hnum
    replace hda := hid hda
    replace hin1 := hid hin1
    replace hfin := hid hfin
    replace hG := hid hG
    replace hK := hid hK
    replace hK1 := hid hK1
    replace hko := hid hko
    generalize ta.nd.k = xk at *
    generalize ta.nd.n = xn at *
    generalize ta.nd.v = xv at *
    generalize ta.nd.o = xo at *
    unfold exC at *
    have x0 := A2.cell 0
    have x1 := A2.cell 1
    have x2 := A2.cell 2
    have x3 := A2.cell 3
    have x4 := A2.cell 4
    go_enter Try.func61, Try.ntmps61
    go_upto_if 13 with (go_at_call 82; go_must (refine hin1.out.mono ?_; rintro e w2 ⟨rfl, hK3, hc3⟩))
    have y1 := (hc3.arr A2 hx2).cell 1
    have hda2 := hid (hda.out w2 hK3)
    go_wp2_with (go_at_call 83; go_must (refine hda2.out.mono ?_; rintro e w4 ⟨rfl, hK4, hc4⟩))
    go_end0
    exact ⟨rfl, hfin.out _ _ hK4 (hc3.trans hc4)⟩
  · rw [if_neg hI] at hb ⊢
    have hI' : kIn q.E (d + 1) ta = false := by simpa using hI
    rw [hI'] at hin1
    have hbl : (kX q.E q.f (d + 1) ta r s).code.length + 2 ≤ 1000000 := by simpa [kData, KS.to, kProbe, KS.put, Nat.add_assoc] using hb
    have hv := fun (u : World) (hu : KK N (fun k => (P k ∧ k ≠ w.heap.size) ∧ k ≠ w.heap.size + 1) q s u) (hbu : Below N w u) => hE _ q s u _ ta vs r hu hG (ExM.below hbu _ _ ta hA) oa hvs hr (by omega) (by omega)
    have hpr := fun (u : World) (hu : KK N (fun k => (P k ∧ k ≠ w.heap.size) ∧ k ≠ w.heap.size + 1) q (kX q.E q.f (d + 1) ta r s) u) => probe_any (r := r) u hu (by omega)
    have hda := fun (u : World) (hu : KK N (fun k => (P k ∧ k ≠ w.heap.size) ∧ k ≠ w.heap.size + 1) q (kProbe r (kX q.E q.f (d + 1) ta r s)) u) => data_any (o := 17) (r := r) (a := r) (m := 0) u hu (by simpa [kProbe, KS.put] using hbl) (by omega)
    generalize hPP : (fun k => (P k ∧ k ≠ w.heap.size) ∧ k ≠ w.heap.size + 1) = P' at *
    have hx1 : ¬ P' w.heap.size := by rw [← hPP]; exact fun e => e.1.2 rfl
    have hx2 : ¬ P' (w.heap.size + 1) := by rw [← hPP]; exact fun e => e.2 rfl
    subst ho1 ho2
    clear hss hPP hE hA oa ra1 hin hI hI' hSa hb
    replace hda := hid hda
    replace hpr := hid hpr
    replace hv := hid hv
    replace hin1 := hid hin1
    replace hfin := hid hfin
    replace hG := hid hG
    replace hK := hid hK
    replace hK1 := hid hK1
    replace hko := hid hko
    replace ra := hid ra
    generalize kX q.E q.f (d + 1) ta r s = s1 at *
    generalize ta.nd.k = xk at *
    generalize ta.nd.n = xn at *
    generalize ta.nd.v = xv at *
    generalize ta.nd.o = xo at *
    unfold exC at *
    have x0 := A2.cell 0
    have x1 := A2.cell 1
    have x2 := A2.cell 2
    have x3 := A2.cell 3
    have x4 := A2.cell 4
    go_enter Try.func61, Try.ntmps61
    go_upto_region 4 with (go_at_call 82; go_must (refine hin1.out.mono ?_; rintro e w2 ⟨rfl, hK3, hc3⟩))
    have y4 := (hc3.arr A1 hx1).cell 4
    have hb3 := hbw2.trans (hK2.bel hc3)
    have ra2 := rgk ra.out hb3 hg
    have b0 := ra2 0 _ rfl
    have b1 := ra2 1 _ rfl
    have b2 := ra2 2 _ rfl
    have b3 := ra2 3 _ rfl
    have b4 := ra2 4 _ rfl
    simp only [Nat.add_zero] at b0 b1 b2 b3 b4
    clear ra2
    have hv2 := hid (hv.out w2 hK3 hb3)
    go_upto_region 5 with (go_at_call 80; go_must (refine hv2.out.mono ?_; rintro e w4 ⟨rfl, hK4, hc4⟩))
    have hp2 := hid (hpr.out w4 hK4)
    go_upto_region 6 with (go_at_call 84; go_must (refine hp2.out.mono ?_; rintro e w5 ⟨rfl, hK5, hc5⟩))
    have hd2 := hid (hda.out w5 hK5)
    go_wp2_with (go_at_call 83; go_must (refine hd2.out.mono ?_; rintro e w6 ⟨rfl, hK6, hc6⟩))
    go_end0
    exact ⟨rfl, hfin.out _ _ hK6 (((hc3.trans hc4).trans hc5).trans hc6)⟩
end Go.Proofs.Ytimmiidkjpbffaa
