/- Pj, Ig0, Ie1, Ie2, Ie3, Ie4, Ie5, Ie0, Ie6, Ie7, Ie8, Ie9. -/
import Derived.Test.YtoopgppahfnncaaDoorX07
import Derived.Test.YtoopgppahfnncaaDoorX02
import Derived.BigQuiet
import Derived.BigRegion
import Derived.ChangeKeysEq
import Derived.ChangeOld
import Derived.Deep.DeepCutAuto
import Derived.Deep.DrawnRows
import Derived.Deep.MidRow
import Derived.Deep.OwnRows
import Derived.Deep.QuietTactic
import Derived.Deep.RegionHeld3
import Derived.Deep.RegionLaw
import Derived.Deep.RegionWith
import Derived.Deep.WholeRow
import Derived.DeepKeys3
import Derived.Great.BuildSlice
import Derived.Great.FillDense
import Derived.Handy
import Derived.Laws.AppendOwnNone
import Derived.Laws.BitsLemmas
import Derived.Laws.BytesArg
import Derived.Laws.CopyOwn
import Derived.Laws.OwnMore
import Derived.Laws.ResultCell
import Derived.Laws.Tables
import Derived.Lib.SlBytesConst
import Derived.LoopIn
import Derived.LoopNIn
import Derived.LoopTactic
import Derived.Maps.AppendAt
import Derived.OpenShut
import Derived.OwnWalkIn
import Derived.ProofKit
import Derived.RangeFuncBound
import Derived.RangeFuncCalls
import Derived.RangeFuncLeaves
import Derived.RangeFuncNested
import Derived.RangeFuncRecord
import Derived.Recover
import Derived.Shelf.Abstract
import Derived.Shelf.RegionOpen
import Derived.ShutString
import Derived.SizedLaws
import Derived.TacticsInMore
import Derived.WalkKit
import Derived.WalkLawsBesides
import Derived.WalkSpells
/- Layer ir: parts of a program that may be. -/
namespace Go.Proofs.YtoopgppahfnncaaDoor
open Go.Shelf Go.RowKit Go.Sort
set_option maxRecDepth 100000
set_option linter.unusedVariables false
set_option linter.unusedSimpArgs false


theorem fld_sum {α : Type} {f : α → Nat → Option Nat} {g : α → Nat} : ∀ (l : List α) (n m : Nat), (∀ a ∈ l, ∀ n m, f a n = some m → g a + 64 * m ≤ 64 * n) → fld f l n = some m → (l.map g).sum + 64 * m ≤ 64 * n
  | [], n, m, _, h => by cases h; simp
  | a :: r, n, m, hg, h => by
    unfold fld at h
    cases h1 : f a n with
    | none => rw [h1] at h; cases h
    | some k =>
      rw [h1] at h
      have i1 := hg a (List.mem_cons_self ..) n k h1
      have i2 := fld_sum r k m (fun q hq => hg q (List.mem_cons_of_mem _ hq)) h
      simp only [List.map_cons, List.sum_cons]
      omega
theorem ex_len (vs : Int) : ∀ (d : Nat) (t : ExT d) (n m : Nat), okT vs d t → exN vs d t n = some m → (xT d t).length + 32 + 64 * m ≤ 64 * n
  | 0, _, _, _, h, _ => by cases h
  | d + 1, t, n, m, hok, h => by
    obtain ⟨hm, hok1, hl⟩ := hok
    unfold exN at h
    split at h
    · cases h
    next hc =>
      have hn0 : n ≠ 0 := fun e => hc (.inl e)
      have hs := fld_sum (g := fun a => (xT d a).length + 32) t.nd.l (n - 1) m (fun a ha n m h => ex_len vs d a n m (hl a ha) h) h
      have hn := hok1.n
      unfold U64 at hn
      have h20 := nd20 t.nd.n.toNat (by omega)
      have hio := itoa_len t.nd.v hok1.v
      have hsg := sgn_len t.nd.o
      show (xTn (xT d) t.nd).length + 32 + 64 * m ≤ _
      unfold xTn
      split
      · omega
      · split
        · simp only [List.length_cons]; omega
        · split
          · split
            next a b r hl2 =>
              rw [hl2] at hs
              simp only [List.map_cons, List.sum_cons] at hs
              simp only [List.length_append, List.length_cons, List.length_nil]
              omega
            · simp; omega
          · split
            next a r hl2 =>
              rw [hl2] at hs
              simp only [List.map_cons, List.sum_cons] at hs
              simp only [List.length_append, List.length_cons, List.length_nil]
              omega
            · simp; omega
theorem okS_of {ps : List Int} {vs : Int} {N : Nat} {w : World} (hps : ∀ q ∈ ps, q ≤ 64) : ∀ (d : Nat) (t : StT d) (n m : Nat) (cs : List Value), stN ps vs d t n = some m → StM N w d cs t → okS vs d t
  | 0, _, _, _, _, h, _ => by cases h
  | d + 1, t, n, m, cs, h, hM => by
    obtain ⟨sa, na, ca, sb, nb, cb, sc, nc, cc, -, hok, hA, hB, hC⟩ := hM
    unfold stN at h
    split at h
    · cases h
    next hc =>
      have hmy : mayS ps vs t.nd = true := by
        cases hm : mayS ps vs t.nd with
        | true => rfl
        | false => exact absurd (.inr hm) hc
      cases h1 : fld (exN vs 8) (StN.a (α := StT d) t) (n - 1) with
      | none => rw [h1] at h; cases h
      | some k =>
        rw [h1] at h
        replace h : (fld (stN ps vs d) (StN.th (α := StT d) t) k).bind (fld (stN ps vs d) (StN.el (α := StT d) t)) = some m := h
        cases h2 : fld (stN ps vs d) (StN.th (α := StT d) t) k with
        | none => rw [h2] at h; cases h
        | some k2 =>
          rw [h2] at h
          replace h : fld (stN ps vs d) (StN.el (α := StT d) t) k2 = some m := h
          refine ⟨⟨ps, hmy⟩, hok, ?_, fun a ha => ?_, fun a ha => ?_, fun a ha => ?_⟩
          · have hgd : ∀ i : Nat, ps.getD i 0 ≤ 64 := fun i => by
              rw [List.getD_eq_getElem?_getD]
              cases hi : ps[i]? with
              | none => simp
              | some q => simpa using hps q (List.mem_of_getElem? hi)
            have hg := hgd t.nd.f.toNat
            unfold mayS tkB at hmy
            repeat' split at hmy
            all_goals first | (exfalso; simp at hmy; done) | (simp only [decide_eq_true_eq] at hmy; omega)
          · obtain ⟨n', m', h'⟩ := fld_mem _ _ _ h1 a ha
            obtain ⟨i, hi⟩ := List.getElem?_of_mem ha
            have hlt : i < t.nd.a.length := (List.getElem?_eq_some_iff.1 hi).1
            obtain ⟨g, off, -, -, hR⟩ := hA.at0 (by have := hA.len.out; omega)
            obtain ⟨cs', -, hM'⟩ := hR i a hi
            exact okT_of 8 a n' m' cs' h' hM'
          · obtain ⟨n', m', h'⟩ := fld_mem _ _ _ h2 a ha
            obtain ⟨i, hi⟩ := List.getElem?_of_mem ha
            have hlt : i < t.nd.th.length := (List.getElem?_eq_some_iff.1 hi).1
            obtain ⟨g, off, -, -, hR⟩ := hB.at0 (by have := hB.len.out; omega)
            obtain ⟨cs', -, hM'⟩ := hR i a hi
            exact okS_of hps d a n' m' cs' h' hM'
          · obtain ⟨n', m', h'⟩ := fld_mem _ _ _ h a ha
            obtain ⟨i, hi⟩ := List.getElem?_of_mem ha
            have hlt : i < t.nd.el.length := (List.getElem?_eq_some_iff.1 hi).1
            obtain ⟨g, off, -, -, hR⟩ := hC.at0 (by have := hC.len.out; omega)
            obtain ⟨cs', -, hM'⟩ := hR i a hi
            exact okS_of hps d a n' m' cs' h' hM'
/-- A function's text; a program's. -/
def fT (f : FuT) : List UInt8 := ln [[102, 117, 110, 99], Lib.itoa f.p, Lib.itoa f.v] ++ sL 8 f.b ++ ln [[101, 110, 100]]
def pT (p : PgT) : List UInt8 := ln [[100, 97, 116, 97], Lib.itoa p.da] ++ (p.fs.map fT).flatten

theorem flat_len {α : Type} (X : α → List UInt8) (l : List α) : ((l.map X).flatten).length = (l.map fun a => (X a).length).sum := by
  induction l with
  | nil => rfl
  | cons a r ih => simp [ih]
theorem st_len {ps : List Int} {vs : Int} : ∀ (d : Nat) (t : StT d) (n m : Nat), okS vs d t → stN ps vs d t n = some m → (sT d t).length + 64 * m ≤ 64 * n
  | 0, _, _, _, h, _ => by cases h
  | d + 1, t, n, m, hok, h => by
    obtain ⟨⟨ps', hmy⟩, hok1, h400, hA, hTh, hEl⟩ := hok
    unfold stN at h
    split at h
    · cases h
    next hc =>
      have hn0 : n ≠ 0 := fun e => hc (.inl e)
      cases h1 : fld (exN vs 8) (StN.a (α := StT d) t) (n - 1) with
      | none => rw [h1] at h; cases h
      | some k =>
        rw [h1] at h
        replace h : (fld (stN ps vs d) (StN.th (α := StT d) t) k).bind (fld (stN ps vs d) (StN.el (α := StT d) t)) = some m := h
        cases h2 : fld (stN ps vs d) (StN.th (α := StT d) t) k with
        | none => rw [h2] at h; cases h
        | some k2 =>
          rw [h2] at h
          replace h : fld (stN ps vs d) (StN.el (α := StT d) t) k2 = some m := h
          have i1 := fld_sum (g := fun a => (xT 8 a).length + 32) t.nd.a (n - 1) k (fun a ha n m h => ex_len vs 8 a n m (hA a ha) h) h1
          have i2 := fld_sum (g := fun a => (sT d a).length) t.nd.th k k2 (fun a ha n m h => st_len d a n m (hTh a ha) h) h2
          have i3 := fld_sum (g := fun a => (sT d a).length) t.nd.el k2 m (fun a ha n m h => st_len d a n m (hEl a ha) h) h
          rw [← flat_len] at i2 i3
          have j2 := i2
          have j3 := i3
          simp only [List.length_flatten, List.map_map] at j2 j3
          have hv := itoa_len t.nd.v hok1.v
          have hf := itoa_len t.nd.f hok1.f
          have ht := itoa_len t.nd.t hok1.t
          have hcw : ∀ l : List (ExT 8), (Lib.join (cWords t.nd.v t.nd.f (l.map (xT 8))) [32]).length ≤ 55 + (l.map fun a => (xT 8 a).length + 32).sum := fun l => by
            cases l with
            | nil =>
              simp [cWords, cw, vT, Lib.join_cons, Lib.joinTail]
              omega
            | cons x r =>
              have e := congrArg List.length (cw_line (xT 8) t.nd.v t.nd.f x r)
              have hj : (jr (xT 8) [32, 44, 32] (x :: r) 0 []).length ≤ ((x :: r).map fun a => (xT 8 a).length + 32).sum - 29 := by
                rw [jr, if_pos rfl, jr_pos _ _ _ _ _ (by omega), List.length_append, flat_len]
                have : ∀ r : List (ExT 8), (r.map fun a => ([32, 44, 32] ++ xT 8 a).length).sum ≤ (r.map fun a => (xT 8 a).length + 32).sum := fun r => by
                  induction r with
                  | nil => simp
                  | cons z r ih =>
                    have e3 : ([32, 44, 32] ++ xT 8 z).length = (xT 8 z).length + 3 := by rw [List.length_append, Nat.add_comm]; rfl
                    simp only [List.map_cons, List.sum_cons]
                    omega
                have := this r
                simp only [List.map_cons, List.sum_cons, List.nil_append]
                omega
              have hpos : 32 ≤ ((x :: r).map fun a => (xT 8 a).length + 32).sum := by simp only [List.map_cons, List.sum_cons]; omega
              unfold ln at e
              simp only [List.length_append, List.length_cons, List.length_nil] at e
              omega
          have hcw := hcw t.nd.a
          show (sTn (sT d) t.nd).length + 64 * m ≤ _
          unfold sTn
          repeat' split
          all_goals first
            | (rename_i hl2; rw [hl2] at i1; simp only [List.map_cons, List.map_nil, List.sum_cons, List.sum_nil] at i1; simp [ln, Lib.join_cons, Lib.joinTail, vT]; omega)
            | (unfold ln; rw [List.length_append]; simp only [List.length_cons, List.length_nil]; omega)
            | (simp; omega)
end Go.Proofs.YtoopgppahfnncaaDoor
/- Layer ir: what the layers below give. -/
namespace Go.Proofs.YtoopgppahfnncaaDoor
open Go.RowKit
set_option maxRecDepth 100000
set_option linter.unusedVariables false
set_option linter.unusedSimpArgs false

theorem RS.take {α : Type} {N : Nat} {w : World} {sz : Nat} {R : List Value → α → Prop} {sp : Option Addr} {n cap : Nat} {l : List α} (h : RS N w sz R sp n cap l) {j : Nat} (hj : j ≤ n) : RS N w sz R sp j cap (l.take j) :=
  ⟨hid (by rw [List.length_take, ← h.len.out]; omega), fun e => by have := h.nil e; omega, by have := h.le; omega, h.big, by have := h.small; omega, fun h0 => by
    obtain ⟨g, off, e, hg, hR⟩ := h.at0 (by omega)
    refine ⟨g, off, e, hg, fun i a ha => hR i a ?_⟩
    by_cases hi : i < j
    · rw [List.getElem?_take_of_lt hi] at ha; exact ha
    · rw [List.getElem?_eq_none (by rw [List.length_take]; omega)] at ha; cases ha⟩
set_option maxHeartbeats 1000000 in
theorem beg_any {N : Nat} {sp : Option Addr} {n cap : Nat} (p : PgT) (w : World) (hS : RS N w 3 (FuM N w) sp n cap p.fs) (hN : N ≤ w.heap.size) :
    Calls Tryd.prog 34 #[.agg #[.slice sp n cap, .int .i64 p.da]] w (BoP (begB p) w) := by
  have b0 := ab w (.cells #[.slice sp n cap, .int .i64 p.da] 24)
  have hsm := hS.small
  have hl := hS.len.out
  by_cases h1 : 0 < n
  · have hw : IntKind.i64.wrap ((n : Int) - 1) = ((n - 1 : Nat) : Int) := by rw [IntKind.wrap_i64]; omega
    by_cases h2 : n ≤ 32
    · obtain ⟨t, ht⟩ : ∃ t, p.fs[n - 1]? = some t := ⟨p.fs[n - 1]'(by omega), List.getElem?_eq_getElem _⟩
      have hlast : p.fs.getLast?.map FuT.p = some t.p := by rw [List.getLast?_eq_getElem?, ← hl, ht]; rfl
      obtain ⟨g, off, rfl, hg, hR⟩ := hS.at0 h1
      obtain ⟨cs, hrg, hM⟩ := hR (n - 1) t ht
      obtain ⟨q1, q2, q3, rfl, -, -⟩ := hM
      have hrg2 := rb hrg (b0.mono hN) hg
      have c0 := hrg2 0 _ rfl
      simp only [Nat.add_zero] at c0
      obtain ⟨r, hr⟩ : ∃ r, r = begB p := ⟨_, rfl⟩
      rw [← hr]
      unfold begB at hr
      rw [hlast, ← hl] at hr
      replace hr := hid hr
      have hlt : n - 1 < n := by omega
      have h32 : ((n - 1 : Nat) : Int) < 32 := by omega
      have hn0 : (0 : Int) ≤ ((n - 1 : Nat) : Int) := by omega
      obtain ⟨x1, ex1⟩ : ∃ b, (t.p == 0) = b := ⟨_, rfl⟩
      have hj : Hid (0 < n ∧ n ≤ 32) := hid ⟨h1, h2⟩
      clear hS hR hrg hrg2 hl ht hlast h1 h2
      generalize n - 1 = j at *
      go_enter Tryd.func34, Tryd.ntmps34
      go_wp2_with fail
      all_goals
        go_ret
        refine ⟨congrArg (fun b => Ending.returned (.bool b)) (?_ : _ = r), b0⟩
        have h3 := hr.out
        have h4 := hj.out
        try subst ex1
        clear b0 c0
        rw [Bool.eq_iff_iff]
        simp_all
        try (first | omega | (intros; omega))
    · have e : begB p = false := decide_eq_false (by rintro ⟨-, h, -⟩; rw [← hl] at h; exact h2 h)
      rw [e]
      have h32 : ¬ ((n - 1 : Nat) : Int) < 32 := by omega
      have hn0 : (0 : Int) ≤ ((n - 1 : Nat) : Int) := by omega
      clear hS hl h1 h2 e
      generalize n - 1 = j at *
      go_enter Tryd.func34, Tryd.ntmps34
      go_wp2_with fail
      go_ret
      exact ⟨rfl, b0⟩
  · obtain rfl : n = 0 := by omega
    have e : begB p = false := decide_eq_false (by rintro ⟨h, -⟩; rw [← hl] at h; omega)
    rw [e]
    have hw : IntKind.i64.wrap (((0 : Nat) : Int) - 1) = -1 := by rw [IntKind.wrap_i64]; omega
    clear hS hl h1 e
    go_enter Tryd.func34, Tryd.ntmps34
    go_wp2_with fail
    go_ret
    exact ⟨rfl, b0⟩
end Go.Proofs.YtoopgppahfnncaaDoor
/- Layer ir: what the layers below give. -/
namespace Go.Proofs.YtoopgppahfnncaaDoor
open Go.RowKit
set_option maxRecDepth 100000
set_option linter.unusedVariables false
set_option linter.unusedSimpArgs false

set_option maxHeartbeats 2000000 in
theorem mayS_1 {α : Type} {N : Nat} {sp : Option Addr} {n cap : Nat} {fs : List FuT} {vs : Int} (w : World) (hS : RS N w 3 (FuM N w) sp n cap fs) (hN : N ≤ w.heap.size) (v f t : Int) (a : List (ExT 8)) (th el : List α) (sa : Option Addr) (na ca : Nat) (sb : Option Addr) (nb cb : Nat) (sc : Option Addr) (nc cc : Nat) (ha : na = a.length) (hth : nb = th.length) (hel : nc = el.length) :
    Calls Tryd.prog 62 #[.agg #[.slice sp n cap, .int .i64 vs], .agg (stC 1 v f t (.slice sa na ca) (.slice sb nb cb) (.slice sc nc cc)).toArray] w (BoP (mayS (fs.map FuT.p) vs ⟨1, v, f, t, a, th, el⟩) w) := by
  obtain ⟨r, hr⟩ : ∃ r, r = mayS (fs.map FuT.p) vs ⟨1, v, f, t, a, th, el⟩ := ⟨_, rfl⟩
  rw [← hr]
  have A0 := (Arr.new w 73 #[.slice sp n cap, .int .i64 vs]).alloc (.cells (stC 1 v f t (.slice sa na ca) (.slice sb nb cb) (.slice sc nc cc)).toArray 66)
  have A := Arr.new (w.alloc (.cells #[.slice sp n cap, .int .i64 vs] 73)) 66 (stC 1 v f t (.slice sa na ca) (.slice sb nb cb) (.slice sc nc cc)).toArray
  simp only [World.size_alloc] at A
  have hh := fun u => has_any sp n cap v vs u
  unfold BoP at hh
  simp [mayS] at hr
  all_goals replace hr := hid hr
  all_goals replace ha := hid ha
  all_goals replace hth := hid hth
  all_goals replace hel := hid hel
  all_goals clear hS
  all_goals unfold stC at *
  all_goals obtain ⟨x1, ex1⟩ : ∃ b, ((nb : Int) == 0) = b := ⟨_, rfl⟩
  all_goals obtain ⟨x2, ex2⟩ : ∃ b, ((nc : Int) == 0) = b := ⟨_, rfl⟩
  all_goals obtain ⟨x5, ex5⟩ : ∃ b, (f == 0) = b := ⟨_, rfl⟩
  all_goals obtain ⟨x6, ex6⟩ : ∃ b, (t == 0) = b := ⟨_, rfl⟩
  all_goals obtain ⟨x3, ex3⟩ : ∃ b, ((na : Int) == 1) = b := ⟨_, rfl⟩
  all_goals by_cases hv : 0 ≤ v ∧ v < vs
  all_goals first | rw [decide_eq_true hv] at hh | rw [decide_eq_false hv] at hh
  all_goals replace hv := hid hv
  all_goals go_enter Tryd.func62, Tryd.ntmps62
  all_goals go_wp2_with (go_at_call 73; go_must (refine (hh _).mono ?_; rintro e w1 ⟨rfl, hb1⟩; have B1 := ((ab w _).alloc (by simp) _).trans (hb1.mono (by simp; omega)); have d0 := (A0.bl hb1).cell 0; have d1 := (A0.bl hb1).cell 1; have c2 : w1.cell? ⟨w.heap.size + 1, 2, none⟩ = some (.int .i64 f) := (A.bl hb1).cell 2; have c3 : w1.cell? ⟨w.heap.size + 1, 3, none⟩ = some (.int .i64 t) := (A.bl hb1).cell 3))
  all_goals
    go_ret
    refine ⟨congrArg (fun b => Ending.returned (.bool b)) (?_ : _ = r), ?_⟩
    · have h1 := hr.out
      have h2 := ha.out
      have h3 := hth.out
      have h4 := hel.out
      have h5 := hv.out
      clear A A0 hh 
      try subst ex1
      try subst ex2
      try subst ex5
      try subst ex6
      try subst ex3
      rw [Bool.eq_iff_iff]
      simp_all
      try (first | omega | (intros; omega))
    · exact B1
end Go.Proofs.YtoopgppahfnncaaDoor
/- Layer ir: what the layers below give. -/
namespace Go.Proofs.YtoopgppahfnncaaDoor
open Go.RowKit
set_option maxRecDepth 100000
set_option linter.unusedVariables false
set_option linter.unusedSimpArgs false

set_option maxHeartbeats 2000000 in
theorem mayS_2 {α : Type} {N : Nat} {sp : Option Addr} {n cap : Nat} {fs : List FuT} {vs : Int} (w : World) (hS : RS N w 3 (FuM N w) sp n cap fs) (hN : N ≤ w.heap.size) (v f t : Int) (a : List (ExT 8)) (th el : List α) (sa : Option Addr) (na ca : Nat) (sb : Option Addr) (nb cb : Nat) (sc : Option Addr) (nc cc : Nat) (ha : na = a.length) (hth : nb = th.length) (hel : nc = el.length) :
    Calls Tryd.prog 62 #[.agg #[.slice sp n cap, .int .i64 vs], .agg (stC 2 v f t (.slice sa na ca) (.slice sb nb cb) (.slice sc nc cc)).toArray] w (BoP (mayS (fs.map FuT.p) vs ⟨2, v, f, t, a, th, el⟩) w) := by
  obtain ⟨r, hr⟩ : ∃ r, r = mayS (fs.map FuT.p) vs ⟨2, v, f, t, a, th, el⟩ := ⟨_, rfl⟩
  rw [← hr]
  have A0 := (Arr.new w 73 #[.slice sp n cap, .int .i64 vs]).alloc (.cells (stC 2 v f t (.slice sa na ca) (.slice sb nb cb) (.slice sc nc cc)).toArray 66)
  have A := Arr.new (w.alloc (.cells #[.slice sp n cap, .int .i64 vs] 73)) 66 (stC 2 v f t (.slice sa na ca) (.slice sb nb cb) (.slice sc nc cc)).toArray
  simp only [World.size_alloc] at A
  simp [mayS] at hr
  all_goals replace hr := hid hr
  all_goals replace ha := hid ha
  all_goals replace hth := hid hth
  all_goals replace hel := hid hel
  all_goals clear hS
  all_goals unfold stC at *
  all_goals obtain ⟨x1, ex1⟩ : ∃ b, ((nb : Int) == 0) = b := ⟨_, rfl⟩
  all_goals obtain ⟨x2, ex2⟩ : ∃ b, ((nc : Int) == 0) = b := ⟨_, rfl⟩
  all_goals obtain ⟨x5, ex5⟩ : ∃ b, (f == 0) = b := ⟨_, rfl⟩
  all_goals obtain ⟨x6, ex6⟩ : ∃ b, (t == 0) = b := ⟨_, rfl⟩
  all_goals obtain ⟨x3, ex3⟩ : ∃ b, ((na : Int) == 2) = b := ⟨_, rfl⟩
  all_goals obtain ⟨x4, ex4⟩ : ∃ b, (v == 0) = b := ⟨_, rfl⟩
  all_goals go_enter Tryd.func62, Tryd.ntmps62
  all_goals go_wp2_with (fail)
  all_goals
    go_ret
    refine ⟨congrArg (fun b => Ending.returned (.bool b)) (?_ : _ = r), ?_⟩
    · have h1 := hr.out
      have h2 := ha.out
      have h3 := hth.out
      have h4 := hel.out
      skip
      clear A A0  
      try subst ex1
      try subst ex2
      try subst ex5
      try subst ex6
      try subst ex3
      try subst ex4
      rw [Bool.eq_iff_iff]
      simp_all
      try (first | omega | (intros; omega))
    · exact (ab w _).alloc (by simp) _
end Go.Proofs.YtoopgppahfnncaaDoor
/- Layer ir: what the layers below give. -/
namespace Go.Proofs.YtoopgppahfnncaaDoor
open Go.RowKit
set_option maxRecDepth 100000
set_option linter.unusedVariables false
set_option linter.unusedSimpArgs false

set_option maxHeartbeats 2000000 in
theorem mayS_3 {α : Type} {N : Nat} {sp : Option Addr} {n cap : Nat} {fs : List FuT} {vs : Int} (w : World) (hS : RS N w 3 (FuM N w) sp n cap fs) (hN : N ≤ w.heap.size) (v f t : Int) (a : List (ExT 8)) (th el : List α) (sa : Option Addr) (na ca : Nat) (sb : Option Addr) (nb cb : Nat) (sc : Option Addr) (nc cc : Nat) (ha : na = a.length) (hth : nb = th.length) (hel : nc = el.length) :
    Calls Tryd.prog 62 #[.agg #[.slice sp n cap, .int .i64 vs], .agg (stC 3 v f t (.slice sa na ca) (.slice sb nb cb) (.slice sc nc cc)).toArray] w (BoP (mayS (fs.map FuT.p) vs ⟨3, v, f, t, a, th, el⟩) w) := by
  obtain ⟨r, hr⟩ : ∃ r, r = mayS (fs.map FuT.p) vs ⟨3, v, f, t, a, th, el⟩ := ⟨_, rfl⟩
  rw [← hr]
  have A0 := (Arr.new w 73 #[.slice sp n cap, .int .i64 vs]).alloc (.cells (stC 3 v f t (.slice sa na ca) (.slice sb nb cb) (.slice sc nc cc)).toArray 66)
  have A := Arr.new (w.alloc (.cells #[.slice sp n cap, .int .i64 vs] 73)) 66 (stC 3 v f t (.slice sa na ca) (.slice sb nb cb) (.slice sc nc cc)).toArray
  simp only [World.size_alloc] at A
  simp [mayS] at hr
  all_goals replace hr := hid hr
  all_goals replace ha := hid ha
  all_goals replace hth := hid hth
  all_goals replace hel := hid hel
  all_goals clear hS
  all_goals unfold stC at *
  all_goals obtain ⟨x1, ex1⟩ : ∃ b, ((nb : Int) == 0) = b := ⟨_, rfl⟩
  all_goals obtain ⟨x2, ex2⟩ : ∃ b, ((nc : Int) == 0) = b := ⟨_, rfl⟩
  all_goals obtain ⟨x5, ex5⟩ : ∃ b, (f == 0) = b := ⟨_, rfl⟩
  all_goals obtain ⟨x6, ex6⟩ : ∃ b, (t == 0) = b := ⟨_, rfl⟩
  all_goals obtain ⟨x3, ex3⟩ : ∃ b, ((na : Int) == 1) = b := ⟨_, rfl⟩
  all_goals obtain ⟨x4, ex4⟩ : ∃ b, (v == 0) = b := ⟨_, rfl⟩
  all_goals go_enter Tryd.func62, Tryd.ntmps62
  all_goals go_wp2_with (fail)
  all_goals
    go_ret
    refine ⟨congrArg (fun b => Ending.returned (.bool b)) (?_ : _ = r), ?_⟩
    · have h1 := hr.out
      have h2 := ha.out
      have h3 := hth.out
      have h4 := hel.out
      skip
      clear A A0  
      try subst ex1
      try subst ex2
      try subst ex5
      try subst ex6
      try subst ex3
      try subst ex4
      rw [Bool.eq_iff_iff]
      simp_all
      try (first | omega | (intros; omega))
    · exact (ab w _).alloc (by simp) _
end Go.Proofs.YtoopgppahfnncaaDoor
/- Layer ir: what the layers below give. -/
namespace Go.Proofs.YtoopgppahfnncaaDoor
open Go.RowKit
set_option maxRecDepth 100000
set_option linter.unusedVariables false
set_option linter.unusedSimpArgs false

set_option maxHeartbeats 2000000 in
theorem mayS_4 {α : Type} {N : Nat} {sp : Option Addr} {n cap : Nat} {fs : List FuT} {vs : Int} (w : World) (hS : RS N w 3 (FuM N w) sp n cap fs) (hN : N ≤ w.heap.size) (v f t : Int) (a : List (ExT 8)) (th el : List α) (sa : Option Addr) (na ca : Nat) (sb : Option Addr) (nb cb : Nat) (sc : Option Addr) (nc cc : Nat) (ha : na = a.length) (hth : nb = th.length) (hel : nc = el.length) :
    Calls Tryd.prog 62 #[.agg #[.slice sp n cap, .int .i64 vs], .agg (stC 4 v f t (.slice sa na ca) (.slice sb nb cb) (.slice sc nc cc)).toArray] w (BoP (mayS (fs.map FuT.p) vs ⟨4, v, f, t, a, th, el⟩) w) := by
  obtain ⟨r, hr⟩ : ∃ r, r = mayS (fs.map FuT.p) vs ⟨4, v, f, t, a, th, el⟩ := ⟨_, rfl⟩
  rw [← hr]
  have A0 := (Arr.new w 73 #[.slice sp n cap, .int .i64 vs]).alloc (.cells (stC 4 v f t (.slice sa na ca) (.slice sb nb cb) (.slice sc nc cc)).toArray 66)
  have A := Arr.new (w.alloc (.cells #[.slice sp n cap, .int .i64 vs] 73)) 66 (stC 4 v f t (.slice sa na ca) (.slice sb nb cb) (.slice sc nc cc)).toArray
  simp only [World.size_alloc] at A
  simp [mayS] at hr
  all_goals replace hr := hid hr
  all_goals replace ha := hid ha
  all_goals replace hth := hid hth
  all_goals replace hel := hid hel
  all_goals clear hS
  all_goals unfold stC at *
  all_goals obtain ⟨x1, ex1⟩ : ∃ b, ((nb : Int) == 0) = b := ⟨_, rfl⟩
  all_goals obtain ⟨x2, ex2⟩ : ∃ b, ((nc : Int) == 0) = b := ⟨_, rfl⟩
  all_goals obtain ⟨x5, ex5⟩ : ∃ b, (f == 0) = b := ⟨_, rfl⟩
  all_goals obtain ⟨x6, ex6⟩ : ∃ b, (t == 0) = b := ⟨_, rfl⟩
  all_goals obtain ⟨x3, ex3⟩ : ∃ b, ((na : Int) == 1) = b := ⟨_, rfl⟩
  all_goals obtain ⟨x4, ex4⟩ : ∃ b, (v == 0) = b := ⟨_, rfl⟩
  all_goals go_enter Tryd.func62, Tryd.ntmps62
  all_goals go_wp2_with (fail)
  all_goals
    go_ret
    refine ⟨congrArg (fun b => Ending.returned (.bool b)) (?_ : _ = r), ?_⟩
    · have h1 := hr.out
      have h2 := ha.out
      have h3 := hth.out
      have h4 := hel.out
      skip
      clear A A0  
      try subst ex1
      try subst ex2
      try subst ex5
      try subst ex6
      try subst ex3
      try subst ex4
      rw [Bool.eq_iff_iff]
      simp_all
      try (first | omega | (intros; omega))
    · exact (ab w _).alloc (by simp) _
end Go.Proofs.YtoopgppahfnncaaDoor
/- Layer ir: what the layers below give. -/
namespace Go.Proofs.YtoopgppahfnncaaDoor
open Go.RowKit
set_option maxRecDepth 100000
set_option linter.unusedVariables false
set_option linter.unusedSimpArgs false

set_option maxHeartbeats 2000000 in
theorem mayS_5 {α : Type} {N : Nat} {sp : Option Addr} {n cap : Nat} {fs : List FuT} {vs : Int} (w : World) (hS : RS N w 3 (FuM N w) sp n cap fs) (hN : N ≤ w.heap.size) (v f t : Int) (a : List (ExT 8)) (th el : List α) (sa : Option Addr) (na ca : Nat) (sb : Option Addr) (nb cb : Nat) (sc : Option Addr) (nc cc : Nat) (ha : na = a.length) (hth : nb = th.length) (hel : nc = el.length) :
    Calls Tryd.prog 62 #[.agg #[.slice sp n cap, .int .i64 vs], .agg (stC 5 v f t (.slice sa na ca) (.slice sb nb cb) (.slice sc nc cc)).toArray] w (BoP (mayS (fs.map FuT.p) vs ⟨5, v, f, t, a, th, el⟩) w) := by
  obtain ⟨r, hr⟩ : ∃ r, r = mayS (fs.map FuT.p) vs ⟨5, v, f, t, a, th, el⟩ := ⟨_, rfl⟩
  rw [← hr]
  have A0 := (Arr.new w 73 #[.slice sp n cap, .int .i64 vs]).alloc (.cells (stC 5 v f t (.slice sa na ca) (.slice sb nb cb) (.slice sc nc cc)).toArray 66)
  have A := Arr.new (w.alloc (.cells #[.slice sp n cap, .int .i64 vs] 73)) 66 (stC 5 v f t (.slice sa na ca) (.slice sb nb cb) (.slice sc nc cc)).toArray
  simp only [World.size_alloc] at A
  simp [mayS] at hr
  all_goals replace hr := hid hr
  all_goals replace ha := hid ha
  all_goals replace hth := hid hth
  all_goals replace hel := hid hel
  all_goals clear hS
  all_goals unfold stC at *
  all_goals obtain ⟨x1, ex1⟩ : ∃ b, ((nb : Int) == 0) = b := ⟨_, rfl⟩
  all_goals obtain ⟨x2, ex2⟩ : ∃ b, ((nc : Int) == 0) = b := ⟨_, rfl⟩
  all_goals obtain ⟨x5, ex5⟩ : ∃ b, (f == 0) = b := ⟨_, rfl⟩
  all_goals obtain ⟨x6, ex6⟩ : ∃ b, (t == 0) = b := ⟨_, rfl⟩
  all_goals obtain ⟨x3, ex3⟩ : ∃ b, ((na : Int) == 1) = b := ⟨_, rfl⟩
  all_goals obtain ⟨x4, ex4⟩ : ∃ b, (v == 0) = b := ⟨_, rfl⟩
  all_goals go_enter Tryd.func62, Tryd.ntmps62
  all_goals go_wp2_with (fail)
  all_goals
    go_ret
    refine ⟨congrArg (fun b => Ending.returned (.bool b)) (?_ : _ = r), ?_⟩
    · have h1 := hr.out
      have h2 := ha.out
      have h3 := hth.out
      have h4 := hel.out
      skip
      clear A A0  
      try subst ex1
      try subst ex2
      try subst ex5
      try subst ex6
      try subst ex3
      try subst ex4
      rw [Bool.eq_iff_iff]
      simp_all
      try (first | omega | (intros; omega))
    · exact (ab w _).alloc (by simp) _
end Go.Proofs.YtoopgppahfnncaaDoor
/- Layer ir: what the layers below give. -/
namespace Go.Proofs.YtoopgppahfnncaaDoor
open Go.RowKit
set_option maxRecDepth 100000
set_option linter.unusedVariables false
set_option linter.unusedSimpArgs false

set_option maxHeartbeats 1000000 in
theorem takes_any {N : Nat} {sp : Option Addr} {n cap : Nat} {fs : List FuT} {vs f a : Int} (w : World) (hS : RS N w 3 (FuM N w) sp n cap fs) (hN : N ≤ w.heap.size) :
    Calls Tryd.prog 74 #[.agg #[.slice sp n cap, .int .i64 vs], .int .i64 f, .int .i64 a] w (BoP (tkB (fs.map FuT.p) f a) w) := by
  unfold tkB
  have b0 := ab w (.cells #[.slice sp n cap, .int .i64 vs] 73)
  have hl := hS.len
  have hbig := hS.small
  by_cases h1 : 0 ≤ f
  · by_cases h2 : f < n
    · obtain ⟨j, rfl⟩ : ∃ j : Nat, f = j := ⟨f.toNat, by omega⟩
      obtain ⟨t, ht⟩ : ∃ t, fs[j]? = some t := ⟨fs[j]'(by rw [← hl.out]; omega), List.getElem?_eq_getElem _⟩
      obtain ⟨g, off, rfl, hg, hR⟩ := hS.at0 (by omega)
      obtain ⟨cs, hrg, hM⟩ := hR j t ht
      obtain ⟨q1, q2, q3, rfl, -, -⟩ := hM
      have hrg2 := rb hrg (b0.mono hN) hg
      have c0 := hrg2 0 _ rfl
      simp only [Nat.add_zero] at c0
      have e : (fs.map FuT.p).getD (j : Int).toNat 0 = t.p := by simp [List.getD, ht]
      have e2 : (0 ≤ (j : Int) ∧ (j : Int) < (fs.map FuT.p).length ∧ a = (fs.map FuT.p).getD (j : Int).toNat 0) ↔ a = t.p := by
        rw [e, List.length_map, ← hl.out]
        exact ⟨fun h => h.2.2, fun h => ⟨h1, h2, h⟩⟩
      have ed : decide (0 ≤ (j : Int) ∧ (j : Int) < (fs.map FuT.p).length ∧ a = (fs.map FuT.p).getD (j : Int).toNat 0) = decide (a = t.p) := by simp only [e2]
      rw [ed]
      have hjn : j < n := by omega
      clear hS hR hrg hrg2 hl e e2 ht ed
      go_enter Tryd.func74, Tryd.ntmps74
      go_wp2_with fail
      go_ret
      exact ⟨rfl, b0⟩
    · rw [decide_eq_false (by rintro ⟨-, h, -⟩; rw [List.length_map, ← hl.out] at h; omega)]
      clear hS hl
      go_enter Tryd.func74, Tryd.ntmps74
      go_wp2_with fail
      go_ret
      exact ⟨rfl, b0⟩
  · rw [decide_eq_false (fun h => h1 h.1)]
    clear hS hl
    go_enter Tryd.func74, Tryd.ntmps74
    go_wp2_with fail
    go_ret
    exact ⟨rfl, b0⟩
end Go.Proofs.YtoopgppahfnncaaDoor
/- Layer ir: what the layers below give. -/
namespace Go.Proofs.YtoopgppahfnncaaDoor
open Go.RowKit
set_option maxRecDepth 100000
set_option linter.unusedVariables false
set_option linter.unusedSimpArgs false

set_option maxHeartbeats 2000000 in
theorem mayS_6 {α : Type} {N : Nat} {sp : Option Addr} {n cap : Nat} {fs : List FuT} {vs : Int} (w : World) (hS : RS N w 3 (FuM N w) sp n cap fs) (hN : N ≤ w.heap.size) (v f t : Int) (a : List (ExT 8)) (th el : List α) (sa : Option Addr) (na ca : Nat) (sb : Option Addr) (nb cb : Nat) (sc : Option Addr) (nc cc : Nat) (ha : na = a.length) (hth : nb = th.length) (hel : nc = el.length) :
    Calls Tryd.prog 62 #[.agg #[.slice sp n cap, .int .i64 vs], .agg (stC 6 v f t (.slice sa na ca) (.slice sb nb cb) (.slice sc nc cc)).toArray] w (BoP (mayS (fs.map FuT.p) vs ⟨6, v, f, t, a, th, el⟩) w) := by
  obtain ⟨r, hr⟩ : ∃ r, r = mayS (fs.map FuT.p) vs ⟨6, v, f, t, a, th, el⟩ := ⟨_, rfl⟩
  rw [← hr]
  have A0 := (Arr.new w 73 #[.slice sp n cap, .int .i64 vs]).alloc (.cells (stC 6 v f t (.slice sa na ca) (.slice sb nb cb) (.slice sc nc cc)).toArray 66)
  have A := Arr.new (w.alloc (.cells #[.slice sp n cap, .int .i64 vs] 73)) 66 (stC 6 v f t (.slice sa na ca) (.slice sb nb cb) (.slice sc nc cc)).toArray
  simp only [World.size_alloc] at A
  have hh := fun u => has_any sp n cap v vs u
  unfold BoP at hh
  have b0 : Below w.heap.size w ((w.alloc (.cells #[.slice sp n cap, .int .i64 vs] 73)).alloc (.cells (stC 6 v f t (.slice sa na ca) (.slice sb nb cb) (.slice sc nc cc)).toArray 66)) := (ab w _).alloc (by simp) _
  have ht := fun (u : World) (hb : Below ((w.alloc (.cells #[.slice sp n cap, .int .i64 vs] 73)).alloc (.cells (stC 6 v f t (.slice sa na ca) (.slice sb nb cb) (.slice sc nc cc)).toArray 66)).heap.size ((w.alloc (.cells #[.slice sp n cap, .int .i64 vs] 73)).alloc (.cells (stC 6 v f t (.slice sa na ca) (.slice sb nb cb) (.slice sc nc cc)).toArray 66)) u) => takes_any (vs := vs) (f := f) (a := (na : Int)) u (hS.imp ((b0.trans (hb.mono b0.size)).mono hN) (FuM.below ((b0.trans (hb.mono b0.size)).mono hN))) (by have := (b0.trans (hb.mono b0.size)).size; omega)
  unfold BoP at ht
  clear b0
  rw [ha] at ht
  cases htk : tkB (fs.map FuT.p) f a.length
  all_goals simp only [htk] at ht
  all_goals rw [← ha] at ht
  all_goals simp [mayS, htk] at hr
  all_goals clear htk
  all_goals replace hr := hid hr
  all_goals replace ha := hid ha
  all_goals replace hth := hid hth
  all_goals replace hel := hid hel
  all_goals clear hS
  all_goals unfold stC at *
  all_goals obtain ⟨x1, ex1⟩ : ∃ b, ((nb : Int) == 0) = b := ⟨_, rfl⟩
  all_goals obtain ⟨x2, ex2⟩ : ∃ b, ((nc : Int) == 0) = b := ⟨_, rfl⟩
  all_goals obtain ⟨x6, ex6⟩ : ∃ b, (t == 0) = b := ⟨_, rfl⟩
  all_goals by_cases hv : 0 ≤ v ∧ v < vs
  all_goals first | rw [decide_eq_true hv] at hh | rw [decide_eq_false hv] at hh
  all_goals replace hv := hid hv
  all_goals go_enter Tryd.func62, Tryd.ntmps62
  all_goals go_wp2_with (first | (go_at_call 73; go_must (refine (hh _).mono ?_; rintro e w1 ⟨rfl, hb1⟩; have B1 := ((ab w _).alloc (by simp) _).trans (hb1.mono (by simp; omega)); have d0 := (A0.bl hb1).cell 0; have d1 := (A0.bl hb1).cell 1; have c2 : w1.cell? ⟨w.heap.size + 1, 2, none⟩ = some (.int .i64 f) := (A.bl hb1).cell 2; have c3 : w1.cell? ⟨w.heap.size + 1, 3, none⟩ = some (.int .i64 t) := (A.bl hb1).cell 3; have ht := ht w1 hb1)) | (go_at_call 74; go_must (refine ht.mono ?_; rintro e w2 ⟨rfl, hb2⟩; have B2 := B1.trans (hb2.mono B1.size); have e3 : w2.cell? ⟨w.heap.size + 1, 3, none⟩ = some (.int .i64 t) := ((A.bl hb1).bl hb2).cell 3)))
  all_goals
    go_ret
    refine ⟨congrArg (fun b => Ending.returned (.bool b)) (?_ : _ = r), ?_⟩
    · have h1 := hr.out
      have h2 := ha.out
      have h3 := hth.out
      have h4 := hel.out
      have h5 := hv.out
      clear A A0 hh ht
      try subst ex1
      try subst ex2
      try subst ex6
      rw [Bool.eq_iff_iff]
      simp_all
      try (first | omega | (intros; omega))
    · first | exact B2 | exact B1
end Go.Proofs.YtoopgppahfnncaaDoor
/- Layer ir: what the layers below give. -/
namespace Go.Proofs.YtoopgppahfnncaaDoor
open Go.RowKit
set_option maxRecDepth 100000
set_option linter.unusedVariables false
set_option linter.unusedSimpArgs false

set_option maxHeartbeats 2000000 in
theorem mayS_7 {α : Type} {N : Nat} {sp : Option Addr} {n cap : Nat} {fs : List FuT} {vs : Int} (w : World) (hS : RS N w 3 (FuM N w) sp n cap fs) (hN : N ≤ w.heap.size) (v f t : Int) (a : List (ExT 8)) (th el : List α) (sa : Option Addr) (na ca : Nat) (sb : Option Addr) (nb cb : Nat) (sc : Option Addr) (nc cc : Nat) (ha : na = a.length) (hth : nb = th.length) (hel : nc = el.length) :
    Calls Tryd.prog 62 #[.agg #[.slice sp n cap, .int .i64 vs], .agg (stC 7 v f t (.slice sa na ca) (.slice sb nb cb) (.slice sc nc cc)).toArray] w (BoP (mayS (fs.map FuT.p) vs ⟨7, v, f, t, a, th, el⟩) w) := by
  obtain ⟨r, hr⟩ : ∃ r, r = mayS (fs.map FuT.p) vs ⟨7, v, f, t, a, th, el⟩ := ⟨_, rfl⟩
  rw [← hr]
  have A0 := (Arr.new w 73 #[.slice sp n cap, .int .i64 vs]).alloc (.cells (stC 7 v f t (.slice sa na ca) (.slice sb nb cb) (.slice sc nc cc)).toArray 66)
  have A := Arr.new (w.alloc (.cells #[.slice sp n cap, .int .i64 vs] 73)) 66 (stC 7 v f t (.slice sa na ca) (.slice sb nb cb) (.slice sc nc cc)).toArray
  simp only [World.size_alloc] at A
  simp [mayS] at hr
  all_goals replace hr := hid hr
  all_goals replace ha := hid ha
  all_goals replace hth := hid hth
  all_goals replace hel := hid hel
  all_goals clear hS
  all_goals unfold stC at *
  all_goals obtain ⟨x1, ex1⟩ : ∃ b, ((nb : Int) == 0) = b := ⟨_, rfl⟩
  all_goals obtain ⟨x2, ex2⟩ : ∃ b, ((nc : Int) == 0) = b := ⟨_, rfl⟩
  all_goals obtain ⟨x5, ex5⟩ : ∃ b, (f == 0) = b := ⟨_, rfl⟩
  all_goals obtain ⟨x3, ex3⟩ : ∃ b, ((na : Int) == 3) = b := ⟨_, rfl⟩
  all_goals obtain ⟨x4, ex4⟩ : ∃ b, (v == 0) = b := ⟨_, rfl⟩
  all_goals go_enter Tryd.func62, Tryd.ntmps62
  all_goals go_wp2_with (fail)
  all_goals
    go_ret
    refine ⟨congrArg (fun b => Ending.returned (.bool b)) (?_ : _ = r), ?_⟩
    · have h1 := hr.out
      have h2 := ha.out
      have h3 := hth.out
      have h4 := hel.out
      skip
      clear A A0  
      try subst ex1
      try subst ex2
      try subst ex5
      try subst ex3
      try subst ex4
      rw [Bool.eq_iff_iff]
      simp_all
      try (first | omega | (intros; omega))
    · exact (ab w _).alloc (by simp) _
end Go.Proofs.YtoopgppahfnncaaDoor
/- Layer ir: what the layers below give. -/
namespace Go.Proofs.YtoopgppahfnncaaDoor
open Go.RowKit
set_option maxRecDepth 100000
set_option linter.unusedVariables false
set_option linter.unusedSimpArgs false

set_option maxHeartbeats 2000000 in
theorem mayS_8 {α : Type} {N : Nat} {sp : Option Addr} {n cap : Nat} {fs : List FuT} {vs : Int} (w : World) (hS : RS N w 3 (FuM N w) sp n cap fs) (hN : N ≤ w.heap.size) (v f t : Int) (a : List (ExT 8)) (th el : List α) (sa : Option Addr) (na ca : Nat) (sb : Option Addr) (nb cb : Nat) (sc : Option Addr) (nc cc : Nat) (ha : na = a.length) (hth : nb = th.length) (hel : nc = el.length) :
    Calls Tryd.prog 62 #[.agg #[.slice sp n cap, .int .i64 vs], .agg (stC 8 v f t (.slice sa na ca) (.slice sb nb cb) (.slice sc nc cc)).toArray] w (BoP (mayS (fs.map FuT.p) vs ⟨8, v, f, t, a, th, el⟩) w) := by
  obtain ⟨r, hr⟩ : ∃ r, r = mayS (fs.map FuT.p) vs ⟨8, v, f, t, a, th, el⟩ := ⟨_, rfl⟩
  rw [← hr]
  have A0 := (Arr.new w 73 #[.slice sp n cap, .int .i64 vs]).alloc (.cells (stC 8 v f t (.slice sa na ca) (.slice sb nb cb) (.slice sc nc cc)).toArray 66)
  have A := Arr.new (w.alloc (.cells #[.slice sp n cap, .int .i64 vs] 73)) 66 (stC 8 v f t (.slice sa na ca) (.slice sb nb cb) (.slice sc nc cc)).toArray
  simp only [World.size_alloc] at A
  have hh := fun u => has_any sp n cap v vs u
  unfold BoP at hh
  simp [mayS] at hr
  all_goals replace hr := hid hr
  all_goals replace ha := hid ha
  all_goals replace hth := hid hth
  all_goals replace hel := hid hel
  all_goals clear hS
  all_goals unfold stC at *
  all_goals obtain ⟨x1, ex1⟩ : ∃ b, ((nb : Int) == 0) = b := ⟨_, rfl⟩
  all_goals obtain ⟨x2, ex2⟩ : ∃ b, ((nc : Int) == 0) = b := ⟨_, rfl⟩
  all_goals obtain ⟨x5, ex5⟩ : ∃ b, (f == 0) = b := ⟨_, rfl⟩
  all_goals obtain ⟨x6, ex6⟩ : ∃ b, (t == 0) = b := ⟨_, rfl⟩
  all_goals obtain ⟨x3, ex3⟩ : ∃ b, ((na : Int) == 2) = b := ⟨_, rfl⟩
  all_goals by_cases hv : 0 ≤ v ∧ v < vs
  all_goals first | rw [decide_eq_true hv] at hh | rw [decide_eq_false hv] at hh
  all_goals replace hv := hid hv
  all_goals go_enter Tryd.func62, Tryd.ntmps62
  all_goals go_wp2_with (go_at_call 73; go_must (refine (hh _).mono ?_; rintro e w1 ⟨rfl, hb1⟩; have B1 := ((ab w _).alloc (by simp) _).trans (hb1.mono (by simp; omega)); have d0 := (A0.bl hb1).cell 0; have d1 := (A0.bl hb1).cell 1; have c2 : w1.cell? ⟨w.heap.size + 1, 2, none⟩ = some (.int .i64 f) := (A.bl hb1).cell 2; have c3 : w1.cell? ⟨w.heap.size + 1, 3, none⟩ = some (.int .i64 t) := (A.bl hb1).cell 3))
  all_goals
    go_ret
    refine ⟨congrArg (fun b => Ending.returned (.bool b)) (?_ : _ = r), ?_⟩
    · have h1 := hr.out
      have h2 := ha.out
      have h3 := hth.out
      have h4 := hel.out
      have h5 := hv.out
      clear A A0 hh 
      try subst ex1
      try subst ex2
      try subst ex5
      try subst ex6
      try subst ex3
      rw [Bool.eq_iff_iff]
      simp_all
      try (first | omega | (intros; omega))
    · exact B1
end Go.Proofs.YtoopgppahfnncaaDoor
/- Layer ir: what the layers below give. -/
namespace Go.Proofs.YtoopgppahfnncaaDoor
open Go.RowKit
set_option maxRecDepth 100000
set_option linter.unusedVariables false
set_option linter.unusedSimpArgs false

set_option maxHeartbeats 2000000 in
theorem mayS_9 {α : Type} {N : Nat} {sp : Option Addr} {n cap : Nat} {fs : List FuT} {vs : Int} (w : World) (hS : RS N w 3 (FuM N w) sp n cap fs) (hN : N ≤ w.heap.size) (v f t : Int) (a : List (ExT 8)) (th el : List α) (sa : Option Addr) (na ca : Nat) (sb : Option Addr) (nb cb : Nat) (sc : Option Addr) (nc cc : Nat) (ha : na = a.length) (hth : nb = th.length) (hel : nc = el.length) :
    Calls Tryd.prog 62 #[.agg #[.slice sp n cap, .int .i64 vs], .agg (stC 9 v f t (.slice sa na ca) (.slice sb nb cb) (.slice sc nc cc)).toArray] w (BoP (mayS (fs.map FuT.p) vs ⟨9, v, f, t, a, th, el⟩) w) := by
  obtain ⟨r, hr⟩ : ∃ r, r = mayS (fs.map FuT.p) vs ⟨9, v, f, t, a, th, el⟩ := ⟨_, rfl⟩
  rw [← hr]
  have A0 := (Arr.new w 73 #[.slice sp n cap, .int .i64 vs]).alloc (.cells (stC 9 v f t (.slice sa na ca) (.slice sb nb cb) (.slice sc nc cc)).toArray 66)
  have A := Arr.new (w.alloc (.cells #[.slice sp n cap, .int .i64 vs] 73)) 66 (stC 9 v f t (.slice sa na ca) (.slice sb nb cb) (.slice sc nc cc)).toArray
  simp only [World.size_alloc] at A
  have hh := fun u => has_any sp n cap v vs u
  unfold BoP at hh
  simp [mayS] at hr
  all_goals replace hr := hid hr
  all_goals replace ha := hid ha
  all_goals replace hth := hid hth
  all_goals replace hel := hid hel
  all_goals clear hS
  all_goals unfold stC at *
  all_goals obtain ⟨x1, ex1⟩ : ∃ b, ((nb : Int) == 0) = b := ⟨_, rfl⟩
  all_goals obtain ⟨x2, ex2⟩ : ∃ b, ((nc : Int) == 0) = b := ⟨_, rfl⟩
  all_goals obtain ⟨x5, ex5⟩ : ∃ b, (f == 0) = b := ⟨_, rfl⟩
  all_goals obtain ⟨x6, ex6⟩ : ∃ b, (t == 0) = b := ⟨_, rfl⟩
  all_goals obtain ⟨x3, ex3⟩ : ∃ b, ((na : Int) == 1) = b := ⟨_, rfl⟩
  all_goals by_cases hv : 0 ≤ v ∧ v < vs
  all_goals first | rw [decide_eq_true hv] at hh | rw [decide_eq_false hv] at hh
  all_goals replace hv := hid hv
  all_goals go_enter Tryd.func62, Tryd.ntmps62
  all_goals go_wp2_with (go_at_call 73; go_must (refine (hh _).mono ?_; rintro e w1 ⟨rfl, hb1⟩; have B1 := ((ab w _).alloc (by simp) _).trans (hb1.mono (by simp; omega)); have d0 := (A0.bl hb1).cell 0; have d1 := (A0.bl hb1).cell 1; have c2 : w1.cell? ⟨w.heap.size + 1, 2, none⟩ = some (.int .i64 f) := (A.bl hb1).cell 2; have c3 : w1.cell? ⟨w.heap.size + 1, 3, none⟩ = some (.int .i64 t) := (A.bl hb1).cell 3))
  all_goals
    go_ret
    refine ⟨congrArg (fun b => Ending.returned (.bool b)) (?_ : _ = r), ?_⟩
    · have h1 := hr.out
      have h2 := ha.out
      have h3 := hth.out
      have h4 := hel.out
      have h5 := hv.out
      clear A A0 hh 
      try subst ex1
      try subst ex2
      try subst ex5
      try subst ex6
      try subst ex3
      rw [Bool.eq_iff_iff]
      simp_all
      try (first | omega | (intros; omega))
    · exact B1
end Go.Proofs.YtoopgppahfnncaaDoor
