/- Pc, Pg. -/
import Derived.Test.YtbfelelngoonjaaX01
import Derived.Test.YtbfelelngoonjaaX02
import Derived.Test.YtbfelelngoonjaaX04
import Derived.Test.YtbfelelngoonjaaX05
import Derived.Test.YtbfelelngoonjaaX06
import Derived.Test.YtbfelelngoonjaaX12
import Derived.Test.YtbfelelngoonjaaX13
import Derived.Test.YtbfelelngoonjaaX14
import Derived.Test.YtbfelelngoonjaaX16
import Derived.Test.YtbfelelngoonjaaX18
import Derived.BigQuiet
import Derived.BigRegion
import Derived.ChangeKeysEq
import Derived.Deep.DeepCutAuto
import Derived.Deep.DrawnRows
import Derived.Deep.MidRow
import Derived.Deep.QuietTactic
import Derived.Deep.RegionHeld3
import Derived.Deep.RegionLaw
import Derived.Deep.RegionWith
import Derived.Deep.WholeRow
import Derived.Laws.AppendOwnNone
import Derived.Laws.BitsLemmas
import Derived.Laws.BytesArg
import Derived.Laws.CopyOwn
import Derived.Lib.SlBytesConst
import Derived.LoopIn
import Derived.LoopNIn
import Derived.OwnWalkIn
import Derived.RangeFuncBound
import Derived.RangeFuncCalls
import Derived.RangeFuncLeaves
import Derived.RangeFuncNested
import Derived.RangeFuncRecord
import Derived.Shelf.Abstract
import Derived.Shelf.RegionOpen
import Derived.TacticsInMore
import Derived.WalkKit
import Derived.WalkLawsBesides
import Derived.WalkSpells
import Derived.Test.YtbfelelngoonjaaX23
import Derived.Great.BuildSlice
import Derived.Great.FillDense
import Derived.Laws.CopyRow
import Derived.Laws.MakeOwn
import Derived.Laws.OwnMore
import Derived.Laws.Tables
import Derived.Maps.AppendAt
/- Layer oracle: what the layers below give. -/
namespace Go.Proofs.Ytbfelelngoonjaa
open Go.RowKit
set_option maxRecDepth 100000
set_option linter.unusedVariables false
set_option linter.unusedSimpArgs false

/-- What Total answers. -/
def ttV (ps : List Ac) : Int := (tt ps 0).getD 0
def ttE (ps : List Ac) : Int := if (tt ps 0).isSome then 0 else 4
theorem tt_step {ps : List Ac} {k : Nat} {a : Ac} {t : Int} (ha : ps[k]? = some a) : tt (ps.drop k) t = if a.bal > 4611686018427387904 - t then none else tt (ps.drop (k + 1)) (t + a.bal) := by
  have hk := (List.getElem?_eq_some_iff.1 ha).1
  rw [List.drop_eq_getElem_cons hk, (List.getElem?_eq_some_iff.1 ha).2, tt]
set_option maxHeartbeats 1000000 in
theorem total_any (ps : List Ac) (sp : Option Addr) (n cap : Nat) (w : World) (h1 : ps.length = 32) (hok : ∀ a ∈ ps, AcOK a) :
    Calls Try.prog 66 #[.agg (stA ps sp n cap)] w fun e w' => e = .returned (.tuple #[.int .u64 (ttV ps), .int .i64 (ttE ps)]) ∧ Below w.heap.size w w' := by
  have h2 : ∀ a ∈ ps, a.lk.length = 32 := fun a ha => (hok a ha).l32
  have A0 := Arr.new w 38 (stA ps sp n cap)
  have hb0 := alloc_bel' w (.cells (stA ps sp n cap) 38)
  go_enter Try.func66, Try.ntmps66
  go_wp2_with (refine ld27 (by rfl) _ (by rfl) w.heap.size 38 (by rfl) ps sp n cap h1 h2 A0 ?_)
  go_loopw [4, 9] (fun v q wr => ∃ (k : Nat) (t : Int), v = .int .u64 t ∧ q = .int .i64 (k : Int) ∧ k ≤ 32 ∧ 0 ≤ t ∧ t ≤ 4611686018427387904 ∧ Hid (tt ps 0 = tt (ps.drop k) t) ∧ Below w.heap.size w wr) (fun _ q _ => 32 - (intOf q).toNat)
  case atStart => exact ⟨0, 0, rfl, rfl, by omega, by omega, by omega, Hid.mk' (by simp), hb0⟩
  case round =>
    obtain ⟨k, t, rfl, rfl, hk, ht0, ht1, hT, hbl⟩ := hrel
    clear A0 hb0
    by_cases hlt : k < 32
    · have hI : (k : Int) < 32 := by omega
      obtain ⟨a, ha⟩ : ∃ a, ps[k]? = some a := ⟨ps[k]'(by omega), List.getElem?_eq_getElem _⟩
      have hix := index27 h2 hlt ha
      have ha32 := h2 a (List.mem_of_getElem? ha)
      have hao := hok a (List.mem_of_getElem? ha)
      have hb0 := hao.b0
      have hb1 := hao.b1
      have hst := Hid.mk' (tt_step (t := t) ha)
      have A1 := Arr.new wr 34 a.arr
      have c0 := ac_c0 A1.ac
      have hbl1 := hbl.alloc hbl.size (.cells a.arr 34)
      have hw1 : (4611686018427387904 - t) % 18446744073709551616 = 4611686018427387904 - t := by omega
      clear ha hao
      by_cases hgt : a.bal > 4611686018427387904 - t
      · have hv : Hid (ttV ps = 0 ∧ ttE ps = 4) := Hid.mk' (by unfold ttV ttE; rw [hT.out, hst.out, if_pos hgt]; exact ⟨rfl, rfl⟩)
        go_wp2_with (refine st26n (by rfl) _ _ (by rfl) wr wr.heap.size rfl (by rfl) a (by rfl) (by rfl) ha32 ?_)
        go_ret2
        exact ⟨by rw [hv.out.1, hv.out.2]; rfl, hbl1⟩
      · have hw2 : (t + a.bal) % 18446744073709551616 = t + a.bal := by omega
        have hn : Hid (tt ps 0 = tt (ps.drop (k + 1)) (t + a.bal)) := Hid.mk' (by rw [hT.out, hst.out, if_neg hgt])
        go_wp2_with (refine st26n (by rfl) _ _ (by rfl) wr wr.heap.size rfl (by rfl) a (by rfl) (by rfl) ha32 ?_)
        go_roundw
        case rel => exact ⟨k + 1, t + a.bal, by simp [hw2], by go_num, by omega, by omega, by omega, hn, hbl1⟩
        case measure => simp [intOf]; omega
    · obtain rfl : k = 32 := by omega
      have hv : Hid (ttV ps = t ∧ ttE ps = 0) := Hid.mk' (by unfold ttV ttE; rw [hT.out, List.drop_eq_nil_of_le (by omega)]; exact ⟨rfl, rfl⟩)
      go_wp2_with fail
      go_ret2
      exact ⟨by rw [hv.out.1, hv.out.2]; rfl, hbl⟩
set_option maxHeartbeats 1000000 in
theorem refTotal_any (ps : List Ac) (sp : Option Addr) (n cap : Nat) (w : World) (h1 : ps.length = 32) (hok : ∀ a ∈ ps, AcOK a) :
    Calls Try.prog 36 #[.agg (stA ps sp n cap)] w fun e w' => e = .returned (.tuple #[.int .u64 (ttV ps), .int .i64 (ttE ps)]) ∧ Below w.heap.size w w' := by
  have h2 : ∀ a ∈ ps, a.lk.length = 32 := fun a ha => (hok a ha).l32
  have A0 := Arr.new w 38 (stA ps sp n cap)
  have hb0 := alloc_bel' w (.cells (stA ps sp n cap) 38)
  go_enter Try.func36, Try.ntmps36
  go_wp2_with fail
  go_loopw [4, 5] (fun v q wr => ∃ (k : Nat) (t : Int), v = .int .u64 t ∧ q = .int .i64 (k : Int) ∧ k ≤ 32 ∧ 0 ≤ t ∧ t ≤ 4611686018427387904 ∧ Hid (tt ps 0 = tt (ps.drop k) t) ∧ Below w.heap.size w wr ∧ Arr wr w.heap.size 38 (stA ps sp n cap)) (fun _ q _ => 32 - (intOf q).toNat)
  case atStart => exact ⟨0, 0, rfl, rfl, by omega, by omega, by omega, Hid.mk' (by simp), hb0, A0⟩
  case round =>
    obtain ⟨k, t, rfl, rfl, hk, ht0, ht1, hT, hbl, A⟩ := hrel
    clear A0 hb0
    by_cases hlt : k < 32
    · have hI : (k : Int) < 32 := by omega
      obtain ⟨a, ha⟩ : ∃ a, ps[k]? = some a := ⟨ps[k]'(by omega), List.getElem?_eq_getElem _⟩
      have hao := hok a (List.mem_of_getElem? ha)
      have hb0 := hao.b0
      have hb1 := hao.b1
      have hst := Hid.mk' (tt_step (t := t) ha)
      have c0 := ac_c0 (A.stAt h2 ha)
      have hw1 : (4611686018427387904 - t) % 18446744073709551616 = 4611686018427387904 - t := by omega
      clear ha hao
      by_cases hgt : a.bal > 4611686018427387904 - t
      · have hv : Hid (ttV ps = 0 ∧ ttE ps = 4) := Hid.mk' (by unfold ttV ttE; rw [hT.out, hst.out, if_pos hgt]; exact ⟨rfl, rfl⟩)
        go_wp2_with fail
        go_ret2
        exact ⟨by rw [hv.out.1, hv.out.2]; rfl, hbl⟩
      · have hw2 : (t + a.bal) % 18446744073709551616 = t + a.bal := by omega
        have hn : Hid (tt ps 0 = tt (ps.drop (k + 1)) (t + a.bal)) := Hid.mk' (by rw [hT.out, hst.out, if_neg hgt])
        go_wp2_with fail
        go_roundw
        case rel => exact ⟨k + 1, t + a.bal, by simp [hw2], by go_num, by omega, by omega, by omega, hn, hbl, A⟩
        case measure => simp [intOf]; omega
    · obtain rfl : k = 32 := by omega
      have hv : Hid (ttV ps = t ∧ ttE ps = 0) := Hid.mk' (by unfold ttV ttE; rw [hT.out, List.drop_eq_nil_of_le (by omega)]; exact ⟨rfl, rfl⟩)
      go_wp2_with fail
      go_ret2
      exact ⟨by rw [hv.out.1, hv.out.2]; rfl, hbl⟩
set_option maxHeartbeats 1000000 in
theorem may_any (ps : List Ac) (sp : Option Addr) (n cap : Nat) (w : World) (h1 : ps.length = 32) (hok : ∀ a ∈ ps, AcOK a) (hn : n ≤ 140737488355328) :
    Calls Try.prog 53 #[.agg (stA ps sp n cap)] w fun e w' => e = .returned (.bool (may ps n)) ∧ Below w.heap.size w w' := by
  have h2 : ∀ a ∈ ps, a.lk.length = 32 := fun a ha => (hok a ha).l32
  have A0 := Arr.new w 38 (stA ps sp n cap)
  have hb0 := alloc_bel' w (.cells (stA ps sp n cap) 38)
  have hT := total_any ps sp n cap (w.alloc (.cells (stA ps sp n cap) 38)) h1 hok
  have hm : Hid (may ps n = ((tt ps 0).isSome && decide (n ≤ 32))) := Hid.mk' rfl
  by_cases hs : (tt ps 0).isSome
  · have e : ttE ps = 0 := by unfold ttE; rw [if_pos hs]
    rw [e] at hT
    clear e
    by_cases hle : n ≤ 32
    · have hI : (n : Int) ≤ 32 := by omega
      have hm' : Hid (may ps n = true) := Hid.mk' (by rw [hm.out, hs, decide_eq_true hle]; rfl)
      clear hs hm
      replace hT := Hid.mk' hT
      go_enter Try.func53, Try.ntmps53
      go_upto_region 2 with (first
        | (refine ld30 (by rfl) _ (by rfl) w.heap.size 38 (by rfl) ps sp n cap h1 h2 A0 ?_)
        | (go_at_call 66; go_must (refine hT.out.mono ?_; rintro e w1 ⟨rfl, hb1⟩)))
      have c1 := (A0.below hb1 (by simp)).stOut h1 h2
      go_wp2_with fail
      go_ret
      exact ⟨by (rw [hm'.out]; first | rfl | simp [hI]), hb0.trans (hb1.mono (by simp))⟩
    · have hI : ¬ (n : Int) ≤ 32 := by omega
      have hm' : Hid (may ps n = false) := Hid.mk' (by rw [hm.out, hs, decide_eq_false hle]; rfl)
      clear hs hm
      replace hT := Hid.mk' hT
      go_enter Try.func53, Try.ntmps53
      go_upto_region 2 with (first
        | (refine ld30 (by rfl) _ (by rfl) w.heap.size 38 (by rfl) ps sp n cap h1 h2 A0 ?_)
        | (go_at_call 66; go_must (refine hT.out.mono ?_; rintro e w1 ⟨rfl, hb1⟩)))
      have c1 := (A0.below hb1 (by simp)).stOut h1 h2
      go_wp2_with fail
      go_ret
      exact ⟨by (rw [hm'.out]; first | rfl | simp [hI]), hb0.trans (hb1.mono (by simp))⟩
  · have e : ttE ps = 4 := by unfold ttE; rw [if_neg hs]
    rw [e] at hT
    clear e
    have hm' : Hid (may ps n = false) := Hid.mk' (by rw [hm.out, Bool.eq_false_iff.2 hs]; rfl)
    clear hs hm
    replace hT := Hid.mk' hT
    go_enter Try.func53, Try.ntmps53
    go_upto_region 2 with (first
      | (refine ld30 (by rfl) _ (by rfl) w.heap.size 38 (by rfl) ps sp n cap h1 h2 A0 ?_)
      | (go_at_call 66; go_must (refine hT.out.mono ?_; rintro e w1 ⟨rfl, hb1⟩)))
    have c1 := (A0.below hb1 (by simp)).stOut h1 h2
    go_wp2_with fail
    go_ret
    exact ⟨by (rw [hm'.out]; first | rfl | simp [hI]), hb0.trans (hb1.mono (by simp))⟩
set_option maxHeartbeats 1000000 in
theorem refMay_any (ps : List Ac) (sp : Option Addr) (n cap : Nat) (w : World) (h1 : ps.length = 32) (hok : ∀ a ∈ ps, AcOK a) (hn : n ≤ 140737488355328) :
    Calls Try.prog 19 #[.agg (stA ps sp n cap)] w fun e w' => e = .returned (.bool (may ps n)) ∧ Below w.heap.size w w' := by
  have h2 : ∀ a ∈ ps, a.lk.length = 32 := fun a ha => (hok a ha).l32
  have A0 := Arr.new w 38 (stA ps sp n cap)
  have hb0 := alloc_bel' w (.cells (stA ps sp n cap) 38)
  have hT := refTotal_any ps sp n cap (w.alloc (.cells (stA ps sp n cap) 38)) h1 hok
  have hm : Hid (may ps n = ((tt ps 0).isSome && decide (n ≤ 32))) := Hid.mk' rfl
  by_cases hs : (tt ps 0).isSome
  · have e : ttE ps = 0 := by unfold ttE; rw [if_pos hs]
    rw [e] at hT
    clear e
    by_cases hle : n ≤ 32
    · have hI : (n : Int) ≤ 32 := by omega
      have hm' : Hid (may ps n = true) := Hid.mk' (by rw [hm.out, hs, decide_eq_true hle]; rfl)
      clear hs hm
      replace hT := Hid.mk' hT
      go_enter Try.func19, Try.ntmps19
      go_upto_region 2 with (first
        | (refine ld30 (by rfl) _ (by rfl) w.heap.size 38 (by rfl) ps sp n cap h1 h2 A0 ?_)
        | (go_at_call 36; go_must (refine hT.out.mono ?_; rintro e w1 ⟨rfl, hb1⟩)))
      have c1 := (A0.below hb1 (by simp)).stOut h1 h2
      go_wp2_with fail
      go_ret
      exact ⟨by (rw [hm'.out]; first | rfl | simp [hI]), hb0.trans (hb1.mono (by simp))⟩
    · have hI : ¬ (n : Int) ≤ 32 := by omega
      have hm' : Hid (may ps n = false) := Hid.mk' (by rw [hm.out, hs, decide_eq_false hle]; rfl)
      clear hs hm
      replace hT := Hid.mk' hT
      go_enter Try.func19, Try.ntmps19
      go_upto_region 2 with (first
        | (refine ld30 (by rfl) _ (by rfl) w.heap.size 38 (by rfl) ps sp n cap h1 h2 A0 ?_)
        | (go_at_call 36; go_must (refine hT.out.mono ?_; rintro e w1 ⟨rfl, hb1⟩)))
      have c1 := (A0.below hb1 (by simp)).stOut h1 h2
      go_wp2_with fail
      go_ret
      exact ⟨by (rw [hm'.out]; first | rfl | simp [hI]), hb0.trans (hb1.mono (by simp))⟩
  · have e : ttE ps = 4 := by unfold ttE; rw [if_neg hs]
    rw [e] at hT
    clear e
    have hm' : Hid (may ps n = false) := Hid.mk' (by rw [hm.out, Bool.eq_false_iff.2 hs]; rfl)
    clear hs hm
    replace hT := Hid.mk' hT
    go_enter Try.func19, Try.ntmps19
    go_upto_region 2 with (first
      | (refine ld30 (by rfl) _ (by rfl) w.heap.size 38 (by rfl) ps sp n cap h1 h2 A0 ?_)
      | (go_at_call 36; go_must (refine hT.out.mono ?_; rintro e w1 ⟨rfl, hb1⟩)))
    have c1 := (A0.below hb1 (by simp)).stOut h1 h2
    go_wp2_with fail
    go_ret
    exact ⟨by (rw [hm'.out]; first | rfl | simp [hI]), hb0.trans (hb1.mono (by simp))⟩
end Go.Proofs.Ytbfelelngoonjaa
/- Layer oracle: what the layers below give. -/
namespace Go.Proofs.Ytbfelelngoonjaa
open Go.RowKit
set_option maxRecDepth 100000
set_option linter.unusedVariables false
set_option linter.unusedSimpArgs false

/-- What Root answers. -/
def rtV (ps : List Ac) (os : List Ou) : List Int := if may ps os.length = true then rtS ps os else Z32
def rtE (ps : List Ac) (os : List Ou) : Int := if may ps os.length = true then 0 else 2
theorem rtS_len (ps : List Ac) (os : List Ou) : (rtS ps os).length = 32 := jn_len _ _ _
theorem may_le {ps : List Ac} {n : Nat} (h : may ps n = true) : n ≤ 32 := by
  unfold may at h; simp at h; exact h.2
theorem al_map (ps : List Ac) : (ps.map fun a => 0 :: acb a).map shl = al ps := by simp [al, lf]
theorem ol_map (os : List Ou) : (os.map fun a => 0 :: oub a).map shl = ol os := by simp [ol, lf]
/-- A tree, as a slice of entries. -/
def TP (n : Nat) (bs : List (List Int)) (ls : List (List Int)) (w : World) (r : Ending) (w' : World) : Prop :=
  ∃ sp cap es, r = .returned (.slice sp n cap) ∧ ES w'.heap.size w' sp n cap es ∧ Hid (es.map En.sm = ls) ∧ TR w.heap.size w' (.slice sp n cap) es bs ∧ Below w.heap.size w w'
theorem TPost.tp {bs ls : List (List Int)} {n : Nat} {w w' : World} {r : Ending} (h : TPost bs w r w') (hn : n = bs.length) (h32 : n ≤ 32) (hl : bs.map shl = ls) : TP n bs ls w r w' := by
  obtain ⟨v, es, rfl, hR, hb⟩ := h
  obtain ⟨sp, cap, rfl, hE⟩ := hR.es (by omega)
  subst hn
  exact ⟨sp, cap, es, rfl, hE, Hid.mk' (by rw [hR.sums, hl]), hR, hb⟩
theorem accs_any (ps : List Ac) (sp : Option Addr) (n cap : Nat) (w : World) (h1 : ps.length = 32) (hok : ∀ a ∈ ps, AcOK a) :
    Calls Try.prog 67 #[.agg (stA ps sp n cap)] w (TP 32 (ps.map fun a => 0 :: acb a) (al ps) w) :=
  (accountsOf_any ps sp n cap w h1 hok).mono fun r w' h => h.tp (by simp [h1]) (by omega) (al_map ps)
theorem outs_any (ps : List Ac) (N : Nat) (sp : Option Addr) (n cap : Nat) (os : List Ou) (w : World) (hS : SS N w ps sp n cap os) (hn : n ≤ 32) :
    Calls Try.prog 68 #[.agg (stA ps sp n cap)] w (TP n (os.map fun a => 0 :: oub a) (ol os) w) :=
  (outsOf_any ps N sp n cap os w hS hn).mono fun r w' h => h.tp (by rw [List.length_map]; exact hS.outs.len.out) hn (ol_map os)
theorem troot_ls (N : Nat) (sp : Option Addr) (n cap : Nat) (es : List En) (ls : List (List Int)) (w : World) (hS : ES N w sp n cap es) (hl : Hid (es.map En.sm = ls)) (hn : n ≤ 32) :
    Calls Try.prog 70 #[.slice sp n cap] w fun e w' => e = .returned (.agg (h8 (tr 5 ls))) ∧ Below w.heap.size w w' := by
  have h := troot_any N sp n cap es w hS hn
  rw [hl.out] at h
  exact h
theorem two32 {A B : List Int} (hA : A.length = 32) (hB : B.length = 32) : ∀ x ∈ [A, B], x.length = 32 := by
  intro x hx
  simp only [List.mem_cons, List.mem_nil_iff, or_false] at hx
  rcases hx with rfl | rfl <;> assumption
end Go.Proofs.Ytbfelelngoonjaa
