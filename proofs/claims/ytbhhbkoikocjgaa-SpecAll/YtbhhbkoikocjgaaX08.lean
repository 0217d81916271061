/- Pc, Ea, Px. -/
import Derived.Test.YtbhhbkoikocjgaaX01
import Derived.Test.YtbhhbkoikocjgaaX02
import Derived.Test.YtbhhbkoikocjgaaX03
import Derived.Test.YtbhhbkoikocjgaaX04
import Derived.Test.YtbhhbkoikocjgaaX05
import Derived.Test.YtbhhbkoikocjgaaX06
import Derived.Test.YtbhhbkoikocjgaaX07
import Derived.BigQuiet
import Derived.BigRegion
import Derived.ChangeKeysEq
import Derived.ChangeOld
import Derived.Deep.DeepCutAuto
import Derived.Deep.DrawnRows
import Derived.Deep.MidRow
import Derived.Deep.QuietTactic
import Derived.Deep.RegionHeld3
import Derived.Deep.RegionLaw
import Derived.Deep.RegionWith
import Derived.Deep.WholeRow
import Derived.Great.BuildSlice
import Derived.Great.FillDense
import Derived.JoinedTies
import Derived.KernelRfl
import Derived.Laws.AppendOwnNone
import Derived.Laws.BitsLemmas
import Derived.Laws.BytesArg
import Derived.Laws.CopyOwn
import Derived.Laws.OwnMore
import Derived.Laws.Tables
import Derived.Lib.SlBytesConst
import Derived.LoopIn
import Derived.LoopNIn
import Derived.Maps.AppendAt
import Derived.OpenShut
import Derived.OwnWalkIn
import Derived.ProofKit
import Derived.RangeFuncBound
import Derived.RangeFuncCalls
import Derived.RangeFuncLeaves
import Derived.RangeFuncNested
import Derived.RangeFuncRecord
import Derived.Shelf.Abstract
import Derived.Shelf.RegionOpen
import Derived.ShutString
import Derived.SizedLaws
import Derived.TacticsInMore
import Derived.WalkKit
import Derived.WalkLawsBesides
import Derived.WalkSpells
import GoSem.Claim
import GoSem.ClaimJoined
import GoSem.ClaimMapViews
import Derived.Laws.CopyRow
import Derived.Laws.MakeOwn
import Derived.Laws.ResultCell
/- Layer spec: what the layers below give. -/
namespace Go.Proofs.Ytbhhbkoikocjgaa
set_option linter.unusedSectionVars false
set_option maxHeartbeats 1000000
open Go.RowKit
set_option maxRecDepth 100000
set_option linter.unusedVariables false
set_option linter.unusedSimpArgs false

variable [DecidableEq Ac] [DecidableEq Ou] [DecidableEq Mg]
/-- What Total answers. -/
def ttV (ps : List Ac) : Int := (tt ps 0).getD 0
def ttE (ps : List Ac) : Int := if (tt ps 0).isSome then 0 else 4
theorem tt_step {ps : List Ac} {k : Nat} {a : Ac} {t : Int} (ha : ps[k]? = some a) : tt (ps.drop k) t = if a.bal > 4611686018427387904 - t then none else tt (ps.drop (k + 1)) (t + a.bal) := by
  have hk := (List.getElem?_eq_some_iff.1 ha).1
  rw [List.drop_eq_getElem_cons hk, (List.getElem?_eq_some_iff.1 ha).2, tt]
set_option maxHeartbeats 1000000 in
theorem total_any (ps : List Ac) (sp : Option Addr) (n cap : Nat) (w : World) (h1 : ps.length = 32) (hok : ∀ a ∈ ps, AcOK a) :
    Calls Try.prog 43 #[.agg (stA ps sp n cap)] w fun e w' => e = .returned (.tuple #[.int .u64 (ttV ps), .int .i64 (ttE ps)]) ∧ Below w.heap.size w w' := by
  have h2 : ∀ a ∈ ps, a.lk.length = 32 := fun a ha => (hok a ha).l32
  have A0 := Arr.new w 30 (stA ps sp n cap)
  have hb0 := alloc_bel' w (.cells (stA ps sp n cap) 30)
  go_enter Try.func43, Try.ntmps43
  go_wp2_with (refine ld27 (by rfl) _ (by rfl) w.heap.size 30 (by rfl) ps sp n cap h1 h2 A0 ?_)
  go_loopw [4, 9] (fun v q wr => ∃ (k : Nat) (t : Int), v = .int .u64 t ∧ q = .int .i64 (k : Int) ∧ k ≤ 32 ∧ 0 ≤ t ∧ t ≤ 4611686018427387904 ∧ Hid (tt ps 0 = tt (ps.drop k) t) ∧ Below w.heap.size w wr) (fun _ q _ => 32 - (intOf q).toNat)
  case atStart => exact ⟨0, 0, rfl, rfl, by omega, by omega, by omega, Hid.mk' (by simp), hb0⟩
  case round =>
    obtain ⟨k, t, rfl, rfl, hk, ht0, ht1, hT, hbl⟩ := hrel
    clear A0 hb0
    by_cases hlt : k < 32
    · have hI : (k : Int) < 32 := by omega
      obtain ⟨a, ha⟩ : ∃ a, ps[k]? = some a := ⟨ps[k]'(by omega), List.getElem?_eq_getElem _⟩
      have hix := index27 h2 hlt ha
      have ha32 := h2 a (List.mem_of_getElem? ha)
      have hao := hok a (List.mem_of_getElem? ha)
      have hb0 := hao.b0
      have hb1 := hao.b1
      have hst := Hid.mk' (tt_step (t := t) ha)
      have A1 := Arr.new wr 26 a.arr
      have c0 := ac_c0 A1.ac
      have hbl1 := hbl.alloc hbl.size (.cells a.arr 26)
      have hw1 : (4611686018427387904 - t) % 18446744073709551616 = 4611686018427387904 - t := by omega
      clear ha hao
      by_cases hgt : a.bal > 4611686018427387904 - t
      · have hv : Hid (ttV ps = 0 ∧ ttE ps = 4) := Hid.mk' (by unfold ttV ttE; rw [hT.out, hst.out, if_pos hgt]; exact ⟨rfl, rfl⟩)
        go_wp2_with (refine st26n (by rfl) _ _ (by rfl) wr wr.heap.size rfl (by rfl) a (by rfl) (by rfl) ha32 ?_)
        go_ret2
        exact ⟨by rw [hv.out.1, hv.out.2]; rfl, hbl1⟩
      · have hw2 : (t + a.bal) % 18446744073709551616 = t + a.bal := by omega
        have hn : Hid (tt ps 0 = tt (ps.drop (k + 1)) (t + a.bal)) := Hid.mk' (by rw [hT.out, hst.out, if_neg hgt])
        go_wp2_with (refine st26n (by rfl) _ _ (by rfl) wr wr.heap.size rfl (by rfl) a (by rfl) (by rfl) ha32 ?_)
        go_roundw
        case rel => exact ⟨k + 1, t + a.bal, by simp [hw2], by go_num, by omega, by omega, by omega, hn, hbl1⟩
        case measure => simp [intOf]; omega
    · obtain rfl : k = 32 := by omega
      have hv : Hid (ttV ps = t ∧ ttE ps = 0) := Hid.mk' (by unfold ttV ttE; rw [hT.out, List.drop_eq_nil_of_le (by omega)]; exact ⟨rfl, rfl⟩)
      go_wp2_with fail
      go_ret2
      exact ⟨by rw [hv.out.1, hv.out.2]; rfl, hbl⟩
set_option maxHeartbeats 1000000 in
theorem refTotal_any (ps : List Ac) (sp : Option Addr) (n cap : Nat) (w : World) (h1 : ps.length = 32) (hok : ∀ a ∈ ps, AcOK a) :
    Calls Try.prog 20 #[.agg (stA ps sp n cap)] w fun e w' => e = .returned (.tuple #[.int .u64 (ttV ps), .int .i64 (ttE ps)]) ∧ Below w.heap.size w w' := by
  have h2 : ∀ a ∈ ps, a.lk.length = 32 := fun a ha => (hok a ha).l32
  have A0 := Arr.new w 30 (stA ps sp n cap)
  have hb0 := alloc_bel' w (.cells (stA ps sp n cap) 30)
  go_enter Try.func20, Try.ntmps20
  go_wp2_with fail
  go_loopw [4, 5] (fun v q wr => ∃ (k : Nat) (t : Int), v = .int .u64 t ∧ q = .int .i64 (k : Int) ∧ k ≤ 32 ∧ 0 ≤ t ∧ t ≤ 4611686018427387904 ∧ Hid (tt ps 0 = tt (ps.drop k) t) ∧ Below w.heap.size w wr ∧ Arr wr w.heap.size 30 (stA ps sp n cap)) (fun _ q _ => 32 - (intOf q).toNat)
  case atStart => exact ⟨0, 0, rfl, rfl, by omega, by omega, by omega, Hid.mk' (by simp), hb0, A0⟩
  case round =>
    obtain ⟨k, t, rfl, rfl, hk, ht0, ht1, hT, hbl, A⟩ := hrel
    clear A0 hb0
    by_cases hlt : k < 32
    · have hI : (k : Int) < 32 := by omega
      obtain ⟨a, ha⟩ : ∃ a, ps[k]? = some a := ⟨ps[k]'(by omega), List.getElem?_eq_getElem _⟩
      have hao := hok a (List.mem_of_getElem? ha)
      have hb0 := hao.b0
      have hb1 := hao.b1
      have hst := Hid.mk' (tt_step (t := t) ha)
      have c0 := ac_c0 (A.stAt h2 ha)
      have hw1 : (4611686018427387904 - t) % 18446744073709551616 = 4611686018427387904 - t := by omega
      clear ha hao
      by_cases hgt : a.bal > 4611686018427387904 - t
      · have hv : Hid (ttV ps = 0 ∧ ttE ps = 4) := Hid.mk' (by unfold ttV ttE; rw [hT.out, hst.out, if_pos hgt]; exact ⟨rfl, rfl⟩)
        go_wp2_with fail
        go_ret2
        exact ⟨by rw [hv.out.1, hv.out.2]; rfl, hbl⟩
      · have hw2 : (t + a.bal) % 18446744073709551616 = t + a.bal := by omega
        have hn : Hid (tt ps 0 = tt (ps.drop (k + 1)) (t + a.bal)) := Hid.mk' (by rw [hT.out, hst.out, if_neg hgt])
        go_wp2_with fail
        go_roundw
        case rel => exact ⟨k + 1, t + a.bal, by simp [hw2], by go_num, by omega, by omega, by omega, hn, hbl, A⟩
        case measure => simp [intOf]; omega
    · obtain rfl : k = 32 := by omega
      have hv : Hid (ttV ps = t ∧ ttE ps = 0) := Hid.mk' (by unfold ttV ttE; rw [hT.out, List.drop_eq_nil_of_le (by omega)]; exact ⟨rfl, rfl⟩)
      go_wp2_with fail
      go_ret2
      exact ⟨by rw [hv.out.1, hv.out.2]; rfl, hbl⟩
set_option maxHeartbeats 1000000 in
theorem may_any (ps : List Ac) (sp : Option Addr) (n cap : Nat) (w : World) (h1 : ps.length = 32) (hok : ∀ a ∈ ps, AcOK a) (hn : n ≤ 140737488355328) :
    Calls Try.prog 24 #[.agg (stA ps sp n cap)] w fun e w' => e = .returned (.bool (may ps n)) ∧ Below w.heap.size w w' := by
  have h2 : ∀ a ∈ ps, a.lk.length = 32 := fun a ha => (hok a ha).l32
  have A0 := Arr.new w 30 (stA ps sp n cap)
  have hb0 := alloc_bel' w (.cells (stA ps sp n cap) 30)
  have hT := total_any ps sp n cap (w.alloc (.cells (stA ps sp n cap) 30)) h1 hok
  have hm : Hid (may ps n = ((tt ps 0).isSome && decide (n ≤ 32))) := Hid.mk' rfl
  by_cases hs : (tt ps 0).isSome
  · have e : ttE ps = 0 := by unfold ttE; rw [if_pos hs]
    rw [e] at hT
    clear e
    by_cases hle : n ≤ 32
    · have hI : (n : Int) ≤ 32 := by omega
      have hm' : Hid (may ps n = true) := Hid.mk' (by rw [hm.out, hs, decide_eq_true hle]; rfl)
      clear hs hm
      replace hT := Hid.mk' hT
      go_enter Try.func24, Try.ntmps24
      go_upto_region 2 with (first
        | (refine ld30 (by rfl) _ (by rfl) w.heap.size 30 (by rfl) ps sp n cap h1 h2 A0 ?_)
        | (go_at_call 43; go_must (refine hT.out.mono ?_; rintro e w1 ⟨rfl, hb1⟩)))
      have c1 := (A0.below hb1 (by simp)).stOut h1 h2
      go_wp2_with fail
      go_ret
      exact ⟨by (rw [hm'.out]; first | rfl | simp [hI]), hb0.trans (hb1.mono (by simp))⟩
    · have hI : ¬ (n : Int) ≤ 32 := by omega
      have hm' : Hid (may ps n = false) := Hid.mk' (by rw [hm.out, hs, decide_eq_false hle]; rfl)
      clear hs hm
      replace hT := Hid.mk' hT
      go_enter Try.func24, Try.ntmps24
      go_upto_region 2 with (first
        | (refine ld30 (by rfl) _ (by rfl) w.heap.size 30 (by rfl) ps sp n cap h1 h2 A0 ?_)
        | (go_at_call 43; go_must (refine hT.out.mono ?_; rintro e w1 ⟨rfl, hb1⟩)))
      have c1 := (A0.below hb1 (by simp)).stOut h1 h2
      go_wp2_with fail
      go_ret
      exact ⟨by (rw [hm'.out]; first | rfl | simp [hI]), hb0.trans (hb1.mono (by simp))⟩
  · have e : ttE ps = 4 := by unfold ttE; rw [if_neg hs]
    rw [e] at hT
    clear e
    have hm' : Hid (may ps n = false) := Hid.mk' (by rw [hm.out, Bool.eq_false_iff.2 hs]; rfl)
    clear hs hm
    replace hT := Hid.mk' hT
    go_enter Try.func24, Try.ntmps24
    go_upto_region 2 with (first
      | (refine ld30 (by rfl) _ (by rfl) w.heap.size 30 (by rfl) ps sp n cap h1 h2 A0 ?_)
      | (go_at_call 43; go_must (refine hT.out.mono ?_; rintro e w1 ⟨rfl, hb1⟩)))
    have c1 := (A0.below hb1 (by simp)).stOut h1 h2
    go_wp2_with fail
    go_ret
    exact ⟨by (rw [hm'.out]; first | rfl | simp [hI]), hb0.trans (hb1.mono (by simp))⟩
set_option maxHeartbeats 1000000 in
theorem refMay_any (ps : List Ac) (sp : Option Addr) (n cap : Nat) (w : World) (h1 : ps.length = 32) (hok : ∀ a ∈ ps, AcOK a) (hn : n ≤ 140737488355328) :
    Calls Try.prog 19 #[.agg (stA ps sp n cap)] w fun e w' => e = .returned (.bool (may ps n)) ∧ Below w.heap.size w w' := by
  have h2 : ∀ a ∈ ps, a.lk.length = 32 := fun a ha => (hok a ha).l32
  have A0 := Arr.new w 30 (stA ps sp n cap)
  have hb0 := alloc_bel' w (.cells (stA ps sp n cap) 30)
  have hT := refTotal_any ps sp n cap (w.alloc (.cells (stA ps sp n cap) 30)) h1 hok
  have hm : Hid (may ps n = ((tt ps 0).isSome && decide (n ≤ 32))) := Hid.mk' rfl
  by_cases hs : (tt ps 0).isSome
  · have e : ttE ps = 0 := by unfold ttE; rw [if_pos hs]
    rw [e] at hT
    clear e
    by_cases hle : n ≤ 32
    · have hI : (n : Int) ≤ 32 := by omega
      have hm' : Hid (may ps n = true) := Hid.mk' (by rw [hm.out, hs, decide_eq_true hle]; rfl)
      clear hs hm
      replace hT := Hid.mk' hT
      go_enter Try.func19, Try.ntmps19
      go_upto_region 2 with (first
        | (refine ld30 (by rfl) _ (by rfl) w.heap.size 30 (by rfl) ps sp n cap h1 h2 A0 ?_)
        | (go_at_call 20; go_must (refine hT.out.mono ?_; rintro e w1 ⟨rfl, hb1⟩)))
      have c1 := (A0.below hb1 (by simp)).stOut h1 h2
      go_wp2_with fail
      go_ret
      exact ⟨by (rw [hm'.out]; first | rfl | simp [hI]), hb0.trans (hb1.mono (by simp))⟩
    · have hI : ¬ (n : Int) ≤ 32 := by omega
      have hm' : Hid (may ps n = false) := Hid.mk' (by rw [hm.out, hs, decide_eq_false hle]; rfl)
      clear hs hm
      replace hT := Hid.mk' hT
      go_enter Try.func19, Try.ntmps19
      go_upto_region 2 with (first
        | (refine ld30 (by rfl) _ (by rfl) w.heap.size 30 (by rfl) ps sp n cap h1 h2 A0 ?_)
        | (go_at_call 20; go_must (refine hT.out.mono ?_; rintro e w1 ⟨rfl, hb1⟩)))
      have c1 := (A0.below hb1 (by simp)).stOut h1 h2
      go_wp2_with fail
      go_ret
      exact ⟨by (rw [hm'.out]; first | rfl | simp [hI]), hb0.trans (hb1.mono (by simp))⟩
  · have e : ttE ps = 4 := by unfold ttE; rw [if_neg hs]
    rw [e] at hT
    clear e
    have hm' : Hid (may ps n = false) := Hid.mk' (by rw [hm.out, Bool.eq_false_iff.2 hs]; rfl)
    clear hs hm
    replace hT := Hid.mk' hT
    go_enter Try.func19, Try.ntmps19
    go_upto_region 2 with (first
      | (refine ld30 (by rfl) _ (by rfl) w.heap.size 30 (by rfl) ps sp n cap h1 h2 A0 ?_)
      | (go_at_call 20; go_must (refine hT.out.mono ?_; rintro e w1 ⟨rfl, hb1⟩)))
    have c1 := (A0.below hb1 (by simp)).stOut h1 h2
    go_wp2_with fail
    go_ret
    exact ⟨by (rw [hm'.out]; first | rfl | simp [hI]), hb0.trans (hb1.mono (by simp))⟩
end Go.Proofs.Ytbhhbkoikocjgaa
/- Layer spec: what the layers below give. -/
namespace Go.Proofs.Ytbhhbkoikocjgaa
set_option linter.unusedSectionVars false
set_option maxHeartbeats 1000000
open Go.RowKit
set_option maxRecDepth 100000
set_option linter.unusedVariables false
set_option linter.unusedSimpArgs false

variable [DecidableEq Ac] [DecidableEq Ou] [DecidableEq Mg]
/-- Does a message open an account? -/
def opn (a : Ac) (m : Mg) : Bool := decide (m.no = a.non) && decide (shl m.ky = a.lk)
/-- .. may it spend of it? -/
def spd (a : Ac) (m : Mg) : Bool := opn a m && (decide (m.am ≤ a.bal) && !decide (a.non = 18446744073709551615))
/-- The account behind it. -/
def spent (a : Ac) (m : Mg) : Ac := ⟨a.bal - m.am, a.non + 1, m.nx⟩
/-- A balance grows. -/
def addB (ps : List Ac) (i : Nat) (x : Int) : List Ac :=
  match ps[i]? with
  | none => ps
  | some a => ps.set i ⟨(a.bal + x) % 18446744073709551616, a.non, a.lk⟩
theorem addB_some {ps : List Ac} {i : Nat} {a : Ac} (h : ps[i]? = some a) (x : Int) : addB ps i x = ps.set i ⟨(a.bal + x) % 18446744073709551616, a.non, a.lk⟩ := by unfold addB; rw [h]
theorem addB_len (ps : List Ac) (i : Nat) (x : Int) : (addB ps i x).length = ps.length := by
  unfold addB; split <;> simp
theorem addB_ok {ps : List Ac} (h : ∀ a ∈ ps, AcOK a) (i : Nat) (x : Int) : ∀ a ∈ addB ps i x, AcOK a := by
  unfold addB
  split
  · exact h
  · next a ha =>
    intro b hb
    rcases List.mem_or_eq_of_mem_set hb with hb | rfl
    · exact h b hb
    · have := h a (List.mem_of_getElem? ha)
      exact ⟨by simp only []; omega, by simp only []; omega, this.n0, this.n1, this.l32, this.lb⟩
theorem spent_ok {a : Ac} {m : Mg} (ha : AcOK a) (hm : MgOK m) (h : spd a m = true) : AcOK (spent a m) := by
  simp only [spd, opn, Bool.and_eq_true, decide_eq_true_eq, Bool.not_eq_true', decide_eq_false_iff_not] at h
  obtain ⟨-, h1, h2⟩ := h
  have := ha.b1
  have := ha.n0
  have := ha.n1
  have := hm.a0
  exact ⟨by simp only [spent]; omega, by simp only [spent]; omega, by simp only [spent]; omega, by simp only [spent]; omega, hm.nl, hm.nb⟩
theorem set_ok {ps : List Ac} (h : ∀ a ∈ ps, AcOK a) (i : Nat) {b : Ac} (hb : AcOK b) : ∀ a ∈ ps.set i b, AcOK a := by
  intro a ha
  rcases List.mem_or_eq_of_mem_set ha with ha | rfl
  · exact h a ha
  · exact hb
/-- What a message does, if it does something. -/
def act (ps : List Ac) (os : List Ou) (m : Mg) : Option (List Ac × List Ou) :=
  if m.kd = 1 then (if m.am ≤ 4611686018427387904 - ttV ps then some (addB ps m.tw.toNat m.am, os) else none)
  else match ps[m.fr.toNat]? with
    | none => none
    | some a => if spd a m = true then
        (if m.kd = 2 then some (addB (ps.set m.fr.toNat (spent a m)) m.tw.toNat m.am, os)
         else if os.length < 32 then some (ps.set m.fr.toNat (spent a m), os ++ [⟨m.tw, m.am⟩]) else none) else none
/-- What bytes do. -/
def dlt (ps : List Ac) (os : List Ou) (L : List Int) : Option (List Ac × List Ou) := if rdE L = 0 then act ps os (rdM L) else none
def dlP (ps : List Ac) (os : List Ou) (L : List Int) : List Ac := ((dlt ps os L).getD (ps, os)).1
def dlO (ps : List Ac) (os : List Ou) (L : List Int) : List Ou := ((dlt ps os L).getD (ps, os)).2
def dlD (ps : List Ac) (os : List Ou) (L : List Int) : Bool := (dlt ps os L).isSome
theorem rdE_may {L : List Int} (h : rdE L = 0) : (rdM L).may = true := by
  unfold rdE at h
  by_cases h1 : L.length < 104
  · rw [if_pos h1] at h; omega
  · rw [if_neg h1] at h
    by_cases h2 : L.length = 104 ∧ goodM L = true
    · unfold rdM; rw [if_pos h2]
      have := h2.2
      unfold goodM at this
      simp only [Bool.and_eq_true] at this
      exact this.2
    · rw [if_neg h2] at h; omega
/-- What a message that may be is like. -/
theorem may_kinds {m : Mg} (hm : MgOK m) (h : m.may = true) : (m.kd = 1 ∧ m.tw < 32 ∧ 0 < m.am) ∨ (m.kd = 2 ∧ m.fr < 32 ∧ m.tw < 32) ∨ (m.kd = 3 ∧ m.fr < 32 ∧ 0 < m.am) := by
  simp only [Mg.may, Bool.or_eq_true, Bool.and_eq_true, beq_iff_eq, decide_eq_true_eq] at h
  omega
theorem act_ok {ps : List Ac} {os : List Ou} {m : Mg} {r : List Ac × List Ou} (hm : MgOK m) (hl : ps.length = 32) (h1 : ∀ a ∈ ps, AcOK a) (h2 : ∀ o ∈ os, OuOK o) (h : act ps os m = some r) : r.1.length = 32 ∧ (∀ a ∈ r.1, AcOK a) ∧ (∀ o ∈ r.2, OuOK o) := by
  unfold act at h
  split at h
  · split at h
    · cases h; exact ⟨by rw [addB_len, hl], addB_ok h1 _ _, h2⟩
    · cases h
  · split at h
    · cases h
    · next a ha =>
      split at h
      · next hs =>
        have hk := spent_ok (h1 a (List.mem_of_getElem? ha)) hm hs
        split at h
        · cases h; exact ⟨by rw [addB_len, List.length_set, hl], addB_ok (set_ok h1 _ hk) _ _, h2⟩
        · split at h
          · cases h
            refine ⟨by rw [List.length_set, hl], set_ok h1 _ hk, fun o ho => ?_⟩
            rcases List.mem_append.1 ho with ho | ho
            · exact h2 o ho
            · simp at ho; subst ho; exact ⟨hm.t0, hm.t1, hm.a0, hm.a1⟩
          · cases h
      · cases h
theorem dl_ok {ps : List Ac} {os : List Ou} {L : List Int} (hL : Bts L) (hl : ps.length = 32) (h1 : ∀ a ∈ ps, AcOK a) (h2 : ∀ o ∈ os, OuOK o) : (dlP ps os L).length = 32 ∧ (∀ a ∈ dlP ps os L, AcOK a) ∧ (∀ o ∈ dlO ps os L, OuOK o) := by
  unfold dlP dlO dlt
  split
  · cases h : act ps os (rdM L) with
    | none => exact ⟨hl, h1, h2⟩
    | some r => exact act_ok (rdM_ok hL) hl h1 h2 h
  · exact ⟨hl, h1, h2⟩
theorem addB_non (ps : List Ac) (i : Nat) (x : Int) (j : Nat) : ((addB ps i x)[j]?).map (·.non) = (ps[j]?).map (·.non) := by
  unfold addB
  split
  · rfl
  · next a ha =>
    rw [List.getElem?_set]
    split
    · next e =>
      subst e
      split
      · rw [ha]; rfl
      · next h => exact absurd (List.getElem?_eq_some_iff.1 ha).1 h
    · rfl
/-- What does something changes the accounts. -/
theorem act_ne {ps : List Ac} {os : List Ou} {m : Mg} {r : List Ac × List Ou} (hm : MgOK m) (hmy : m.may = true) (hl : ps.length = 32) (h1 : ∀ a ∈ ps, AcOK a) (h : act ps os m = some r) : r.1 ≠ ps := by
  have hk := may_kinds hm hmy
  have ht0 := hm.t0
  have hf0 := hm.f0
  unfold act at h
  split at h
  · next h1k =>
    split at h
    · cases h
      obtain ⟨-, hw, ha⟩ : m.kd = 1 ∧ m.tw < 32 ∧ 0 < m.am := by omega
      have hi : m.tw.toNat < ps.length := by omega
      intro e
      have e2 : (addB ps m.tw.toNat m.am)[m.tw.toNat]? = ps[m.tw.toNat]? := by simp only [] at e; rw [e]
      rw [addB_some (List.getElem?_eq_getElem hi), List.getElem?_set_self hi, List.getElem?_eq_getElem hi] at e2
      have e3 := congrArg Ac.bal (Option.some.inj e2)
      have ho := h1 _ (List.getElem_mem hi)
      have := ho.b0
      have := ho.b1
      have := hm.a1
      simp only [] at e3
      omega
    · cases h
  · split at h
    · cases h
    · next a ha =>
      have hi := (List.getElem?_eq_some_iff.1 ha).1
      have key : ∀ q : List Ac, (q[m.fr.toNat]?).map (·.non) = ((ps.set m.fr.toNat (spent a m))[m.fr.toNat]?).map (·.non) → q ≠ ps := fun q hq e => by
        rw [e, List.getElem?_set_self hi, ha] at hq
        simp [spent] at hq
        omega
      split at h
      · split at h
        · cases h; exact key _ (addB_non _ _ _ _)
        · split at h
          · cases h; exact key _ rfl
          · cases h
      · cases h
theorem acF_app (a b : List Ac) : acF (a ++ b) = acF a ++ acF b := by simp [acF]
theorem acF_cons (a : Ac) (r : List Ac) : acF (a :: r) = a.cells ++ acF r := by simp [acF]
theorem split_at {α : Type} {l : List α} {i : Nat} {a : α} (h : l[i]? = some a) : l = l.take i ++ a :: l.drop (i + 1) := by
  obtain ⟨hi, rfl⟩ := List.getElem?_eq_some_iff.1 h
  simp
theorem set_at {α : Type} {l : List α} {i : Nat} (hi : i < l.length) (b : α) : l.set i b = l.take i ++ b :: l.drop (i + 1) := by
  rw [List.set_eq_take_append_cons_drop, if_pos hi]
theorem stA_put {ps : List Ac} {i : Nat} {a a' : Ac} {sp : Option Addr} {n cap : Nat} {A B B' C : List Value} (ha : ps[i]? = some a) (h2 : ∀ a ∈ ps, a.lk.length = 32) (hc : a.cells = A ++ B ++ C) (hc' : a'.cells = A ++ B' ++ C) (hl : B.length = B'.length) :
    setA (stA ps sp n cap) (i * 34 + A.length) B' = stA (ps.set i a') sp n cap := by
  have hi := (List.getElem?_eq_some_iff.1 ha).1
  have ht : (acF (ps.take i)).length = i * 34 := by
    rw [acF_len (fun x hx => h2 x (List.mem_of_mem_take hx)), List.length_take, Nat.min_eq_left (by omega)]
  have e1 : stA ps sp n cap = ((acF (ps.take i) ++ A) ++ B ++ (C ++ (acF (ps.drop (i + 1)) ++ [Value.slice sp n cap]))).toArray := by
    unfold stA stC
    conv => lhs; rw [split_at ha]
    rw [acF_app, acF_cons, hc]; simp only [List.append_assoc]
  have e2 : stA (ps.set i a') sp n cap = ((acF (ps.take i) ++ A) ++ B' ++ (C ++ (acF (ps.drop (i + 1)) ++ [Value.slice sp n cap]))).toArray := by
    unfold stA stC
    rw [set_at hi, acF_app, acF_cons, hc']; simp only [List.append_assoc]
  rw [e1, e2, ← ht, ← List.length_append]
  exact setA_mid B B' _ _ hl
theorem setA1 (C : Array Value) (o : Nat) (v : Value) : setA C o [v] = C.setIfInBounds o v := rfl
theorem stA_bal {ps : List Ac} {i : Nat} {a : Ac} {sp : Option Addr} {n cap : Nat} (ha : ps[i]? = some a) (h2 : ∀ a ∈ ps, a.lk.length = 32) (x : Int) : (stA ps sp n cap).setIfInBounds (i * 34) (.int .u64 x) = stA (ps.set i ⟨x, a.non, a.lk⟩) sp n cap := by
  have h := stA_put (sp := sp) (n := n) (cap := cap) (a' := ⟨x, a.non, a.lk⟩) (A := []) (B := [.int .u64 a.bal]) (B' := [.int .u64 x]) (C := .int .u64 a.non :: by8 a.lk) ha h2 rfl rfl rfl
  rw [List.length_nil, Nat.add_zero, setA1] at h
  exact h
theorem stA_non {ps : List Ac} {i : Nat} {a : Ac} {sp : Option Addr} {n cap : Nat} (ha : ps[i]? = some a) (h2 : ∀ a ∈ ps, a.lk.length = 32) (x : Int) : (stA ps sp n cap).setIfInBounds (i * 34 + 1) (.int .u64 x) = stA (ps.set i ⟨a.bal, x, a.lk⟩) sp n cap := by
  have h := stA_put (sp := sp) (n := n) (cap := cap) (a' := ⟨a.bal, x, a.lk⟩) (A := [.int .u64 a.bal]) (B := [.int .u64 a.non]) (B' := [.int .u64 x]) (C := by8 a.lk) ha h2 rfl rfl rfl
  rw [List.length_singleton, setA1] at h
  exact h
theorem stA_lk {ps : List Ac} {i : Nat} {a : Ac} {sp : Option Addr} {n cap : Nat} (ha : ps[i]? = some a) (h2 : ∀ a ∈ ps, a.lk.length = 32) {X : List Int} (hX : X.length = 32) : setA (stA ps sp n cap) (i * 34 + 2) (by8 X) = stA (ps.set i ⟨a.bal, a.non, X⟩) sp n cap := by
  have h := stA_put (sp := sp) (n := n) (cap := cap) (a' := ⟨a.bal, a.non, X⟩) (A := [.int .u64 a.bal, .int .u64 a.non]) (B := by8 a.lk) (B' := by8 X) (C := []) ha h2 (by simp [Ac.cells]) (by simp [Ac.cells]) (by rw [by8_len, by8_len, hX, h2 a (List.mem_of_getElem? ha)])
  exact h
theorem stA_acc {ps : List Ac} {i : Nat} {a a' : Ac} {sp : Option Addr} {n cap : Nat} (ha : ps[i]? = some a) (h2 : ∀ a ∈ ps, a.lk.length = 32) (h' : a'.lk.length = 32) : setA (stA ps sp n cap) (i * 34) a'.cells = stA (ps.set i a') sp n cap := by
  have h := stA_put (sp := sp) (n := n) (cap := cap) (a' := a') (A := []) (B := a.cells) (B' := a'.cells) (C := []) ha h2 (by simp) (by simp) (by rw [Ac.len h', Ac.len (h2 a (List.mem_of_getElem? ha))])
  rw [List.length_nil, Nat.add_zero] at h
  exact h
theorem slL_at {w : World} {g o : Nat} {X : List Int} (h : w.rangeAt g o (by8 X)) : SlL w (some ⟨g, o, none⟩) X := fun _ => ⟨g, o, rfl, fun t ht => h t _ (by8_get ht)⟩
end Go.Proofs.Ytbhhbkoikocjgaa
/- Layer spec: what the layers below give. -/
namespace Go.Proofs.Ytbhhbkoikocjgaa
set_option linter.unusedSectionVars false
set_option maxHeartbeats 1000000
open Go.RowKit
set_option maxRecDepth 100000
set_option linter.unusedVariables false
set_option linter.unusedSimpArgs false

variable [DecidableEq Ac] [DecidableEq Ou] [DecidableEq Mg]
theorem s24u8 (f : Nat → Int) : (Try.prog.info? 24).map (·.size) = some (u8s 32 f).size := by rw [u8s_size]; exact size24
theorem u8s_one (n : Nat) (f : Nat → Int) : (u8s n f).all (·.oneCell') = true := one_ints (u8s_size n f) (fun _ h => u8s_get h)
/-- Byte t of the sum of four words. -/
def fromB (W : Nat → Int) (t : Nat) : Int := W (t / 8) / 2 ^ (56 - 8 * (t % 8)) % 256
set_option maxHeartbeats 1000000 in
theorem from_any (C0 : Array Value) (W : Nat → Int) (w : World) (hC0 : ∀ t, t < 4 → C0[t]? = some (.int .u64 (W t))) :
    Calls Try.prog 79 #[.agg C0] w fun e w' => e = .returned (.agg (u8s 32 (fromB W))) ∧ Below w.heap.size w w' := by
  go_enter Try.func79, Try.ntmps79
  go_wp2
  go_loopw [5] (fun i wr => ∃ (k : Nat) (C Z : Array Value), k ≤ 32 ∧ i = .int .i64 k ∧ Arr wr w.heap.size 135 C0 ∧ Arr wr (w.heap.size + 1) 24 Z ∧ Z.size = 32 ∧ Arr wr (w.heap.size + 1 + 1) 24 C ∧ C.size = 32 ∧ (∀ t, t < k → C[t]? = some (.int .u8 (fromB W t))) ∧ Below w.heap.size w wr)
    (fun i _ => 32 - (intOf i).toNat)
  case atStart => exact ⟨0, _, _, by omega, rfl, ((Arr.new w 135 C0).alloc _).alloc _, by simpa using (Arr.new (w.alloc _) 24 _).alloc _, rfl, by simpa using Arr.new ((w.alloc _).alloc _) 24 _, rfl, fun j hj => by omega, (((Below.refl _ _).alloc (by simp) _).alloc (by simp) _).alloc (by simp; omega) _⟩
  case round =>
    obtain ⟨k, C, Z, hk, rfl, hX, hZ, hZs, hC, hCs, hw, hbl⟩ := hrel
    have HW := Hid.mk' hw
    clear hw
    by_cases hlt : k < 32
    · have h3 : (k : Int) < 32 := by omega
      have h4 : (0 : Int) ≤ k := by omega
      have c0 : wr.cell? ⟨w.heap.size, k / 8, none⟩ = some (.int .u64 (W (k / 8))) := (hX.cell _).trans (hC0 _ (by omega))
      obtain ⟨v1, c1⟩ := hC.got (j := k) (by omega)
      have f0 := hC.frozen k
      go_wp2
      go_roundw
      case rel =>
        have q := set_step (f := fun t => .int .u8 (fromB W t)) hCs (by omega) HW.out
        exact ⟨k + 1, _, Z, by omega, by go_num, hX.setOther _ (by simp; omega), hZ.setOther _ (by simp), hZs, hC.set _ _, by simp [hCs], q, hbl.setCell (by simp; omega) _⟩
      case measure => simp [intOf]; omega
    · obtain rfl : k = 32 := by omega
      have hCe : C = u8s 32 (fromB W) := arr_eq hCs HW.out
      subst hCe
      go_wp2_with (first
        | (refine wpList_load_row (by rfl) 24 (.tmp 3) (by rfl) (w.heap.size + 1 + 1) (by rfl) 24 (u8s 32 (fromB W)) (0, 0) _ hC Try.underlying24 rfl (s24u8 _) ?_)
        | (refine wpList_store_arr (by rfl) 24 (.tmp 2) (.tmp 21) (by rfl) (w.heap.size + 1) (u8s 32 (fromB W)) (by rfl) (by rfl) 24 _ hZ (s24u8 _) (by rw [hZs]; exact (u8s_size _ _).symm) (u8s_one _ _) ?_))
      exact bodyPost_ret (v := .agg (u8s 32 (fromB W))) (results_cell_row Try.results79 _ _ (w.heap.size + 1) 24 _ (0, 0) _ rfl (hZ.setRow _) Try.underlying24 rfl (s24u8 _)) rfl ⟨rfl, below_setRow hbl (by omega) _⟩
set_option maxHeartbeats 1000000 in
theorem refFrom_any (C0 : Array Value) (W : Nat → Int) (w : World) (hC0 : ∀ t, t < 4 → C0[t]? = some (.int .u64 (W t))) :
    Calls Try.prog 67 #[.agg C0] w fun e w' => e = .returned (.agg (u8s 32 (fromB W))) ∧ Below w.heap.size w w' := by
  go_enter Try.func67, Try.ntmps67
  go_wp2
  go_loopw [4] (fun i wr => ∃ (k : Nat) (C Z : Array Value), k ≤ 32 ∧ i = .int .i64 k ∧ Arr wr w.heap.size 135 C0 ∧ Arr wr (w.heap.size + 1) 24 Z ∧ Z.size = 32 ∧ Arr wr (w.heap.size + 1 + 1) 24 C ∧ C.size = 32 ∧ (∀ t, t < k → C[t]? = some (.int .u8 (fromB W t))) ∧ Below w.heap.size w wr)
    (fun i _ => 32 - (intOf i).toNat)
  case atStart => exact ⟨0, _, _, by omega, rfl, ((Arr.new w 135 C0).alloc _).alloc _, by simpa using (Arr.new (w.alloc _) 24 _).alloc _, rfl, by simpa using Arr.new ((w.alloc _).alloc _) 24 _, rfl, fun j hj => by omega, (((Below.refl _ _).alloc (by simp) _).alloc (by simp) _).alloc (by simp; omega) _⟩
  case round =>
    obtain ⟨k, C, Z, hk, rfl, hX, hZ, hZs, hC, hCs, hw, hbl⟩ := hrel
    have HW := Hid.mk' hw
    clear hw
    by_cases hlt : k < 32
    · have h3 : (k : Int) < 32 := by omega
      have h4 : (0 : Int) ≤ k := by omega
      have c0 : wr.cell? ⟨w.heap.size, k / 8, none⟩ = some (.int .u64 (W (k / 8))) := (hX.cell _).trans (hC0 _ (by omega))
      obtain ⟨v1, c1⟩ := hC.got (j := k) (by omega)
      have f0 := hC.frozen k
      go_wp2
      go_roundw
      case rel =>
        have q := set_step (f := fun t => .int .u8 (fromB W t)) hCs (by omega) HW.out
        exact ⟨k + 1, _, Z, by omega, by go_num, hX.setOther _ (by simp; omega), hZ.setOther _ (by simp), hZs, hC.set _ _, by simp [hCs], q, hbl.setCell (by simp; omega) _⟩
      case measure => simp [intOf]; omega
    · obtain rfl : k = 32 := by omega
      have hCe : C = u8s 32 (fromB W) := arr_eq hCs HW.out
      subst hCe
      go_wp2_with (first
        | (refine wpList_load_row (by rfl) 24 (.tmp 3) (by rfl) (w.heap.size + 1 + 1) (by rfl) 24 (u8s 32 (fromB W)) (0, 0) _ hC Try.underlying24 rfl (s24u8 _) ?_)
        | (refine wpList_store_arr (by rfl) 24 (.tmp 2) (.tmp 22) (by rfl) (w.heap.size + 1) (u8s 32 (fromB W)) (by rfl) (by rfl) 24 _ hZ (s24u8 _) (by rw [hZs]; exact (u8s_size _ _).symm) (u8s_one _ _) ?_))
      exact bodyPost_ret (v := .agg (u8s 32 (fromB W))) (results_cell_row Try.results67 _ _ (w.heap.size + 1) 24 _ (0, 0) _ rfl (hZ.setRow _) Try.underlying24 rfl (s24u8 _)) rfl ⟨rfl, below_setRow hbl (by omega) _⟩
/-- The four words of a number. -/
def w4 (n : Int) (t : Nat) : Int := if t = 3 then n else 0
end Go.Proofs.Ytbhhbkoikocjgaa
