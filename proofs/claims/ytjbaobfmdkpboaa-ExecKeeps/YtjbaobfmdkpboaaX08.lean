/- Pc, Mp, Sj. -/
import Derived.Test.YtjbaobfmdkpboaaX01
import Derived.Test.YtjbaobfmdkpboaaX02
import Derived.Test.YtjbaobfmdkpboaaX04
import Derived.Test.YtjbaobfmdkpboaaX05
import Derived.Test.YtjbaobfmdkpboaaX06
import Derived.Test.YtjbaobfmdkpboaaX07
import Derived.BigQuiet
import Derived.BigRegion
import Derived.ChangeKeysEq
import Derived.Deep.DeepCutAuto
import Derived.Deep.DrawnRows
import Derived.Deep.MidRow
import Derived.Deep.QuietTactic
import Derived.Deep.RegionHeld3
import Derived.Deep.RegionLaw
import Derived.Deep.RegionWith
import Derived.Deep.WholeRow
import Derived.JoinedTies
import Derived.KernelRfl
import Derived.Laws.AppendOwnNone
import Derived.Laws.BitsLemmas
import Derived.Laws.BytesArg
import Derived.Laws.CopyOwn
import Derived.Lib.SlBytesConst
import Derived.LoopIn
import Derived.LoopNIn
import Derived.OwnWalkIn
import Derived.RangeFuncBound
import Derived.RangeFuncCalls
import Derived.RangeFuncLeaves
import Derived.RangeFuncNested
import Derived.RangeFuncRecord
import Derived.Shelf.Abstract
import Derived.Shelf.RegionOpen
import Derived.TacticsInMore
import Derived.WalkKit
import Derived.WalkLawsBesides
import Derived.WalkSpells
import GoSem.Claim
import GoSem.ClaimJoined
import GoSem.ClaimMapViews
import Derived.Test.YtjbaobfmdkpboaaX03
import Derived.Great.BuildSlice
import Derived.Great.FillDense
import Derived.Laws.OwnMore
import Derived.Laws.CopyRow
import Derived.Laws.MakeOwn
import Derived.Laws.Tables
import Derived.Maps.AppendAt
/- Layer exec: what the layers below give. -/
namespace Go.Proofs.Ytjbaobfmdkpboaa
set_option linter.unusedSectionVars false
set_option maxHeartbeats 1000000
open Go.RowKit
set_option maxRecDepth 100000
set_option linter.unusedVariables false
set_option linter.unusedSimpArgs false

/-- What Total answers. -/
def ttV (ps : List Ac) : Int := (tt ps 0).getD 0
def ttE (ps : List Ac) : Int := if (tt ps 0).isSome then 0 else 4
theorem tt_step {ps : List Ac} {k : Nat} {a : Ac} {t : Int} (ha : ps[k]? = some a) : tt (ps.drop k) t = if a.bal > 4611686018427387904 - t then none else tt (ps.drop (k + 1)) (t + a.bal) := by
  have hk := (List.getElem?_eq_some_iff.1 ha).1
  rw [List.drop_eq_getElem_cons hk, (List.getElem?_eq_some_iff.1 ha).2, tt]
set_option maxHeartbeats 1000000 in
theorem total_any (ps : List Ac) (sp : Option Addr) (n cap : Nat) (w : World) (h1 : ps.length = 32) (hok : ∀ a ∈ ps, AcOK a) :
    Calls Try.prog 32 #[.agg (stA ps sp n cap)] w fun e w' => e = .returned (.tuple #[.int .u64 (ttV ps), .int .i64 (ttE ps)]) ∧ Below w.heap.size w w' := by
  have h2 : ∀ a ∈ ps, a.lk.length = 32 := fun a ha => (hok a ha).l32
  have A0 := Arr.new w 30 (stA ps sp n cap)
  have hb0 := alloc_bel' w (.cells (stA ps sp n cap) 30)
  go_enter Try.func32, Try.ntmps32
  go_wp2_with (refine ld27 (by rfl) _ (by rfl) w.heap.size 30 (by rfl) ps sp n cap h1 h2 A0 ?_)
  go_loopw [4, 9] (fun v q wr => ∃ (k : Nat) (t : Int), v = .int .u64 t ∧ q = .int .i64 (k : Int) ∧ k ≤ 32 ∧ 0 ≤ t ∧ t ≤ 4611686018427387904 ∧ Hid (tt ps 0 = tt (ps.drop k) t) ∧ Below w.heap.size w wr) (fun _ q _ => 32 - (intOf q).toNat)
  case atStart => exact ⟨0, 0, rfl, rfl, by omega, by omega, by omega, Hid.mk' (by simp), hb0⟩
  case round =>
    obtain ⟨k, t, rfl, rfl, hk, ht0, ht1, hT, hbl⟩ := hrel
    clear A0 hb0
    by_cases hlt : k < 32
    · have hI : (k : Int) < 32 := by omega
      obtain ⟨a, ha⟩ : ∃ a, ps[k]? = some a := ⟨ps[k]'(by omega), List.getElem?_eq_getElem _⟩
      have hix := index27 h2 hlt ha
      have ha32 := h2 a (List.mem_of_getElem? ha)
      have hao := hok a (List.mem_of_getElem? ha)
      have hb0 := hao.b0
      have hb1 := hao.b1
      have hst := Hid.mk' (tt_step (t := t) ha)
      have A1 := Arr.new wr 26 a.arr
      have c0 := ac_c0 A1.ac
      have hbl1 := hbl.alloc hbl.size (.cells a.arr 26)
      have hw1 : (4611686018427387904 - t) % 18446744073709551616 = 4611686018427387904 - t := by omega
      clear ha hao
      by_cases hgt : a.bal > 4611686018427387904 - t
      · have hv : Hid (ttV ps = 0 ∧ ttE ps = 4) := Hid.mk' (by unfold ttV ttE; rw [hT.out, hst.out, if_pos hgt]; exact ⟨rfl, rfl⟩)
        go_wp2_with (refine st26n (by rfl) _ _ (by rfl) wr wr.heap.size rfl (by rfl) a (by rfl) (by rfl) ha32 ?_)
        go_ret2
        exact ⟨by rw [hv.out.1, hv.out.2]; rfl, hbl1⟩
      · have hw2 : (t + a.bal) % 18446744073709551616 = t + a.bal := by omega
        have hn : Hid (tt ps 0 = tt (ps.drop (k + 1)) (t + a.bal)) := Hid.mk' (by rw [hT.out, hst.out, if_neg hgt])
        go_wp2_with (refine st26n (by rfl) _ _ (by rfl) wr wr.heap.size rfl (by rfl) a (by rfl) (by rfl) ha32 ?_)
        go_roundw
        case rel => exact ⟨k + 1, t + a.bal, by simp [hw2], by go_num, by omega, by omega, by omega, hn, hbl1⟩
        case measure => simp [intOf]; omega
    · obtain rfl : k = 32 := by omega
      have hv : Hid (ttV ps = t ∧ ttE ps = 0) := Hid.mk' (by unfold ttV ttE; rw [hT.out, List.drop_eq_nil_of_le (by omega)]; exact ⟨rfl, rfl⟩)
      go_wp2_with fail
      go_ret2
      exact ⟨by rw [hv.out.1, hv.out.2]; rfl, hbl⟩
set_option maxHeartbeats 1000000 in
theorem refTotal_any (ps : List Ac) (sp : Option Addr) (n cap : Nat) (w : World) (h1 : ps.length = 32) (hok : ∀ a ∈ ps, AcOK a) :
    Calls Try.prog 17 #[.agg (stA ps sp n cap)] w fun e w' => e = .returned (.tuple #[.int .u64 (ttV ps), .int .i64 (ttE ps)]) ∧ Below w.heap.size w w' := by
  have h2 : ∀ a ∈ ps, a.lk.length = 32 := fun a ha => (hok a ha).l32
  have A0 := Arr.new w 30 (stA ps sp n cap)
  have hb0 := alloc_bel' w (.cells (stA ps sp n cap) 30)
  go_enter Try.func17, Try.ntmps17
  go_wp2_with fail
  go_loopw [4, 5] (fun v q wr => ∃ (k : Nat) (t : Int), v = .int .u64 t ∧ q = .int .i64 (k : Int) ∧ k ≤ 32 ∧ 0 ≤ t ∧ t ≤ 4611686018427387904 ∧ Hid (tt ps 0 = tt (ps.drop k) t) ∧ Below w.heap.size w wr ∧ Arr wr w.heap.size 30 (stA ps sp n cap)) (fun _ q _ => 32 - (intOf q).toNat)
  case atStart => exact ⟨0, 0, rfl, rfl, by omega, by omega, by omega, Hid.mk' (by simp), hb0, A0⟩
  case round =>
    obtain ⟨k, t, rfl, rfl, hk, ht0, ht1, hT, hbl, A⟩ := hrel
    clear A0 hb0
    by_cases hlt : k < 32
    · have hI : (k : Int) < 32 := by omega
      obtain ⟨a, ha⟩ : ∃ a, ps[k]? = some a := ⟨ps[k]'(by omega), List.getElem?_eq_getElem _⟩
      have hao := hok a (List.mem_of_getElem? ha)
      have hb0 := hao.b0
      have hb1 := hao.b1
      have hst := Hid.mk' (tt_step (t := t) ha)
      have c0 := ac_c0 (A.stAt h2 ha)
      have hw1 : (4611686018427387904 - t) % 18446744073709551616 = 4611686018427387904 - t := by omega
      clear ha hao
      by_cases hgt : a.bal > 4611686018427387904 - t
      · have hv : Hid (ttV ps = 0 ∧ ttE ps = 4) := Hid.mk' (by unfold ttV ttE; rw [hT.out, hst.out, if_pos hgt]; exact ⟨rfl, rfl⟩)
        go_wp2_with fail
        go_ret2
        exact ⟨by rw [hv.out.1, hv.out.2]; rfl, hbl⟩
      · have hw2 : (t + a.bal) % 18446744073709551616 = t + a.bal := by omega
        have hn : Hid (tt ps 0 = tt (ps.drop (k + 1)) (t + a.bal)) := Hid.mk' (by rw [hT.out, hst.out, if_neg hgt])
        go_wp2_with fail
        go_roundw
        case rel => exact ⟨k + 1, t + a.bal, by simp [hw2], by go_num, by omega, by omega, by omega, hn, hbl, A⟩
        case measure => simp [intOf]; omega
    · obtain rfl : k = 32 := by omega
      have hv : Hid (ttV ps = t ∧ ttE ps = 0) := Hid.mk' (by unfold ttV ttE; rw [hT.out, List.drop_eq_nil_of_le (by omega)]; exact ⟨rfl, rfl⟩)
      go_wp2_with fail
      go_ret2
      exact ⟨by rw [hv.out.1, hv.out.2]; rfl, hbl⟩
set_option maxHeartbeats 1000000 in
theorem may_any (ps : List Ac) (sp : Option Addr) (n cap : Nat) (w : World) (h1 : ps.length = 32) (hok : ∀ a ∈ ps, AcOK a) (hn : n ≤ 140737488355328) :
    Calls Try.prog 22 #[.agg (stA ps sp n cap)] w fun e w' => e = .returned (.bool (may ps n)) ∧ Below w.heap.size w w' := by
  have h2 : ∀ a ∈ ps, a.lk.length = 32 := fun a ha => (hok a ha).l32
  have A0 := Arr.new w 30 (stA ps sp n cap)
  have hb0 := alloc_bel' w (.cells (stA ps sp n cap) 30)
  have hT := total_any ps sp n cap (w.alloc (.cells (stA ps sp n cap) 30)) h1 hok
  have hm : Hid (may ps n = ((tt ps 0).isSome && decide (n ≤ 32))) := Hid.mk' rfl
  by_cases hs : (tt ps 0).isSome
  · have e : ttE ps = 0 := by unfold ttE; rw [if_pos hs]
    rw [e] at hT
    clear e
    by_cases hle : n ≤ 32
    · have hI : (n : Int) ≤ 32 := by omega
      have hm' : Hid (may ps n = true) := Hid.mk' (by rw [hm.out, hs, decide_eq_true hle]; rfl)
      clear hs hm
      replace hT := Hid.mk' hT
      go_enter Try.func22, Try.ntmps22
      go_upto_region 2 with (first
        | (refine ld30 (by rfl) _ (by rfl) w.heap.size 30 (by rfl) ps sp n cap h1 h2 A0 ?_)
        | (go_at_call 32; go_must (refine hT.out.mono ?_; rintro e w1 ⟨rfl, hb1⟩)))
      have c1 := (A0.below hb1 (by simp)).stOut h1 h2
      go_wp2_with fail
      go_ret
      exact ⟨by (rw [hm'.out]; first | rfl | simp [hI]), hb0.trans (hb1.mono (by simp))⟩
    · have hI : ¬ (n : Int) ≤ 32 := by omega
      have hm' : Hid (may ps n = false) := Hid.mk' (by rw [hm.out, hs, decide_eq_false hle]; rfl)
      clear hs hm
      replace hT := Hid.mk' hT
      go_enter Try.func22, Try.ntmps22
      go_upto_region 2 with (first
        | (refine ld30 (by rfl) _ (by rfl) w.heap.size 30 (by rfl) ps sp n cap h1 h2 A0 ?_)
        | (go_at_call 32; go_must (refine hT.out.mono ?_; rintro e w1 ⟨rfl, hb1⟩)))
      have c1 := (A0.below hb1 (by simp)).stOut h1 h2
      go_wp2_with fail
      go_ret
      exact ⟨by (rw [hm'.out]; first | rfl | simp [hI]), hb0.trans (hb1.mono (by simp))⟩
  · have e : ttE ps = 4 := by unfold ttE; rw [if_neg hs]
    rw [e] at hT
    clear e
    have hm' : Hid (may ps n = false) := Hid.mk' (by rw [hm.out, Bool.eq_false_iff.2 hs]; rfl)
    clear hs hm
    replace hT := Hid.mk' hT
    go_enter Try.func22, Try.ntmps22
    go_upto_region 2 with (first
      | (refine ld30 (by rfl) _ (by rfl) w.heap.size 30 (by rfl) ps sp n cap h1 h2 A0 ?_)
      | (go_at_call 32; go_must (refine hT.out.mono ?_; rintro e w1 ⟨rfl, hb1⟩)))
    have c1 := (A0.below hb1 (by simp)).stOut h1 h2
    go_wp2_with fail
    go_ret
    exact ⟨by (rw [hm'.out]; first | rfl | simp [hI]), hb0.trans (hb1.mono (by simp))⟩
set_option maxHeartbeats 1000000 in
theorem refMay_any (ps : List Ac) (sp : Option Addr) (n cap : Nat) (w : World) (h1 : ps.length = 32) (hok : ∀ a ∈ ps, AcOK a) (hn : n ≤ 140737488355328) :
    Calls Try.prog 16 #[.agg (stA ps sp n cap)] w fun e w' => e = .returned (.bool (may ps n)) ∧ Below w.heap.size w w' := by
  have h2 : ∀ a ∈ ps, a.lk.length = 32 := fun a ha => (hok a ha).l32
  have A0 := Arr.new w 30 (stA ps sp n cap)
  have hb0 := alloc_bel' w (.cells (stA ps sp n cap) 30)
  have hT := refTotal_any ps sp n cap (w.alloc (.cells (stA ps sp n cap) 30)) h1 hok
  have hm : Hid (may ps n = ((tt ps 0).isSome && decide (n ≤ 32))) := Hid.mk' rfl
  by_cases hs : (tt ps 0).isSome
  · have e : ttE ps = 0 := by unfold ttE; rw [if_pos hs]
    rw [e] at hT
    clear e
    by_cases hle : n ≤ 32
    · have hI : (n : Int) ≤ 32 := by omega
      have hm' : Hid (may ps n = true) := Hid.mk' (by rw [hm.out, hs, decide_eq_true hle]; rfl)
      clear hs hm
      replace hT := Hid.mk' hT
      go_enter Try.func16, Try.ntmps16
      go_upto_region 2 with (first
        | (refine ld30 (by rfl) _ (by rfl) w.heap.size 30 (by rfl) ps sp n cap h1 h2 A0 ?_)
        | (go_at_call 17; go_must (refine hT.out.mono ?_; rintro e w1 ⟨rfl, hb1⟩)))
      have c1 := (A0.below hb1 (by simp)).stOut h1 h2
      go_wp2_with fail
      go_ret
      exact ⟨by (rw [hm'.out]; first | rfl | simp [hI]), hb0.trans (hb1.mono (by simp))⟩
    · have hI : ¬ (n : Int) ≤ 32 := by omega
      have hm' : Hid (may ps n = false) := Hid.mk' (by rw [hm.out, hs, decide_eq_false hle]; rfl)
      clear hs hm
      replace hT := Hid.mk' hT
      go_enter Try.func16, Try.ntmps16
      go_upto_region 2 with (first
        | (refine ld30 (by rfl) _ (by rfl) w.heap.size 30 (by rfl) ps sp n cap h1 h2 A0 ?_)
        | (go_at_call 17; go_must (refine hT.out.mono ?_; rintro e w1 ⟨rfl, hb1⟩)))
      have c1 := (A0.below hb1 (by simp)).stOut h1 h2
      go_wp2_with fail
      go_ret
      exact ⟨by (rw [hm'.out]; first | rfl | simp [hI]), hb0.trans (hb1.mono (by simp))⟩
  · have e : ttE ps = 4 := by unfold ttE; rw [if_neg hs]
    rw [e] at hT
    clear e
    have hm' : Hid (may ps n = false) := Hid.mk' (by rw [hm.out, Bool.eq_false_iff.2 hs]; rfl)
    clear hs hm
    replace hT := Hid.mk' hT
    go_enter Try.func16, Try.ntmps16
    go_upto_region 2 with (first
      | (refine ld30 (by rfl) _ (by rfl) w.heap.size 30 (by rfl) ps sp n cap h1 h2 A0 ?_)
      | (go_at_call 17; go_must (refine hT.out.mono ?_; rintro e w1 ⟨rfl, hb1⟩)))
    have c1 := (A0.below hb1 (by simp)).stOut h1 h2
    go_wp2_with fail
    go_ret
    exact ⟨by (rw [hm'.out]; first | rfl | simp [hI]), hb0.trans (hb1.mono (by simp))⟩
end Go.Proofs.Ytjbaobfmdkpboaa
/- Layer exec: what the layers below give. -/
namespace Go.Proofs.Ytjbaobfmdkpboaa
set_option linter.unusedSectionVars false
set_option maxHeartbeats 1000000
open Go.RowKit Go.Shelf
set_option maxRecDepth 100000
set_option linter.unusedVariables false
set_option linter.unusedSimpArgs false

theorem y24 {ops : Array Oper} {S : World → Prop} {op : Oper} {a : Act} (hw : Region.wanted op (yielded ops a.tmps) = true) (x : Operand) (ho : op.op = .load 24 x)
    (b o : Nat) (hx : a.eval x = .pointer (some ⟨b, o, none⟩)) (X : List Int) (hX : X.length = 32) (hS : ∀ w, S w → w.rangeAt b o (by8 X)) : YieldsIf Try.prog ops S op (.agg (h8 X)) a :=
  yieldsIf_load_mid hw 24 x ho b o hx (by8 X) _ hS Try.underlying24 rfl (by rw [by8_len, hX]; exact size24)
end Go.Proofs.Ytjbaobfmdkpboaa
/- Layer exec: what the layers below give. -/
namespace Go.Proofs.Ytjbaobfmdkpboaa
set_option linter.unusedSectionVars false
set_option maxHeartbeats 1000000
open Go.RowKit
set_option maxRecDepth 100000
set_option linter.unusedVariables false
set_option linter.unusedSimpArgs false

def decAc : DecidableEq Ac := fun a b => decidable_of_iff (a.bal = b.bal ∧ a.non = b.non ∧ a.lk = b.lk) (by
  constructor
  · intro ⟨h1, h2, h3⟩; cases a; cases b; simp_all
  · rintro rfl; exact ⟨rfl, rfl, rfl⟩)
variable [DecidableEq Ac]
def decOu : DecidableEq Ou := fun a b => decidable_of_iff (a.tw = b.tw ∧ a.am = b.am) (by
  constructor
  · intro ⟨h1, h2⟩; cases a; cases b; simp_all
  · rintro rfl; exact ⟨rfl, rfl⟩)
variable [DecidableEq Ou]
theorem run_sz {t n : Nat} (h : (Try.prog.info? t).map (·.size) = some n) (w : World) : (sizeOf t).run Try.prog w = .ok n w := by
  cases hq : Try.prog.info? t with
  | none => rw [hq] at h; cases h
  | some i =>
    rw [hq] at h
    have hz : i.size = n := by simpa using h
    simp [sizeOf, typeInfo, hq, hz]
theorem isAgg26 (w : World) : (isAgg 26).run Try.prog w = .ok true w := by
  unfold isAgg
  rw [Sem.run_bind, run_underlying Try.underlying26 w]
  rfl
theorem isAgg24' (w : World) : (isAgg 24).run Try.prog w = .ok true w := by
  unfold isAgg
  rw [Sem.run_bind, run_underlying Try.underlying24 w]
  rfl
theorem isAgg22' (w : World) : (isAgg 22).run Try.prog w = .ok false w := by
  unfold isAgg
  rw [Sem.run_bind, run_underlying Try.underlying22 w]
  rfl
theorem part26 {ps : List Ac} (h2 : ∀ a ∈ ps, a.lk.length = 32) {k : Nat} {a : Ac} (ha : ps[k]? = some a) (w : World) : (part 26 (acA ps) (k * 34)).run Try.prog w = .ok (.agg a.arr) w := by
  simp only [part, Sem.run_bind, isAgg26, Result.andThen_ok, if_true, run_sz size26, Sem.run_pure, acA_part h2 ha]
theorem part22 {C : Array Value} {k : Nat} {v : Value} (h : C[k]? = some v) (w : World) : (part 22 C k).run Try.prog w = .ok v w := by
  simp only [part, Sem.run_bind, isAgg22', Result.andThen_ok, h]
  rfl
theorem lk_part {a : Ac} (h : a.lk.length = 32) : a.arr.extract 2 (2 + 32) = h8 a.lk := by
  have hl := by8_len a.lk
  apply Array.ext'
  unfold Ac.arr h8 Ac.cells
  simp
  exact List.take_of_length_le (by omega)
theorem part24 {a : Ac} (h : a.lk.length = 32) (w : World) : (part 24 a.arr 2).run Try.prog w = .ok (.agg (h8 a.lk)) w := by
  simp only [part, Sem.run_bind, isAgg24', Result.andThen_ok, if_true, run_sz size24, Sem.run_pure, lk_part h]
/-- The fields, one after the other. -/
theorem run_eqInD24 {X Y : List Int} (d : Nat) (hX : X.length = 32) (hY : Y.length = 32) (w : World) : (Op.equalIn (d + 3) 24 (.agg (h8 X)) (.agg (h8 Y))).run Try.prog w = .ok (decide (X = Y)) w := by
  obtain ⟨i0, hi, -⟩ := info_parts info5
  have hc : Try.prog.cellsOf 5 = 1 := by kernel_rfl
  rw [run_equalIn_array w (d + 2) _ _ Try.underlying24 hi, hc, eqItems_two w (d + 1) _ _ (bat X) (bat Y) (List.range 32) (fun i h => h8_get (by rw [hX]; simpa using h)) (fun i h => h8_get (by rw [hY]; simpa using h)), bat_ext hX hY]
theorem fields26 : (Try.prog.fieldsOf 26).toList.map (fun f => (f.name != "_", f.type, f.offset)) = [(true, 22, 0), (true, 22, 1), (true, 24, 2)] := by kernel_rfl
theorem fields53 : (Try.prog.fieldsOf 50).toList.map (fun f => (f.name != "_", f.type, f.offset)) = [(true, 22, 0), (true, 22, 1)] := by kernel_rfl
theorem eqf_step {d : Nat} {xs ys : Array Value} {f : Field} {fs : List Field} {u v : Value} {r s : Bool} {w : World} (hn : ¬ f.name = "_") (h1 : (part f.type xs f.offset).run Try.prog w = .ok u w) (h2 : (part f.type ys f.offset).run Try.prog w = .ok v w) (h3 : (Op.equalIn d f.type u v).run Try.prog w = .ok r w)
    (h4 : (Op.eqFields d xs ys fs).run Try.prog w = .ok s w) : (Op.eqFields d xs ys (f :: fs)).run Try.prog w = .ok (r && s) w := by
  simp only [Op.eqFields, hn, ne_eq, not_false_eq_true, if_true, Sem.run_bind, h1, h2, h3, Result.andThen_ok]
  cases r
  · simp
  · simpa using h4
theorem eqf_nil {d : Nat} {xs ys : Array Value} {w : World} : (Op.eqFields d xs ys []).run Try.prog w = .ok true w := by simp [Op.eqFields]
theorem run_eqIn26 {a b : Ac} (d : Nat) (ha : a.lk.length = 32) (hb : b.lk.length = 32) (w : World) : (Op.equalIn (d + 5) 26 (.agg a.arr) (.agg b.arr)).run Try.prog w = .ok (decide (a = b)) w := by
  rw [run_equalIn_struct w (d + 4) 26 _ _ (by kernel_rfl) (by kernel_rfl)]
  have hf := fields26
  generalize (Try.prog.fieldsOf 26).toList = fs at hf
  have hl3 : fs.length = 3 := by simpa using congrArg List.length hf
  match fs, hl3 with
  | [f0, f1, f2], _ =>
  simp only [List.map_cons, List.map_nil, List.cons.injEq, Prod.mk.injEq, and_true, bne_iff_ne, ne_eq, and_assoc] at hf
  obtain ⟨n0, t0, o0, n1, t1, o1, n2, t2, o2⟩ := hf
  have a0 : a.arr[0]? = some (.int .u64 a.bal) := by simp [Ac.arr, Ac.cells]
  have a1 : a.arr[1]? = some (.int .u64 a.non) := by simp [Ac.arr, Ac.cells]
  have b0 : b.arr[0]? = some (.int .u64 b.bal) := by simp [Ac.arr, Ac.cells]
  have b1 : b.arr[1]? = some (.int .u64 b.non) := by simp [Ac.arr, Ac.cells]
  have hd : decide (a = b) = ((a.bal == b.bal) && ((a.non == b.non) && decide (a.lk = b.lk))) := by
    rw [Bool.eq_iff_iff]
    simp only [decide_eq_true_eq, Bool.and_eq_true, beq_iff_eq]
    constructor
    · rintro rfl; exact ⟨rfl, rfl, rfl⟩
    · intro ⟨h1, h2, h3⟩; cases a; cases b; simp_all
  rw [hd]
  have e := eqf_step (d := d + 4) (f := f0) n0 (by rw [t0, o0]; exact part22 a0 w) (by rw [t0, o0]; exact part22 b0 w) (by rw [t0]; exact run_equalIn_int w (d + 3) 22 .u64 .u64 _ _ Try.underlying22)
    (eqf_step (f := f1) n1 (by rw [t1, o1]; exact part22 a1 w) (by rw [t1, o1]; exact part22 b1 w) (by rw [t1]; exact run_equalIn_int w (d + 3) 22 .u64 .u64 _ _ Try.underlying22)
    (eqf_step (f := f2) n2 (by rw [t2, o2]; exact part24 ha w) (by rw [t2, o2]; exact part24 hb w) (by rw [t2]; exact run_eqInD24 (d + 1) ha hb w) eqf_nil))
  rw [e, Bool.and_true]
theorem run_eqIn53 {a b : Ou} (d : Nat) (w : World) : (Op.equalIn (d + 5) 50 (.agg a.arr) (.agg b.arr)).run Try.prog w = .ok (decide (a = b)) w := by
  rw [run_equalIn_struct w (d + 4) 50 _ _ (by kernel_rfl) (by kernel_rfl)]
  have hf := fields53
  generalize (Try.prog.fieldsOf 50).toList = fs at hf
  have hl2 : fs.length = 2 := by simpa using congrArg List.length hf
  match fs, hl2 with
  | [f0, f1], _ =>
  simp only [List.map_cons, List.map_nil, List.cons.injEq, Prod.mk.injEq, and_true, bne_iff_ne, ne_eq, and_assoc] at hf
  obtain ⟨n0, t0, o0, n1, t1, o1⟩ := hf
  have a0 : a.arr[0]? = some (.int .u64 a.tw) := by simp [Ou.arr, Ou.cells]
  have a1 : a.arr[1]? = some (.int .u64 a.am) := by simp [Ou.arr, Ou.cells]
  have b0 : b.arr[0]? = some (.int .u64 b.tw) := by simp [Ou.arr, Ou.cells]
  have b1 : b.arr[1]? = some (.int .u64 b.am) := by simp [Ou.arr, Ou.cells]
  have hd : decide (a = b) = ((a.tw == b.tw) && (a.am == b.am)) := by
    rw [Bool.eq_iff_iff]
    simp only [decide_eq_true_eq, Bool.and_eq_true, beq_iff_eq]
    constructor
    · rintro rfl; exact ⟨rfl, rfl⟩
    · intro ⟨h1, h2⟩; cases a; cases b; simp_all
  rw [hd]
  have e := eqf_step (d := d + 4) (f := f0) n0 (by rw [t0, o0]; exact part22 a0 w) (by rw [t0, o0]; exact part22 b0 w) (by rw [t0]; exact run_equalIn_int w (d + 3) 22 .u64 .u64 _ _ Try.underlying22)
    (eqf_step (f := f1) n1 (by rw [t1, o1]; exact part22 a1 w) (by rw [t1, o1]; exact part22 b1 w) (by rw [t1]; exact run_equalIn_int w (d + 3) 22 .u64 .u64 _ _ Try.underlying22) eqf_nil)
  rw [e, Bool.and_true]
theorem eqItems26 (w : World) (d : Nat) (ps qs : List Ac) (hp : ∀ a ∈ ps, a.lk.length = 32) (hq : ∀ a ∈ qs, a.lk.length = 32) : ∀ is : List Nat, (∀ i ∈ is, i < ps.length) → (∀ i ∈ is, i < qs.length) →
    (Op.eqItems (d + 5) 26 34 (acA ps) (acA qs) is).run Try.prog w = .ok (is.all fun i => decide (ps[i]? = qs[i]?)) w
  | [], _, _ => by simp [Op.eqItems]
  | i :: is, h, h' => by
    have hi := List.getElem?_eq_getElem (h i (by simp))
    have hi' := List.getElem?_eq_getElem (h' i (by simp))
    have ih := eqItems26 w d ps qs hp hq is (fun j hj => h j (by simp [hj])) (fun j hj => h' j (by simp [hj]))
    have m1 := hp _ (List.mem_of_getElem? hi)
    have m2 := hq _ (List.mem_of_getElem? hi')
    simp only [Op.eqItems, Sem.run_bind, part26 hp hi, part26 hq hi', Result.andThen_ok, run_eqIn26 d m1 m2, List.all_cons, hi, hi', Option.some.injEq]
    by_cases he : ps[i]'(h i (by simp)) = qs[i]'(h' i (by simp))
    · simp [he, ih]
    · simp [he]
/-- The arrays of accounts. -/
theorem run_eqIn27 {ps qs : List Ac} (hp1 : ps.length = 32) (hq1 : qs.length = 32) (hp : ∀ a ∈ ps, a.lk.length = 32) (hq : ∀ a ∈ qs, a.lk.length = 32) (w : World) : (Op.equalIn 10000 27 (.agg (acA ps)) (.agg (acA qs))).run Try.prog w = .ok (decide (ps = qs)) w := by
  have hc : Try.prog.cellsOf 26 = 34 := by kernel_rfl
  cases hq' : Try.prog.info? 26 with
  | none => have h := size26; rw [hq'] at h; cases h
  | some i0 =>
  rw [run_equalIn_array w 9999 _ _ Try.underlying27 hq', hc, eqItems26 w 9994 ps qs hp hq (List.range 32) (fun i h => by rw [hp1]; simpa using h) (fun i h => by rw [hq1]; simpa using h)]
  congr 1
  rw [Bool.eq_iff_iff]
  simp only [List.all_eq_true, List.mem_range, decide_eq_true_eq]
  constructor
  · intro h
    apply List.ext_getElem?
    intro i
    by_cases hi : i < 32
    · exact h i hi
    · rw [List.getElem?_eq_none (by omega), List.getElem?_eq_none (by omega)]
  · rintro rfl i _; rfl
theorem run_eq27 {ps qs : List Ac} (hp1 : ps.length = 32) (hq1 : qs.length = 32) (hp : ∀ a ∈ ps, a.lk.length = 32) (hq : ∀ a ∈ qs, a.lk.length = 32) (w : World) : (binOp .eql 27 (.agg (acA ps)) (.agg (acA qs))).run Try.prog w = .ok (.bool (decide (ps = qs))) w := by
  rw [run_eql_struct, run_eqIn27 hp1 hq1 hp hq]; rfl
theorem run_neq27 {ps qs : List Ac} (hp1 : ps.length = 32) (hq1 : qs.length = 32) (hp : ∀ a ∈ ps, a.lk.length = 32) (hq : ∀ a ∈ qs, a.lk.length = 32) (w : World) : (binOp .neq 27 (.agg (acA ps)) (.agg (acA qs))).run Try.prog w = .ok (.bool (!decide (ps = qs))) w := by
  rw [run_neq_struct, run_eqIn27 hp1 hq1 hp hq]; rfl
theorem run_eq26 {a b : Ac} (ha : a.lk.length = 32) (hb : b.lk.length = 32) (w : World) : (binOp .eql 26 (.agg a.arr) (.agg b.arr)).run Try.prog w = .ok (.bool (decide (a = b))) w := by
  rw [run_eql_struct, run_eqIn26 9995 ha hb]; rfl
theorem run_neq53 (a b : Ou) (w : World) : (binOp .neq 50 (.agg a.arr) (.agg b.arr)).run Try.prog w = .ok (.bool (!decide (a = b))) w := by
  rw [run_neq_struct, run_eqIn53 9995]; rfl
end Go.Proofs.Ytjbaobfmdkpboaa
