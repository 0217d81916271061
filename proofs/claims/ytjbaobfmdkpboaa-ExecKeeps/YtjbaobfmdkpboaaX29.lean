/- Eh, Pd, Sa, J. -/
import Derived.Test.YtjbaobfmdkpboaaX25
import Derived.Test.YtjbaobfmdkpboaaX26
import Derived.Test.YtjbaobfmdkpboaaX03
import Derived.Test.YtjbaobfmdkpboaaX04
import Derived.Test.YtjbaobfmdkpboaaX06
import Derived.BigQuiet
import Derived.BigRegion
import Derived.ChangeKeysEq
import Derived.Deep.DeepCutAuto
import Derived.Deep.DrawnRows
import Derived.Deep.MidRow
import Derived.Deep.QuietTactic
import Derived.Deep.RegionHeld3
import Derived.Deep.RegionLaw
import Derived.Deep.RegionWith
import Derived.Deep.WholeRow
import Derived.JoinedTies
import Derived.KernelRfl
import Derived.Laws.AppendOwnNone
import Derived.Laws.BitsLemmas
import Derived.Laws.BytesArg
import Derived.Laws.CopyOwn
import Derived.Lib.SlBytesConst
import Derived.LoopIn
import Derived.LoopNIn
import Derived.OwnWalkIn
import Derived.RangeFuncBound
import Derived.RangeFuncCalls
import Derived.RangeFuncLeaves
import Derived.RangeFuncNested
import Derived.RangeFuncRecord
import Derived.Shelf.Abstract
import Derived.Shelf.RegionOpen
import Derived.TacticsInMore
import Derived.WalkKit
import Derived.WalkLawsBesides
import Derived.WalkSpells
import GoSem.Claim
import GoSem.ClaimJoined
import GoSem.ClaimMapViews
import Derived.Test.YtjbaobfmdkpboaaX01
import Derived.Test.YtjbaobfmdkpboaaX02
import Derived.Test.YtjbaobfmdkpboaaX05
import Derived.Test.YtjbaobfmdkpboaaX07
import Derived.Great.BuildSlice
import Derived.Great.FillDense
import Derived.Laws.CopyRow
import Derived.Laws.MakeOwn
import Derived.Laws.OwnMore
import Derived.Laws.Tables
import Derived.Maps.AppendAt
import Derived.Test.YtjbaobfmdkpboaaX09
import Derived.Test.YtjbaobfmdkpboaaX10
import Derived.Test.YtjbaobfmdkpboaaX11
import Derived.ChangeOld
import Derived.Laws.ResultCell
import Derived.OpenShut
import Derived.ProofKit
import Derived.ShutString
import Derived.SizedLaws
/- Layer exec: Gain, and the document's. -/
namespace Go.Proofs.Ytjbaobfmdkpboaa
set_option linter.unusedSectionVars false
set_option maxHeartbeats 1000000
open Go.RowKit
set_option maxRecDepth 100000
set_option linter.unusedVariables false
set_option linter.unusedSimpArgs false

variable [DecidableEq Ac] [DecidableEq Ou] [DecidableEq Mg]
def gI (L : List Int) : Int := if rdE L = 0 ∧ (rdM L).kd = 1 then (rdM L).am else 0
def gO (L : List Int) : Int := if rdE L = 0 ∧ (rdM L).kd = 3 then (rdM L).am else 0
set_option maxHeartbeats 1000000 in
theorem gain_any (sb : Option Addr) (nb cb : Nat) (L : List Int) (Nb : Nat) (w : World) (hL : BS Nb w sb nb cb L) : Calls Try.prog 10 #[.slice sb nb cb] w fun r w' => r = .returned (.tuple #[.int .u64 (gI L), .int .u64 (gO L)]) ∧ Below w.heap.size w w' := by
  have hmo := rdM_ok hL.bts
  have hRd := read_any sb nb cb _ L w hL
  unfold RPost at hRd
  have z27 := zv27
  have hmz := Mg.size mg0_ok
  have hgi : Hid (gI L = if rdE L = 0 ∧ (rdM L).kd = 1 then (rdM L).am else 0) := Hid.mk' rfl
  have hgo : Hid (gO L = if rdE L = 0 ∧ (rdM L).kd = 3 then (rdM L).am else 0) := Hid.mk' rfl
  go_enter Try.func10, Try.ntmps10
  by_cases he : rdE L = 0
  · have hmy := rdE_may he
    rw [he] at hRd
    generalize rdM L = m at *
    replace hRd := Hid.mk' hRd
    rcases may_kinds hmo hmy with ⟨hk, -⟩ | ⟨hk, -⟩ | ⟨hk, -⟩
    · replace hgi : Hid (gI L = m.am) := Hid.mk' (by rw [hgi.out, if_pos ⟨he, hk⟩])
      replace hgo : Hid (gO L = 0) := Hid.mk' (by rw [hgo.out, if_neg (fun h => by omega)])
      clear he
      go_upto_region 2 with (first
        | (go_at_call 24; go_must (refine hRd.out.mono ?_; rintro r w1 ⟨rfl, hb1⟩))
        | (refine atS 44 (.tmp 4) (.tmp 9) ?_; refine st27n (by rfl) _ _ (by rfl) w1 w1.heap.size rfl hmz m (by rfl) (by rfl) hmo ?_))
      have B1 := (hb1.alloc hb1.size (.cells m.arr 44))
      have M1 := Arr.new w1 44 m.arr
      generalize w1.alloc (.cells m.arr 44) = W1 at *
      generalize w1.heap.size = GM at *
      have c0 := mg_c0 M1
      have c3 := mg_c3 M1
      rw [hk] at c0
      clear hk
      go_wp2_with fail
      go_ret2
      exact ⟨by rw [hgi.out, hgo.out]; rfl, B1⟩
    · replace hgi : Hid (gI L = 0) := Hid.mk' (by rw [hgi.out, if_neg (fun h => by omega)])
      replace hgo : Hid (gO L = 0) := Hid.mk' (by rw [hgo.out, if_neg (fun h => by omega)])
      clear he
      go_upto_region 2 with (first
        | (go_at_call 24; go_must (refine hRd.out.mono ?_; rintro r w1 ⟨rfl, hb1⟩))
        | (refine atS 44 (.tmp 4) (.tmp 9) ?_; refine st27n (by rfl) _ _ (by rfl) w1 w1.heap.size rfl hmz m (by rfl) (by rfl) hmo ?_))
      have B1 := (hb1.alloc hb1.size (.cells m.arr 44))
      have M1 := Arr.new w1 44 m.arr
      generalize w1.alloc (.cells m.arr 44) = W1 at *
      generalize w1.heap.size = GM at *
      have c0 := mg_c0 M1
      have c3 := mg_c3 M1
      rw [hk] at c0
      clear hk
      go_wp2_with fail
      go_ret2
      exact ⟨by rw [hgi.out, hgo.out]; rfl, B1⟩
    · replace hgi : Hid (gI L = 0) := Hid.mk' (by rw [hgi.out, if_neg (fun h => by omega)])
      replace hgo : Hid (gO L = m.am) := Hid.mk' (by rw [hgo.out, if_pos ⟨he, hk⟩])
      clear he
      go_upto_region 2 with (first
        | (go_at_call 24; go_must (refine hRd.out.mono ?_; rintro r w1 ⟨rfl, hb1⟩))
        | (refine atS 44 (.tmp 4) (.tmp 9) ?_; refine st27n (by rfl) _ _ (by rfl) w1 w1.heap.size rfl hmz m (by rfl) (by rfl) hmo ?_))
      have B1 := (hb1.alloc hb1.size (.cells m.arr 44))
      have M1 := Arr.new w1 44 m.arr
      generalize w1.alloc (.cells m.arr 44) = W1 at *
      generalize w1.heap.size = GM at *
      have c0 := mg_c0 M1
      have c3 := mg_c3 M1
      rw [hk] at c0
      clear hk
      go_upto_region 8 with fail
      have M2 := M1.drew
      refine wp_region_held_drew (S := fun u => Arr u GM 44 m.arr) (by kernel_rfl) (M2) (fun hHeld => ?_)
      refine wpAnyH_take (i := 0) (oi := ⟨_, _, _, _, _, _⟩) (v := ?_) rfl (by kernel_rfl) (by kernel_rfl) (by kernel_rfl) (fun _ _ _ h => h) (Or.inl ⟨by rfl, ?_⟩) (by assumption) ?_
      rotate_left
      · intro u hSw
        go_simp
        try (with_reducible rfl)
      try simp only [Act.put, List.setIfInBounds_toArray, List.set_cons_zero, List.set_cons_succ]
      refine wpAnyH_take (i := 1) (oi := ⟨_, _, _, _, _, _⟩) (v := ?_) rfl (by kernel_rfl) (by kernel_rfl) (by kernel_rfl) (fun _ _ _ h => h) (Or.inl ⟨by rfl, ?_⟩) (by assumption) ?_
      rotate_left
      · intro u hSw
        have cc := mg_c3 hSw
        go_simp
        try (with_reducible rfl)
      try simp only [Act.put, List.setIfInBounds_toArray, List.set_cons_zero, List.set_cons_succ]
      refine wpAnyH_take (i := 2) (oi := ⟨_, _, _, _, _, _⟩) (v := ?_) rfl (by kernel_rfl) (by kernel_rfl) (by kernel_rfl) (fun _ _ _ h => h) (Or.inl ⟨by rfl, ?_⟩) (by assumption) ?_
      rotate_left
      · intro u hSw
        go_simp
        try (with_reducible rfl)
      try simp only [Act.put, List.setIfInBounds_toArray, List.set_cons_zero, List.set_cons_succ]
      refine wpAnyH_take (i := 3) (oi := ⟨_, _, _, _, _, _⟩) (v := ?_) rfl (by kernel_rfl) (by kernel_rfl) (by kernel_rfl) (fun _ _ _ h => h) (Or.inl ⟨by rfl, ?_⟩) (by assumption) ?_
      rotate_left
      · intro u hSw
        go_simp
        try (with_reducible rfl)
      try simp only [Act.put, List.setIfInBounds_toArray, List.set_cons_zero, List.set_cons_succ]
      refine wpAnyH_done (by kernel_rfl) ?_ _
      go_wp2_with fail
      go_ret2
      exact ⟨by rw [hgi.out, hgo.out]; rfl, B1.drew⟩
  · have hne : (rdE L != 0) = true := by simp [he]
    replace hgi : Hid (gI L = 0) := Hid.mk' (by rw [hgi.out, if_neg (fun h => he h.1)])
    replace hgo : Hid (gO L = 0) := Hid.mk' (by rw [hgo.out, if_neg (fun h => he h.1)])
    generalize rdM L = m at *
    generalize rdE L = ee at *
    replace hRd := Hid.mk' hRd
    clear he
    go_upto_region 2 with (first
      | (go_at_call 24; go_must (refine hRd.out.mono ?_; rintro r w1 ⟨rfl, hb1⟩))
      | (refine atS 44 (.tmp 4) (.tmp 9) ?_; refine st27n (by rfl) _ _ (by rfl) w1 w1.heap.size rfl hmz m (by rfl) (by rfl) hmo ?_))
    have B1 := (hb1.alloc hb1.size (.cells m.arr 44))
    have M1 := Arr.new w1 44 m.arr
    generalize w1.alloc (.cells m.arr 44) = W1 at *
    generalize w1.heap.size = GM at *
    have c0 := mg_c0 M1
    have c3 := mg_c3 M1
    go_wp2_with fail
    go_ret2
    exact ⟨by rw [hgi.out, hgo.out]; rfl, B1⟩
set_option maxHeartbeats 1000000 in
theorem refGain_any (sb : Option Addr) (nb cb : Nat) (L : List Int) (Nb : Nat) (w : World) (hL : BS Nb w sb nb cb L) : Calls Try.prog 11 #[.slice sb nb cb] w fun r w' => r = .returned (.tuple #[.int .u64 (gI L), .int .u64 (gO L)]) ∧ Below w.heap.size w w' := by
  have hmo := rdM_ok hL.bts
  have hRd := refRead_any sb nb cb _ L w hL
  unfold RPost at hRd
  have z27 := zv27
  have hmz := Mg.size mg0_ok
  have hgi : Hid (gI L = if rdE L = 0 ∧ (rdM L).kd = 1 then (rdM L).am else 0) := Hid.mk' rfl
  have hgo : Hid (gO L = if rdE L = 0 ∧ (rdM L).kd = 3 then (rdM L).am else 0) := Hid.mk' rfl
  go_enter Try.func11, Try.ntmps11
  by_cases he : rdE L = 0
  · have hmy := rdE_may he
    rw [he] at hRd
    generalize rdM L = m at *
    replace hRd := Hid.mk' hRd
    rcases may_kinds hmo hmy with ⟨hk, -⟩ | ⟨hk, -⟩ | ⟨hk, -⟩
    · replace hgi : Hid (gI L = m.am) := Hid.mk' (by rw [hgi.out, if_pos ⟨he, hk⟩])
      replace hgo : Hid (gO L = 0) := Hid.mk' (by rw [hgo.out, if_neg (fun h => by omega)])
      clear he
      go_upto_region 2 with (first
        | (go_at_call 18; go_must (refine hRd.out.mono ?_; rintro r w1 ⟨rfl, hb1⟩))
        | (refine atS 44 (.tmp 4) (.tmp 9) ?_; refine st27n (by rfl) _ _ (by rfl) w1 w1.heap.size rfl hmz m (by rfl) (by rfl) hmo ?_))
      have B1 := (hb1.alloc hb1.size (.cells m.arr 44))
      have M1 := Arr.new w1 44 m.arr
      generalize w1.alloc (.cells m.arr 44) = W1 at *
      generalize w1.heap.size = GM at *
      have c0 := mg_c0 M1
      have c3 := mg_c3 M1
      rw [hk] at c0
      clear hk
      go_wp2_with fail
      go_ret2
      exact ⟨by rw [hgi.out, hgo.out]; rfl, B1⟩
    · replace hgi : Hid (gI L = 0) := Hid.mk' (by rw [hgi.out, if_neg (fun h => by omega)])
      replace hgo : Hid (gO L = 0) := Hid.mk' (by rw [hgo.out, if_neg (fun h => by omega)])
      clear he
      go_upto_region 2 with (first
        | (go_at_call 18; go_must (refine hRd.out.mono ?_; rintro r w1 ⟨rfl, hb1⟩))
        | (refine atS 44 (.tmp 4) (.tmp 9) ?_; refine st27n (by rfl) _ _ (by rfl) w1 w1.heap.size rfl hmz m (by rfl) (by rfl) hmo ?_))
      have B1 := (hb1.alloc hb1.size (.cells m.arr 44))
      have M1 := Arr.new w1 44 m.arr
      generalize w1.alloc (.cells m.arr 44) = W1 at *
      generalize w1.heap.size = GM at *
      have c0 := mg_c0 M1
      have c3 := mg_c3 M1
      rw [hk] at c0
      clear hk
      go_wp2_with fail
      go_ret2
      exact ⟨by rw [hgi.out, hgo.out]; rfl, B1⟩
    · replace hgi : Hid (gI L = 0) := Hid.mk' (by rw [hgi.out, if_neg (fun h => by omega)])
      replace hgo : Hid (gO L = m.am) := Hid.mk' (by rw [hgo.out, if_pos ⟨he, hk⟩])
      clear he
      go_upto_region 2 with (first
        | (go_at_call 18; go_must (refine hRd.out.mono ?_; rintro r w1 ⟨rfl, hb1⟩))
        | (refine atS 44 (.tmp 4) (.tmp 9) ?_; refine st27n (by rfl) _ _ (by rfl) w1 w1.heap.size rfl hmz m (by rfl) (by rfl) hmo ?_))
      have B1 := (hb1.alloc hb1.size (.cells m.arr 44))
      have M1 := Arr.new w1 44 m.arr
      generalize w1.alloc (.cells m.arr 44) = W1 at *
      generalize w1.heap.size = GM at *
      have c0 := mg_c0 M1
      have c3 := mg_c3 M1
      rw [hk] at c0
      clear hk
      go_upto_region 8 with fail
      have M2 := M1.drew
      refine wp_region_held_drew (S := fun u => Arr u GM 44 m.arr) (by kernel_rfl) (M2) (fun hHeld => ?_)
      refine wpAnyH_take (i := 0) (oi := ⟨_, _, _, _, _, _⟩) (v := ?_) rfl (by kernel_rfl) (by kernel_rfl) (by kernel_rfl) (fun _ _ _ h => h) (Or.inl ⟨by rfl, ?_⟩) (by assumption) ?_
      rotate_left
      · intro u hSw
        go_simp
        try (with_reducible rfl)
      try simp only [Act.put, List.setIfInBounds_toArray, List.set_cons_zero, List.set_cons_succ]
      refine wpAnyH_take (i := 1) (oi := ⟨_, _, _, _, _, _⟩) (v := ?_) rfl (by kernel_rfl) (by kernel_rfl) (by kernel_rfl) (fun _ _ _ h => h) (Or.inl ⟨by rfl, ?_⟩) (by assumption) ?_
      rotate_left
      · intro u hSw
        have cc := mg_c3 hSw
        go_simp
        try (with_reducible rfl)
      try simp only [Act.put, List.setIfInBounds_toArray, List.set_cons_zero, List.set_cons_succ]
      refine wpAnyH_take (i := 2) (oi := ⟨_, _, _, _, _, _⟩) (v := ?_) rfl (by kernel_rfl) (by kernel_rfl) (by kernel_rfl) (fun _ _ _ h => h) (Or.inl ⟨by rfl, ?_⟩) (by assumption) ?_
      rotate_left
      · intro u hSw
        go_simp
        try (with_reducible rfl)
      try simp only [Act.put, List.setIfInBounds_toArray, List.set_cons_zero, List.set_cons_succ]
      refine wpAnyH_take (i := 3) (oi := ⟨_, _, _, _, _, _⟩) (v := ?_) rfl (by kernel_rfl) (by kernel_rfl) (by kernel_rfl) (fun _ _ _ h => h) (Or.inl ⟨by rfl, ?_⟩) (by assumption) ?_
      rotate_left
      · intro u hSw
        go_simp
        try (with_reducible rfl)
      try simp only [Act.put, List.setIfInBounds_toArray, List.set_cons_zero, List.set_cons_succ]
      refine wpAnyH_done (by kernel_rfl) ?_ _
      go_wp2_with fail
      go_ret2
      exact ⟨by rw [hgi.out, hgo.out]; rfl, B1.drew⟩
  · have hne : (rdE L != 0) = true := by simp [he]
    replace hgi : Hid (gI L = 0) := Hid.mk' (by rw [hgi.out, if_neg (fun h => he h.1)])
    replace hgo : Hid (gO L = 0) := Hid.mk' (by rw [hgo.out, if_neg (fun h => he h.1)])
    generalize rdM L = m at *
    generalize rdE L = ee at *
    replace hRd := Hid.mk' hRd
    clear he
    go_upto_region 2 with (first
      | (go_at_call 18; go_must (refine hRd.out.mono ?_; rintro r w1 ⟨rfl, hb1⟩))
      | (refine atS 44 (.tmp 4) (.tmp 9) ?_; refine st27n (by rfl) _ _ (by rfl) w1 w1.heap.size rfl hmz m (by rfl) (by rfl) hmo ?_))
    have B1 := (hb1.alloc hb1.size (.cells m.arr 44))
    have M1 := Arr.new w1 44 m.arr
    generalize w1.alloc (.cells m.arr 44) = W1 at *
    generalize w1.heap.size = GM at *
    have c0 := mg_c0 M1
    have c3 := mg_c3 M1
    go_wp2_with fail
    go_ret2
    exact ⟨by rw [hgi.out, hgo.out]; rfl, B1⟩
end Go.Proofs.Ytjbaobfmdkpboaa
/- Layer exec: what the layers below give. -/
namespace Go.Proofs.Ytjbaobfmdkpboaa
set_option linter.unusedSectionVars false
set_option maxHeartbeats 1000000
open Go.RowKit
set_option maxRecDepth 100000
set_option linter.unusedVariables false
set_option linter.unusedSimpArgs false

variable [DecidableEq Ac] [DecidableEq Ou] [DecidableEq Mg]
theorem e8_take {n : Int} {j : Nat} (hj : j < 8) : (e8 n).take (j + 1) = (e8 n).take j ++ [n / 2 ^ (56 - 8 * j) % 256] := by
  rw [List.take_add_one]
  congr 1
  simp [e8, hj]
theorem range_sl {w : World} {g o : Nat} {L : List Int} (h : w.rangeAt g o (by8 L)) : SlL w (some ⟨g, o, none⟩) L := fun _ => ⟨g, o, rfl, fun t ht => h t _ (by8_get ht)⟩
end Go.Proofs.Ytjbaobfmdkpboaa
/- Layer exec: what the layers below give. -/
namespace Go.Proofs.Ytjbaobfmdkpboaa
set_option linter.unusedSectionVars false
set_option maxHeartbeats 1000000
open Go.RowKit
set_option maxRecDepth 100000
set_option linter.unusedVariables false
set_option linter.unusedSimpArgs false

variable [DecidableEq Ac] [DecidableEq Ou] [DecidableEq Mg]
set_option maxHeartbeats 1000000 in
theorem eight_any (n : Int) (w : World) :
    Calls Try.prog 40 #[.int .u64 n] w fun e w' => ∃ v', e = .returned v' ∧ w'.ownsRow w.heap.size 5 1 v' 8 (by8 (e8 n)) ∧ Below w.heap.size w w' := by
  go_enter Try.func40, Try.ntmps40
  go_wp2_with fail
  go_loopw [3, 4] (fun u q wr => ∃ j : Nat, q = .int .i64 (7 - (j : Int)) ∧ j ≤ 8 ∧ wr.ownsRow w.heap.size 5 1 u j (by8 ((e8 n).take j)) ∧ Below w.heap.size w wr) (fun _ q _ => (intOf q + 1).toNat)
  case atStart => exact ⟨0, rfl, by omega, World.ownsRow_nil _ _ _ _, Below.refl _ _⟩
  case round =>
    obtain ⟨j, rfl, hj, hou, hbl⟩ := hrel
    have hsz := hbl.size
    by_cases hlt : j < 8
    · obtain ⟨i, hi⟩ : ∃ i, i = 7 - j := ⟨_, rfl⟩
      rw [show (7 - (j : Int)) = (i : Int) by omega]
      have hs0 : (0 : Int) ≤ (i : Int) := by omega
      have hs1 : (i : Int) ≤ 7 := by omega
      have hw1 : IntKind.i64.wrap (8 * (i : Int)) = 8 * i := by rw [IntKind.wrap_i64]; omega
      have hw2 : (8 * (i : Int)) % 18446744073709551616 = 8 * i := by omega
      have hw3 : (8 * (i : Int)).toNat = 8 * i := by omega
      have het : Hid ((e8 n).take (j + 1) = (e8 n).take j ++ [n / 2 ^ (8 * i) % 256]) := Hid.mk' (by rw [e8_take hlt, show 56 - 8 * j = 8 * i by omega])
      have hij : Hid ((i : Int) - 1 = 7 - ((j + 1 : Nat) : Int)) := Hid.mk' (by omega)
      clear hi
      go_wp2_with (at_builtin; go_must (refine append_bytes (by rfl) (.tmp 9) (.tmp 16) (by rfl) w.heap.size _ j ((e8 n).take j) (by rfl) (hou.alloc _) (some ⟨wr.heap.size, 0, none⟩) 1 1 [n / 2 ^ (8 * i) % 256] (by rfl) (by rfl) (fun h => by cases h) (Arr.sl (Arr.new wr 5 _)) (by omega) (by simp; omega) ?_; intro v2 w2 hown2 hg2; have hB2 := (hbl.alloc hsz _).grown hg2 (by simp; omega) (fun k e => own_ge hou k e)))
      go_roundw
      case rel => exact ⟨j + 1, congrArg (Value.int .i64) hij.out, by omega, by rw [het.out]; exact hown2, hB2⟩
      case measure => first | (simp [intOf]; omega) | simp [intOf]
    · obtain rfl : j = 8 := by omega
      have e8' : Hid ((e8 n).take 8 = e8 n) := Hid.mk' (List.take_of_length_le (by rw [e8_len]; exact Nat.le_refl _))
      go_wp2_with fail
      go_ret
      exact ⟨_, rfl, by rw [← e8'.out]; exact hou, hbl⟩
end Go.Proofs.Ytjbaobfmdkpboaa
/- Layer exec: what the layers below give. -/
namespace Go.Proofs.Ytjbaobfmdkpboaa
set_option linter.unusedSectionVars false
set_option maxHeartbeats 1000000
open Go.RowKit
set_option maxRecDepth 100000
set_option linter.unusedVariables false
set_option linter.unusedSimpArgs false

variable [DecidableEq Ac] [DecidableEq Ou] [DecidableEq Mg]
theorem index41 (f : Nat → Int) (k : Nat) (hk : k < 13) (w : World) : (Instr.index 65 (.agg (u64s 13 f)) (.int .i64 k)).run Try.prog w = .ok (.int .u64 (f k)) w := by
  have e : (u64s 13 f)[k]? = some (.int .u64 (f k)) := u64s_get hk
  simp [Instr.index, asIntOf, run_underlying Try.underlying65, Try.sizeOf22, part, Try.isAgg22, hk, e]
def wb (m : Mg) : List Int := if m.may then m.bytes else []
def WPost (m : Mg) (w : World) (e : Ending) (w' : World) : Prop := ∃ sp n cap, e = .returned (.tuple #[.slice sp n cap, .int .i64 (if m.may then 0 else 2)]) ∧ BS w'.heap.size w' sp n cap (wb m) ∧ Below w.heap.size w w'
theorem wb_no {m : Mg} (h : m.may = false) : wb m = [] := by unfold wb; rw [h]; rfl
theorem wb_yes {m : Mg} (h : m.may = true) : wb m = m.bytes := by unfold wb; rw [h]; rfl
theorem WPost.no {m : Mg} {w w' : World} (h : m.may = false) (hb : Below w.heap.size w w') : WPost m w (.returned (.tuple #[.slice none 0 0, .int .i64 2])) w' := ⟨none, 0, 0, by rw [h]; rfl, by rw [wb_no h]; exact BS.nil0 _ _, hb⟩
theorem WPost.yes {m : Mg} {w w' : World} {v : Value} {base : Nat} (hm : MgOK m) (h : m.may = true) (ho : w'.ownsRow base 5 1 v 104 (by8 m.bytes)) (hb : Below w.heap.size w w') : WPost m w (.returned (.tuple #[v, .int .i64 0])) w' := by
  obtain ⟨sp, cap, rfl, hS, -⟩ := own_bs ho (Mg.bbts hm) (by omega)
  exact ⟨sp, 104, cap, by rw [h]; rfl, by rw [wb_yes h]; exact hS, hb⟩
end Go.Proofs.Ytjbaobfmdkpboaa
