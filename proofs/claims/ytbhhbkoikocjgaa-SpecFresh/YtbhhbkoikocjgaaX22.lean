/- Ee, F. -/
import Derived.Test.YtbhhbkoikocjgaaX01
import Derived.Test.YtbhhbkoikocjgaaX02
import Derived.Test.YtbhhbkoikocjgaaX03
import Derived.Test.YtbhhbkoikocjgaaX04
import Derived.Test.YtbhhbkoikocjgaaX05
import Derived.Test.YtbhhbkoikocjgaaX08
import Derived.Test.YtbhhbkoikocjgaaX06
import Derived.Test.YtbhhbkoikocjgaaX07
import Derived.Test.YtbhhbkoikocjgaaX14
import Derived.Test.YtbhhbkoikocjgaaX15
import Derived.Test.YtbhhbkoikocjgaaX12
import Derived.Test.YtbhhbkoikocjgaaX16
import Derived.Test.YtbhhbkoikocjgaaX21
import Derived.Test.YtbhhbkoikocjgaaX17
import Derived.BigQuiet
import Derived.BigRegion
import Derived.ChangeKeysEq
import Derived.ChangeOld
import Derived.Deep.DeepCutAuto
import Derived.Deep.DrawnRows
import Derived.Deep.MidRow
import Derived.Deep.QuietTactic
import Derived.Deep.RegionHeld3
import Derived.Deep.RegionLaw
import Derived.Deep.RegionWith
import Derived.Deep.WholeRow
import Derived.Great.BuildSlice
import Derived.Great.FillDense
import Derived.JoinedTies
import Derived.KernelRfl
import Derived.Laws.AppendOwnNone
import Derived.Laws.BitsLemmas
import Derived.Laws.BytesArg
import Derived.Laws.CopyOwn
import Derived.Laws.CopyRow
import Derived.Laws.MakeOwn
import Derived.Laws.OwnMore
import Derived.Laws.ResultCell
import Derived.Laws.Tables
import Derived.Lib.AppendZeros
import Derived.Lib.SlBytesConst
import Derived.Lib.SliceRun
import Derived.LoopIn
import Derived.LoopNIn
import Derived.Maps.AppendAt
import Derived.OpenShut
import Derived.OwnWalkIn
import Derived.ProofKit
import Derived.RangeFuncBound
import Derived.RangeFuncCalls
import Derived.RangeFuncLeaves
import Derived.RangeFuncNested
import Derived.RangeFuncRecord
import Derived.Shelf.Abstract
import Derived.Shelf.RegionOpen
import Derived.ShutString
import Derived.SizedLaws
import Derived.TacticsInMore
import Derived.WalkKit
import Derived.WalkLawsBesides
import Derived.WalkSpells
import GoSem.Claim
import GoSem.ClaimJoined
import GoSem.ClaimMapViews
/- Layer spec: what the layers below give. -/
namespace Go.Proofs.Ytbhhbkoikocjgaa
set_option linter.unusedSectionVars false
set_option maxHeartbeats 1000000
open Go.RowKit
set_option maxRecDepth 100000
set_option linter.unusedVariables false
set_option linter.unusedSimpArgs false

variable [DecidableEq Ac] [DecidableEq Ou] [DecidableEq Mg]
set_option maxHeartbeats 2000000 in
theorem delta_no (ps : List Ac) (N : Nat) (sp : Option Addr) (n cap : Nat) (os : List Ou) (sb : Option Addr) (nb cb : Nat) (L : List Int) (w : World) (hS : SS N w ps sp n cap os) (hm : may ps n = false) : Calls Try.prog 46 #[.agg (stA ps sp n cap), .slice sb nb cb] w (DLPost ps os L w) := by
  have hS := hS.here
  have h1 := hS.a32.out
  have h2 := hS.l32
  have hok := hS.ok.out
  have hnsm := hS.outs.small
  have A0 := (Arr.new w 30 (stA ps sp n cap)).alloc (.cells (stA zs none 0 0) 30)
  have R0 : Arr ((w.alloc (.cells (stA ps sp n cap) 30)).alloc (.cells (stA zs none 0 0) 30)) (w.heap.size + 1) 30 (stA zs none 0 0) := by simpa using Arr.new (w.alloc (.cells (stA ps sp n cap) 30)) 30 (stA zs none 0 0)
  have B0 := (alloc_bel' w (.cells (stA ps sp n cap) 30)).alloc (by simp) (.cells (stA zs none 0 0) 30)
  have hz30 := zeroValue30
  have hzsz : (stA zs none 0 0).size = 1089 := stA_size zs_len zs_l32
  have hbz := built30z
  have hfin : Hid (may ps os.length = false) := Hid.mk' (by rw [← hS.outs.len.out]; exact hm)
  obtain ⟨s0, hs0⟩ : ∃ s : Option Addr, s = none := ⟨none, rfl⟩
  obtain ⟨n0, hn0⟩ : ∃ n : Nat, n = 0 := ⟨0, rfl⟩
  have hzl := zs_len
  have hzl2 := zs_l32
  generalize hZ : stA zs none 0 0 = Z at A0 R0 B0 hz30 hzsz hbz
  replace hZ := Hid.mk' hZ
  go_enter Try.func46, Try.ntmps46
  go_upto_region 1 with fail
  generalize (w.alloc (.cells (stA ps sp n cap) 30)).alloc (.cells Z 30) = V at A0 R0 B0 ⊢
  have hM := may_any ps sp n cap V h1 hok hnsm
  rw [hm] at hM
  replace hM := Hid.mk' hM
  have hsz : (Try.prog.info? 30).map (·.size) = some Z.size := by rw [hzsz]; exact size30
  have hone : Z.all (·.oneCell') = true := by rw [← hZ.out]; exact stA_one zs none 0 0
  go_wp2_with (first
    | (refine atL 30 (.tmp 2) ?_; refine ld30 (by rfl) _ (by rfl) w.heap.size 30 (by rfl) ps sp n cap h1 h2 A0 ?_)
    | (go_at_call 24; go_must (refine hM.out.mono ?_; rintro r w1 ⟨rfl, hb1⟩; have R1 := R0.below hb1 R0.lt; have B1 := B0.trans (hb1.mono B0.size)))
    | (refine atB 30 ?_; refine bdT (by rfl) 30 #[] (by rfl) (by rfl) hbz ?_)
    | (refine atS 30 (.tmp 4) (.tmp 13) ?_; refine wpList_store_arr (by rfl) 30 (.tmp 4) (.tmp 13) (by rfl) (w.heap.size + 1) Z (by rfl) (by rfl) 30 _ R1 hsz (by rfl) hone ?_))
  have R2 := R1.setRow Z
  have B2 := below_setRow B1 (show w.heap.size ≤ w.heap.size + 1 by omega) Z
  subst hZ
  exact bodyPost_ret (v := .tuple #[.agg (stA zs none 0 0), .bool false, .int .i64 2]) (resD Try.results46 rfl rfl rfl zs_len zs_l32 R2) rfl (DLPost.no hfin.out B2)
theorem may_le {ps : List Ac} {n : Nat} (h : may ps n = true) : n ≤ 32 := by
  unfold may at h; simp only [Bool.and_eq_true, decide_eq_true_eq] at h; exact h.2
theorem Arr.rowO {w : World} {g h ty : Nat} {C D : Array Value} (hA : Arr w g ty C) (hg : g ≠ h) : Arr (w.setRow h D) g ty C := by
  unfold Arr at hA ⊢; rw [setRow_other w h g D hg]; exact hA
set_option maxHeartbeats 4000000 in
theorem delta_ok (ps : List Ac) (N : Nat) (sp : Option Addr) (n cap : Nat) (os : List Ou) (sb : Option Addr) (nb cb : Nat) (L : List Int) (Nb : Nat) (w : World) (hS : SS N w ps sp n cap os) (hL : BS Nb w sb nb cb L) (hm : may ps n = true) : Calls Try.prog 46 #[.agg (stA ps sp n cap), .slice sb nb cb] w (DLPost ps os L w) := by
  have hS := hS.here
  have h1 := hS.a32.out
  have h2 := hS.l32
  have hok := hS.ok.out
  have hnsm := hS.outs.small
  have A0 := (Arr.new w 30 (stA ps sp n cap)).alloc (.cells (stA zs none 0 0) 30)
  have R0 : Arr ((w.alloc (.cells (stA ps sp n cap) 30)).alloc (.cells (stA zs none 0 0) 30)) (w.heap.size + 1) 30 (stA zs none 0 0) := by simpa using Arr.new (w.alloc (.cells (stA ps sp n cap) 30)) 30 (stA zs none 0 0)
  have B0 := (alloc_bel' w (.cells (stA ps sp n cap) 30)).alloc (by simp) (.cells (stA zs none 0 0) 30)
  have hz30 := zeroValue30
  have hzsz : (stA zs none 0 0).size = 1089 := stA_size zs_len zs_l32
  have hz57 := zeroValue57
  have hn32 := may_le hm
  have hoo := hS.outs.ok
  have hlen := hS.outs.len
  have hLb := hL.bts
  have hL := hL.here
  have hfin : Hid (may ps os.length = true) := Hid.mk' (by rw [← hS.outs.len.out]; exact hm)
  have htt : (tt ps 0).isSome = true := by unfold may at hm; simp only [Bool.and_eq_true] at hm; exact hm.1
  have hb57 := built57 (stA_size (sp := sp) (n := n) (cap := cap) h1 h2)
  have z27 := zv27
  have hmz := Mg.size mg0_ok
  generalize hZ : stA zs none 0 0 = Z at A0 R0 B0 hz30 hz57 hzsz
  clear hZ
  go_enter Try.func46, Try.ntmps46
  go_upto_region 1 with fail
  generalize (w.alloc (.cells (stA ps sp n cap) 30)).alloc (.cells Z 30) = V at A0 R0 B0 ⊢
  have hM := may_any ps sp n cap V h1 hok hnsm
  rw [hm] at hM
  replace hM := Hid.mk' hM
  go_upto_region 3 with (first
    | (refine atL 30 (.tmp 2) ?_; refine ld30 (by rfl) _ (by rfl) w.heap.size 30 (by rfl) ps sp n cap h1 h2 A0 ?_)
    | (go_at_call 24; go_must (refine hM.out.mono ?_; rintro r w1 ⟨rfl, hb1⟩; have A1 := A0.below hb1 A0.lt; have R1 := R0.below hb1 R0.lt; have B1 := B0.trans (hb1.mono B0.size))))
  go_upto_region 4 with (first
    | (refine atL 30 (.tmp 2) ?_; refine ld30 (by rfl) _ (by rfl) w.heap.size 30 (by rfl) ps sp n cap h1 h2 A1 ?_)
    | (refine atB 127 ?_; refine bdT (by rfl) 127 #[(0, .tmp 14)] (by rfl) (by rfl) hb57 ?_)
    | (refine atS 127 (.tmp 7) (.tmp 15) ?_; refine st57n (by rfl) _ _ (by rfl) w1 w1.heap.size rfl hzsz ps sp n cap (by rfl) (by rfl) h1 h2 ?_))
  have hr1 := R1.lt
  have A3 := A1.alloc (.cells (stA ps sp n cap) 127)
  have R3 := R1.alloc (.cells (stA ps sp n cap) 127)
  have G3 := Arr.new w1 127 (stA ps sp n cap)
  have B3 := B1.alloc B1.size (.cells (stA ps sp n cap) 127)
  have hW3 : Hid ((w1.alloc (.cells (stA ps sp n cap) 127)).heap.size = w1.heap.size + 1) := Hid.mk' (by simp)
  generalize w1.alloc (.cells (stA ps sp n cap) 127) = W3 at *
  generalize hGB : w1.heap.size = GB at *
  clear hGB
  have hgw : w.heap.size + 1 < GB := hr1
  have cS := A3.stOut h1 h2
  have hC := Hid.mk' (cloneO_any _ sp n cap os W3 (hS.below B3).outs (by omega))
  go_upto_region 5 with (first
    | (go_at_call 45; go_must (refine hC.out.mono ?_; rintro r w4 ⟨v4, rfl, own4, hb4⟩; obtain ⟨s4, c4, rfl⟩ := own_sliceO own4; have G4 := G3.below hb4 G3.lt; have cG := G4.stOut h1 h2; have fG := G4.frozen 1088)))
  have A4 := A3.below hb4 A3.lt
  have R4 := R3.below hb4 R3.lt
  have B4 := B3.trans (hb4.mono B3.size)
  have hz4 : GB + 1 ≤ w4.heap.size := by have := hb4.size; have := hW3.out; omega
  have G5 := G4.set 1088 (.slice s4 n c4)
  rw [stA_set h1 h2] at G5
  have A5 := A4.setOther (a := ⟨GB, 1088, none⟩) (.slice s4 n c4) (by simp; omega)
  have R5 := R4.setOther (a := ⟨GB, 1088, none⟩) (.slice s4 n c4) (by simp; omega)
  have own5 : (w4.setCell ⟨GB, 1088, none⟩ (.slice s4 n c4)).ownsRow (GB + 1) 66 2 (.slice s4 n c4) n (ouF os) := by
    rw [hW3.out] at own4
    exact own_cellO own4 (by omega)
  have B5 := B4.setCell (p := ⟨GB, 1088, none⟩) (by show w.heap.size ≤ GB; omega) (.slice s4 n c4)
  have hz5 : GB + 1 ≤ (w4.setCell ⟨GB, 1088, none⟩ (.slice s4 n c4)).heap.size := by simpa [World.setCell] using hz4
  generalize w4.setCell ⟨GB, 1088, none⟩ (.slice s4 n c4) = W5 at *
  clear A0 R0 B0 A1 R1 B1 A3 R3 B3 G3 A4 R4 B4 G4 cS cG fG hC hM own4 hb4
  have hmo := rdM_ok hLb
  have hRd := read_any sb nb cb _ L W5 (hL.below B5)
  unfold RPost at hRd
  have hdg := Hid.mk' (fun h => dl_good (ps := ps) (os := os) hLb h1 hok h)
  have hdb := Hid.mk' (fun h => dl_bad (ps := ps) (os := os) (L := L) h)
  have hmy := Hid.mk' (fun h => rdE_may (L := L) h)
  by_cases he : rdE L = 0
  · rw [he] at hRd
    have hdg2 := Hid.mk' (hdg.out he)
    have hmy := hmy.out he
    clear hdg
    generalize rdM L = m at *
    replace hRd := Hid.mk' hRd
    clear he
    go_upto_region 7 with (first
      | (go_at_call 64; go_must (refine hRd.out.mono ?_; rintro r w6 ⟨rfl, hb6⟩))
      | (refine atS 95 (.tmp 8) (.tmp 24) ?_; refine st27n (by rfl) _ _ (by rfl) w6 w6.heap.size rfl hmz m (by rfl) (by rfl) hmo ?_))
    have hz6 := hb6.size
    have A6 := (A5.below hb6 A5.lt).alloc (.cells m.arr 95)
    have R6 := (R5.below hb6 R5.lt).alloc (.cells m.arr 95)
    have G6 := (G5.below hb6 G5.lt).alloc (.cells m.arr 95)
    have own6 := own_bel (own_bel own5 hb6) (alloc_bel' w6 (.cells m.arr 95))
    have B6 := (B5.trans (hb6.mono B5.size)).alloc (Nat.le_trans B5.size hz6) (.cells m.arr 95)
    have M6 := Arr.new w6 95 m.arr
    have hW6 : w6.heap.size ≤ (w6.alloc (.cells m.arr 95)).heap.size := by simp
    generalize w6.alloc (.cells m.arr 95) = W6 at *
    generalize w6.heap.size = GM at *
    have hD := Hid.mk' (do_any GB (GB + 1) ps os s4 n c4 m W6 G6 own6 (by omega) (by omega) h1 hok hlen hn32 htt hmo hmy)
    clear A5 R5 G5 B5 own5 hRd hb6
    go_upto_region 8 with (first
      | (refine atL 95 (.tmp 8) ?_; refine ld27M (by rfl) (.tmp 8) (by rfl) GM 95 (by rfl) m hmo M6 ?_)
      | (go_at_call 65; go_must (refine hD.out.mono ?_; rintro r w7 ⟨rfl, s7, n7, c7, G7, own7, hn7, hb7⟩)))
    obtain ⟨hq1, hq3⟩ := actP_ok (os := os) hmo h1 hok hoo
    have hq2 : ∀ a ∈ actP ps os m, a.lk.length = 32 := fun a ha => (hq3 a ha).l32
    have A7 := (A6.below hb7 (by omega)).drew
    have R7 := (R6.below hb7 (by omega)).drew
    have B7 := (B6.trans (hb7.mono (by omega))).drew
    have hz7 := hb7.size
    have own8 := own_bel own7 (drew_bel w7)
    have G8 := G7.drew
    have hfin2 : Hid (∀ w', w'.ownsRow w.heap.size 66 2 (.slice s7 n7 c7) n7 (ouF (actO ps os m)) → Below w.heap.size w w' → DLPost ps os L w (.returned (.tuple #[.agg (stA (actP ps os m) s7 n7 c7), .bool (!decide (actP ps os m = ps)), .int .i64 0])) w') := Hid.mk' (fun w' ho hb => DLPost.ok hfin.out hdg2.out.1 hdg2.out.2.1 hdg2.out.2.2 ho hn7 hb)
    clear A6 R6 G6 B6 own6 hb7 G7 own7 hD M6
    generalize actP ps os m = Q at *
    have hszQ : (Try.prog.info? 30).map (·.size) = some (stA Q s7 n7 c7).size := by rw [stA_size hq1 hq2]; exact size30
    refine wp_region_held_drew (S := fun u => Arr u GB 127 (stA Q s7 n7 c7) ∧ Arr u w.heap.size 30 (stA ps sp n cap)) (by kernel_rfl) (⟨G8, A7⟩) (fun hHeld => ?_)
    refine wpAnyH_take (i := 0) (oi := ⟨_, _, _, _, _, _⟩) (v := ?_) rfl (by kernel_rfl) (by kernel_rfl) (by kernel_rfl) (fun _ _ _ h => h) (Or.inl ⟨by rfl, ?_⟩) (by assumption) ?_
    rotate_left
    · intro u hSw
      go_simp
      try (with_reducible rfl)
    try simp only [Act.put, List.setIfInBounds_toArray, List.set_cons_zero, List.set_cons_succ]
    refine wpAnyH_take (i := 1) (oi := ⟨_, _, _, _, _, _⟩) rfl (by kernel_rfl) (by kernel_rfl) (by kernel_rfl) (fun _ _ _ h => h) (y30 (by rfl) (.tmp 30) rfl GB 127 rfl Q s7 n7 c7 hq1 hq2 (fun u hu => hu.1)) (by assumption) ?_
    try simp only [Act.put, List.setIfInBounds_toArray, List.set_cons_zero, List.set_cons_succ]
    refine wpAnyH_take (i := 2) (oi := ⟨_, _, _, _, _, _⟩) (v := ?_) rfl (by kernel_rfl) (by kernel_rfl) (by kernel_rfl) (fun _ _ _ h => h) (Or.inl ⟨by rfl, ?_⟩) (by assumption) ?_
    rotate_left
    · intro u hSw
      go_simp
      try (with_reducible rfl)
    try simp only [Act.put, List.setIfInBounds_toArray, List.set_cons_zero, List.set_cons_succ]
    refine wpAnyH_take (i := 3) (oi := ⟨_, _, _, _, _, _⟩) (v := ?_) rfl (by kernel_rfl) (by kernel_rfl) (by kernel_rfl) (fun _ _ _ h => h) (Or.inl ⟨by rfl, ?_⟩) (by assumption) ?_
    rotate_left
    · intro u hSw
      go_simp
      try (with_reducible rfl)
    try simp only [Act.put, List.setIfInBounds_toArray, List.set_cons_zero, List.set_cons_succ]
    refine wpAnyH_take (i := 4) (oi := ⟨_, _, _, _, _, _⟩) rfl (by kernel_rfl) (by kernel_rfl) (by kernel_rfl) (fun _ _ _ h => h) (yAc (by rfl) (.tmp 33) rfl GB 127 rfl Q s7 n7 c7 hq1 hq2 (fun u hu => hu.1)) (by assumption) ?_
    try simp only [Act.put, List.setIfInBounds_toArray, List.set_cons_zero, List.set_cons_succ]
    refine wpAnyH_take (i := 5) (oi := ⟨_, _, _, _, _, _⟩) (v := ?_) rfl (by kernel_rfl) (by kernel_rfl) (by kernel_rfl) (fun _ _ _ h => h) (Or.inl ⟨by rfl, ?_⟩) (by assumption) ?_
    rotate_left
    · intro u hSw
      go_simp
      try (with_reducible rfl)
    try simp only [Act.put, List.setIfInBounds_toArray, List.set_cons_zero, List.set_cons_succ]
    refine wpAnyH_take (i := 6) (oi := ⟨_, _, _, _, _, _⟩) rfl (by kernel_rfl) (by kernel_rfl) (by kernel_rfl) (fun _ _ _ h => h) (yAc (by rfl) (.tmp 35) rfl w.heap.size 30 rfl ps sp n cap h1 h2 (fun u hu => hu.2)) (by assumption) ?_
    try simp only [Act.put, List.setIfInBounds_toArray, List.set_cons_zero, List.set_cons_succ]
    refine wpAnyH_take (i := 7) (oi := ⟨_, _, _, _, _, _⟩) (v := ?_) rfl (by kernel_rfl) (by kernel_rfl) (by kernel_rfl) (fun _ _ _ h => h) (Or.inl ⟨by rfl, ?_⟩) (by assumption) ?_
    rotate_left
    · intro u hSw
      have he : Sem.run Try.prog (Op.equalIn 10000 27 (Value.agg (acA Q)) (Value.agg (acA ps))) u = .ok (decide (Q = ps)) u := run_eqIn27 hq1 h1 hq2 h2 u
      go_simp
      try (with_reducible rfl)
    try simp only [Act.put, List.setIfInBounds_toArray, List.set_cons_zero, List.set_cons_succ]
    refine wpAnyH_ready (rs := [8]) (by kernel_rfl) (by simp) ?_
    refine AllReadyH.cons (o := ⟨_, _, _, _, _, _⟩) rfl (fun K hK => ?_) AllReadyH.nil
    refine step_want rfl (wp_store_row 30 (.tmp 4) (.tmp 31) rfl (w.heap.size + 1) (stA Q s7 n7 c7) rfl rfl 30 _ R7 hszQ (by rw [hzsz, stA_size hq1 hq2]) (stA_one Q s7 n7 c7) ?_)
    refine hK.out _ _ ⟨G8.rowO (by omega), A7.rowO (by omega)⟩ (fun hHeld => ?_)
    clear hK K
    try simp only [Act.put, List.setIfInBounds_toArray, List.set_cons_zero, List.set_cons_succ]
    refine wpAnyH_take (i := 9) (oi := ⟨_, _, _, _, _, _⟩) (v := ?_) rfl (by kernel_rfl) (by kernel_rfl) (by kernel_rfl) (fun _ _ _ h => h) (Or.inl ⟨by rfl, ?_⟩) (by assumption) ?_
    rotate_left
    · intro u hSw
      go_simp
      try (with_reducible rfl)
    try simp only [Act.put, List.setIfInBounds_toArray, List.set_cons_zero, List.set_cons_succ]
    refine wpAnyH_take (i := 10) (oi := ⟨_, _, _, _, _, _⟩) (v := ?_) rfl (by kernel_rfl) (by kernel_rfl) (by kernel_rfl) (fun _ _ _ h => h) (Or.inl ⟨by rfl, ?_⟩) (by assumption) ?_
    rotate_left
    · intro u hSw
      go_simp
      try (with_reducible rfl)
    try simp only [Act.put, List.setIfInBounds_toArray, List.set_cons_zero, List.set_cons_succ]
    refine wpAnyH_done (by kernel_rfl) ?_ _
    have R9 := R7.setRow (stA Q s7 n7 c7)
    have own9 := own_row own8 (stA Q s7 n7 c7) (show w.heap.size + 1 < GB + 1 by omega)
    have B9 := below_setRow B7 (show w.heap.size ≤ w.heap.size + 1 by omega) (stA Q s7 n7 c7)
    go_wp2_with fail
    exact bodyPost_ret (v := .tuple #[.agg (stA Q s7 n7 c7), .bool (!decide (Q = ps)), .int .i64 0]) (resD Try.results46 rfl rfl rfl hq1 hq2 R9) rfl (hfin2.out _ (own_mono own9 (by omega)) B9)
  · have hne : (rdE L == 0) = false := by simp [he]
    have hdb2 := Hid.mk' (hdb.out he)
    clear hdb
    generalize rdM L = m at *
    generalize rdE L = ee at *
    replace hRd := Hid.mk' hRd
    clear he
    go_upto_region 8 with (first
      | (go_at_call 64; go_must (refine hRd.out.mono ?_; rintro r w6 ⟨rfl, hb6⟩))
      | (refine atS 95 (.tmp 8) (.tmp 24) ?_; refine st27n (by rfl) _ _ (by rfl) w6 w6.heap.size rfl hmz m (by rfl) (by rfl) hmo ?_))
    have hz6 := hb6.size
    have A7 := ((A5.below hb6 A5.lt).alloc (.cells m.arr 95)).drew
    have R7 := ((R5.below hb6 R5.lt).alloc (.cells m.arr 95)).drew
    have G8 := ((G5.below hb6 G5.lt).alloc (.cells m.arr 95)).drew
    have own8 := own_bel (own_bel (own_bel own5 hb6) (alloc_bel' w6 (.cells m.arr 95))) (drew_bel _)
    have B7 := ((B5.trans (hb6.mono B5.size)).alloc (Nat.le_trans B5.size hz6) (.cells m.arr 95)).drew
    obtain ⟨Q, hQe, hq1, hq2⟩ : ∃ Q : List Ac, Hid (Q = ps) ∧ Q.length = 32 ∧ ∀ a ∈ Q, a.lk.length = 32 := ⟨ps, Hid.mk' rfl, h1, h2⟩
    have hfin2 : Hid (∀ w', w'.ownsRow w.heap.size 66 2 (.slice s4 n c4) n (ouF os) → Below w.heap.size w w' → DLPost ps os L w (.returned (.tuple #[.agg (stA Q s4 n c4), .bool (!decide (Q = ps)), .int .i64 0])) w') := Hid.mk' (fun w' ho hb => DLPost.ok hfin.out (hdb2.out.1.trans hQe.out.symm) hdb2.out.2.1 (by rw [hdb2.out.2.2, decide_eq_true hQe.out]; rfl) ho hlen hb)
    rw [← hQe.out] at G8
    clear A5 R5 G5 B5 own5 hRd hb6
    have hszQ : (Try.prog.info? 30).map (·.size) = some (stA Q s4 n c4).size := by rw [stA_size hq1 hq2]; exact size30
    refine wp_region_held_drew (S := fun u => Arr u GB 127 (stA Q s4 n c4) ∧ Arr u w.heap.size 30 (stA ps sp n cap)) (by kernel_rfl) (⟨G8, A7⟩) (fun hHeld => ?_)
    refine wpAnyH_take (i := 0) (oi := ⟨_, _, _, _, _, _⟩) (v := ?_) rfl (by kernel_rfl) (by kernel_rfl) (by kernel_rfl) (fun _ _ _ h => h) (Or.inl ⟨by rfl, ?_⟩) (by assumption) ?_
    rotate_left
    · intro u hSw
      go_simp
      try (with_reducible rfl)
    try simp only [Act.put, List.setIfInBounds_toArray, List.set_cons_zero, List.set_cons_succ]
    refine wpAnyH_take (i := 1) (oi := ⟨_, _, _, _, _, _⟩) rfl (by kernel_rfl) (by kernel_rfl) (by kernel_rfl) (fun _ _ _ h => h) (y30 (by rfl) (.tmp 30) rfl GB 127 rfl Q s4 n c4 hq1 hq2 (fun u hu => hu.1)) (by assumption) ?_
    try simp only [Act.put, List.setIfInBounds_toArray, List.set_cons_zero, List.set_cons_succ]
    refine wpAnyH_take (i := 2) (oi := ⟨_, _, _, _, _, _⟩) (v := ?_) rfl (by kernel_rfl) (by kernel_rfl) (by kernel_rfl) (fun _ _ _ h => h) (Or.inl ⟨by rfl, ?_⟩) (by assumption) ?_
    rotate_left
    · intro u hSw
      go_simp
      try (with_reducible rfl)
    try simp only [Act.put, List.setIfInBounds_toArray, List.set_cons_zero, List.set_cons_succ]
    refine wpAnyH_take (i := 3) (oi := ⟨_, _, _, _, _, _⟩) (v := ?_) rfl (by kernel_rfl) (by kernel_rfl) (by kernel_rfl) (fun _ _ _ h => h) (Or.inl ⟨by rfl, ?_⟩) (by assumption) ?_
    rotate_left
    · intro u hSw
      go_simp
      try (with_reducible rfl)
    try simp only [Act.put, List.setIfInBounds_toArray, List.set_cons_zero, List.set_cons_succ]
    refine wpAnyH_take (i := 4) (oi := ⟨_, _, _, _, _, _⟩) rfl (by kernel_rfl) (by kernel_rfl) (by kernel_rfl) (fun _ _ _ h => h) (yAc (by rfl) (.tmp 33) rfl GB 127 rfl Q s4 n c4 hq1 hq2 (fun u hu => hu.1)) (by assumption) ?_
    try simp only [Act.put, List.setIfInBounds_toArray, List.set_cons_zero, List.set_cons_succ]
    refine wpAnyH_take (i := 5) (oi := ⟨_, _, _, _, _, _⟩) (v := ?_) rfl (by kernel_rfl) (by kernel_rfl) (by kernel_rfl) (fun _ _ _ h => h) (Or.inl ⟨by rfl, ?_⟩) (by assumption) ?_
    rotate_left
    · intro u hSw
      go_simp
      try (with_reducible rfl)
    try simp only [Act.put, List.setIfInBounds_toArray, List.set_cons_zero, List.set_cons_succ]
    refine wpAnyH_take (i := 6) (oi := ⟨_, _, _, _, _, _⟩) rfl (by kernel_rfl) (by kernel_rfl) (by kernel_rfl) (fun _ _ _ h => h) (yAc (by rfl) (.tmp 35) rfl w.heap.size 30 rfl ps sp n cap h1 h2 (fun u hu => hu.2)) (by assumption) ?_
    try simp only [Act.put, List.setIfInBounds_toArray, List.set_cons_zero, List.set_cons_succ]
    refine wpAnyH_take (i := 7) (oi := ⟨_, _, _, _, _, _⟩) (v := ?_) rfl (by kernel_rfl) (by kernel_rfl) (by kernel_rfl) (fun _ _ _ h => h) (Or.inl ⟨by rfl, ?_⟩) (by assumption) ?_
    rotate_left
    · intro u hSw
      have he : Sem.run Try.prog (Op.equalIn 10000 27 (Value.agg (acA Q)) (Value.agg (acA ps))) u = .ok (decide (Q = ps)) u := run_eqIn27 hq1 h1 hq2 h2 u
      go_simp
      try (with_reducible rfl)
    try simp only [Act.put, List.setIfInBounds_toArray, List.set_cons_zero, List.set_cons_succ]
    refine wpAnyH_ready (rs := [8]) (by kernel_rfl) (by simp) ?_
    refine AllReadyH.cons (o := ⟨_, _, _, _, _, _⟩) rfl (fun K hK => ?_) AllReadyH.nil
    refine step_want rfl (wp_store_row 30 (.tmp 4) (.tmp 31) rfl (w.heap.size + 1) (stA Q s4 n c4) rfl rfl 30 _ R7 hszQ (by rw [hzsz, stA_size hq1 hq2]) (stA_one Q s4 n c4) ?_)
    refine hK.out _ _ ⟨G8.rowO (by omega), A7.rowO (by omega)⟩ (fun hHeld => ?_)
    clear hK K
    try simp only [Act.put, List.setIfInBounds_toArray, List.set_cons_zero, List.set_cons_succ]
    refine wpAnyH_take (i := 9) (oi := ⟨_, _, _, _, _, _⟩) (v := ?_) rfl (by kernel_rfl) (by kernel_rfl) (by kernel_rfl) (fun _ _ _ h => h) (Or.inl ⟨by rfl, ?_⟩) (by assumption) ?_
    rotate_left
    · intro u hSw
      go_simp
      try (with_reducible rfl)
    try simp only [Act.put, List.setIfInBounds_toArray, List.set_cons_zero, List.set_cons_succ]
    refine wpAnyH_take (i := 10) (oi := ⟨_, _, _, _, _, _⟩) (v := ?_) rfl (by kernel_rfl) (by kernel_rfl) (by kernel_rfl) (fun _ _ _ h => h) (Or.inl ⟨by rfl, ?_⟩) (by assumption) ?_
    rotate_left
    · intro u hSw
      go_simp
      try (with_reducible rfl)
    try simp only [Act.put, List.setIfInBounds_toArray, List.set_cons_zero, List.set_cons_succ]
    refine wpAnyH_done (by kernel_rfl) ?_ _
    have R9 := R7.setRow (stA Q s4 n c4)
    have own9 := own_row own8 (stA Q s4 n c4) (show w.heap.size + 1 < GB + 1 by omega)
    have B9 := below_setRow B7 (show w.heap.size ≤ w.heap.size + 1 by omega) (stA Q s4 n c4)
    go_wp2_with fail
    exact bodyPost_ret (v := .tuple #[.agg (stA Q s4 n c4), .bool (!decide (Q = ps)), .int .i64 0]) (resD Try.results46 rfl rfl rfl hq1 hq2 R9) rfl (hfin2.out _ (own_mono own9 (by omega)) B9)
theorem delta_any (ps : List Ac) (N : Nat) (sp : Option Addr) (n cap : Nat) (os : List Ou) (sb : Option Addr) (nb cb : Nat) (L : List Int) (Nb : Nat) (w : World) (hS : SS N w ps sp n cap os) (hL : BS Nb w sb nb cb L) : Calls Try.prog 46 #[.agg (stA ps sp n cap), .slice sb nb cb] w (DLPost ps os L w) := by
  cases hm : may ps n with
  | true => exact delta_ok ps N sp n cap os sb nb cb L Nb w hS hL hm
  | false => exact delta_no ps N sp n cap os sb nb cb L w hS hm
end Go.Proofs.Ytbhhbkoikocjgaa
/- Layer spec: what the layers below give. -/
namespace Go.Proofs.Ytbhhbkoikocjgaa
set_option linter.unusedSectionVars false
set_option maxHeartbeats 1000000
open Go.RowKit
set_option maxRecDepth 100000
set_option linter.unusedVariables false
set_option linter.unusedSimpArgs false

variable [DecidableEq Ac] [DecidableEq Ou] [DecidableEq Mg]
set_option maxHeartbeats 1000000 in
theorem refMay_anyM (m : Mg) (w : World) (hm : MgOK m) :
    Calls Try.prog 52 #[.agg m.arr] w fun e w' => e = .returned (.bool m.may) ∧ Below w.heap.size w w' := by
  have A0 := Arr.new w 95 m.arr
  have hB := alloc_bel' w (.cells m.arr 95)
  have c0 := mg_c0 A0
  have c1 := mg_c1 A0
  have c2 := mg_c2 A0
  have c3 := mg_c3 A0
  have c4 := mg_c4 A0
  have rk := mg_ky A0
  have rn := mg_nx A0 hm.kl
  have hkl := hm.kl
  have hnl := hm.nl
  obtain ⟨ZZ, hZZ⟩ : ∃ Z : List Int, Hid (Z = Z32) := ⟨_, rfl⟩
  have hZ32 : ZZ.length = 32 := by rw [hZZ.out]; simp [Z32]
  have hbZ : Try.prog.built 24 [] = some (h8 ZZ) := by rw [hZZ.out]; kernel_rfl
  have EK : ∀ u, (binOp .eql 24 (.agg (h8 m.ky)) (.agg (h8 ZZ))).run Try.prog u = .ok (.bool (decide (m.ky = ZZ))) u := run_eq24 hkl hZ32
  have EN : ∀ u, (binOp .eql 24 (.agg (h8 m.nx)) (.agg (h8 ZZ))).run Try.prog u = .ok (.bool (decide (m.nx = ZZ))) u := run_eq24 hnl hZ32
  have HK : Hid (decide (m.ky = ZZ) = decide (m.ky = Z32)) := Hid.mk' (by rw [hZZ.out])
  have HN : Hid (decide (m.nx = ZZ) = decide (m.nx = Z32)) := Hid.mk' (by rw [hZZ.out])
  generalize hbk : decide (m.ky = ZZ) = bk at EK HK
  generalize hbn : decide (m.nx = ZZ) = bn at EN HN
  clear hbk hbn
  have M : Hid (m.may = ((m.kd == 1 && m.fr == 0 && decide (m.tw < 32) && decide (0 < m.am) && m.no == 0 && bk && bn) || (m.kd == 2 && decide (m.fr < 32) && decide (m.tw < 32)) || (m.kd == 3 && decide (m.fr < 32) && decide (0 < m.am)))) := Hid.mk' (by rw [HK.out, HN.out]; rfl)
  clear A0 HK HN
  go_enter Try.func52, Try.ntmps52
  have q : ∃ zb, Hid (zb = (m.no == 0 && bk && bn)) := ⟨_, rfl⟩
  by_cases g4 : m.no = 0
  case' pos => cases bk
  case' pos.true => cases bn
  all_goals
    go_upto_region 2 with (first
      | (refine atL 24 (.tmp 8) ?_; refine ld25 (by rfl) (.tmp 8) (by rfl) w.heap.size 5 (by rfl) m.ky hkl rk ?_)
      | (refine atL 24 (.tmp 14) ?_; refine ld25 (by rfl) (.tmp 14) (by rfl) w.heap.size 37 (by rfl) m.nx hnl rn ?_)
      | (refine atB 24 ?_; refine bdT (by rfl) 24 #[] (by rfl) (ps := []) (by rfl) hbZ ?_))
    clear EK EN rk rn
    by_cases h1 : m.kd = 1
    · by_cases p1 : m.fr = 0 <;> by_cases p2 : m.tw < 32 <;> by_cases p3 : 0 < m.am
      all_goals
        go_wp2_with fail
        go_ret
        exact ⟨by rw [M.out]; simp [h1, p1, p2, p3, g4], hB⟩
    · have e1 : (m.kd == 1) = false := by simpa using h1
      by_cases h2 : m.kd = 2
      · by_cases p1 : m.fr < 32 <;> by_cases p2 : m.tw < 32
        all_goals
          go_wp2_with fail
          go_ret
          exact ⟨by rw [M.out]; simp [h2, p1, p2], hB⟩
      · have e2 : (m.kd == 2) = false := by simpa using h2
        by_cases h3 : m.kd = 3
        · by_cases p1 : m.fr < 32 <;> by_cases p3 : 0 < m.am
          all_goals
            go_wp2_with fail
            go_ret
            exact ⟨by rw [M.out]; simp [h3, p1, p3], hB⟩
        · have e3 : (m.kd == 3) = false := by simpa using h3
          go_wp2_with fail
          go_ret
          exact ⟨by rw [M.out]; simp [h1, h2, h3], hB⟩
end Go.Proofs.Ytbhhbkoikocjgaa
