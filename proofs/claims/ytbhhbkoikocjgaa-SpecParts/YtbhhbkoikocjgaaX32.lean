/- NmA, NmF, Pd, Sa. -/
import Derived.Test.YtbhhbkoikocjgaaX31
import Derived.Test.YtbhhbkoikocjgaaX30
import Derived.Test.YtbhhbkoikocjgaaX16
import Derived.Test.YtbhhbkoikocjgaaX03
import Derived.Test.YtbhhbkoikocjgaaX05
import Derived.Test.YtbhhbkoikocjgaaX06
import Derived.BigQuiet
import Derived.BigRegion
import Derived.ChangeKeysEq
import Derived.Deep.DeepCutAuto
import Derived.Deep.DrawnRows
import Derived.Deep.MidRow
import Derived.Deep.QuietTactic
import Derived.Deep.RegionHeld3
import Derived.Deep.RegionLaw
import Derived.Deep.RegionWith
import Derived.Deep.WholeRow
import Derived.JoinedTies
import Derived.KernelRfl
import Derived.Laws.AppendOwnNone
import Derived.Laws.BitsLemmas
import Derived.Laws.BytesArg
import Derived.Laws.CopyOwn
import Derived.Lib.SlBytesConst
import Derived.LoopIn
import Derived.LoopNIn
import Derived.OwnWalkIn
import Derived.RangeFuncBound
import Derived.RangeFuncCalls
import Derived.RangeFuncLeaves
import Derived.RangeFuncNested
import Derived.RangeFuncRecord
import Derived.Shelf.Abstract
import Derived.Shelf.RegionOpen
import Derived.TacticsInMore
import Derived.WalkKit
import Derived.WalkLawsBesides
import Derived.WalkSpells
import GoSem.Claim
import GoSem.ClaimJoined
import GoSem.ClaimMapViews
import Derived.Test.YtbhhbkoikocjgaaX01
import Derived.Test.YtbhhbkoikocjgaaX02
import Derived.Test.YtbhhbkoikocjgaaX04
import Derived.Test.YtbhhbkoikocjgaaX07
import Derived.ChangeOld
import Derived.Great.BuildSlice
import Derived.Great.FillDense
import Derived.Laws.CopyRow
import Derived.Laws.MakeOwn
import Derived.Laws.OwnMore
import Derived.Laws.Tables
import Derived.Maps.AppendAt
import Derived.OpenShut
import Derived.ProofKit
import Derived.ShutString
import Derived.SizedLaws
/- Layer spec: the After of the document. -/
namespace Go.Proofs.Ytbhhbkoikocjgaa
set_option linter.unusedSectionVars false
set_option maxHeartbeats 1000000
open Go.RowKit Go.Shelf
set_option maxRecDepth 100000
set_option linter.unusedVariables false
set_option linter.unusedSimpArgs false


variable [DecidableEq Ac] [DecidableEq Ou] [DecidableEq Mg]
set_option maxHeartbeats 4000000 in
theorem refAfter_any (ps : List Ac) (N : Nat) (sp : Option Addr) (n cap : Nat) (os : List Ou) (sl : Option Addr) (nl cl Nl : Nat) (es : List Bz) (m : Int) (w : World) (hS : SS N w ps sp n cap os) (hL : BL Nl w sl nl cl es) (hNl : Nl ≤ w.heap.size) :
    Calls Try.prog 12 #[.agg (stA ps sp n cap), .int .i64 m, .slice sl nl cl] w (AfterPost (aR ps os (bzs es) nl m) (aE ps os nl m) w) := by
  have hL := hL.mono hNl
  have hS := hS.here
  have h1 := hS.a32.out
  have h2 := hS.l32
  have hok := hS.ok
  have hnn := hS.outs.len
  have hns := hS.outs.small
  have A0 := (Arr.new w 30 (stA ps sp n cap)).alloc (.cells (stA zs none 0 0) 30)
  have R0 : Arr ((w.alloc (.cells (stA ps sp n cap) 30)).alloc (.cells (stA zs none 0 0) 30)) (w.heap.size + 1) 30 (stA zs none 0 0) := by simpa using Arr.new (w.alloc (.cells (stA ps sp n cap) 30)) 30 (stA zs none 0 0)
  have B0 := (alloc_bel' w (.cells (stA ps sp n cap) 30)).alloc (by simp) (.cells (stA zs none 0 0) 30)
  have hz30 := zeroValue30
  have hzsz : (stA zs none 0 0).size = 1089 := stA_size zs_len zs_l32
  have hbz := built30z
  have hsz0 : (Try.prog.info? 30).map (·.size) = some (stA zs none 0 0).size := by rw [hzsz]; exact size30
  have hone := stA_one zs none 0 0
  by_cases hcase : m < 0 ∨ (nl : Int) < m
  · have hno : okN ps os nl m = false := by
      unfold okN
      rcases hcase with h | h
      · simp; intro _ h0; omega
      · simp; intro _ h0; omega
    replace hno := Hid.mk' hno
    generalize hZe : stA zs none 0 0 = Z at A0 R0 B0 hz30 hzsz hbz hsz0 hone
    replace hZe := Hid.mk' hZe
    go_enter Try.func12, Try.ntmps12
    go_upto_region 1 with fail
    generalize (w.alloc (.cells (stA ps sp n cap) 30)).alloc (.cells Z 30) = V at A0 R0 B0 ⊢
    have fin : ∀ u, Below w.heap.size w u → Arr u (w.heap.size + 1) 30 Z → AfterPost (aR ps os (bzs es) nl m) (aE ps os nl m) w (.returned (.tuple #[.agg (stA zs none 0 0), .int .i64 2])) (u.setRow (w.heap.size + 1) Z) := fun u hb _ => AfterPost.no hno.out (below_setRow hb (by omega) _)
    by_cases hlt : m < 0
    · clear hcase
      go_wp2_with (first
        | (refine atB 30 ?_; refine bdT (by rfl) 30 #[] (by rfl) (by rfl) hbz ?_)
        | (refine atS 30 (.tmp 6) (.tmp 19) ?_; refine wpList_store_arr (by rfl) 30 (.tmp 6) (.tmp 19) (by rfl) (w.heap.size + 1) Z (by rfl) (by rfl) 30 _ R0 hsz0 rfl hone ?_))
      have hZ0 := hZe.out
      have hf := fin V B0 R0
      subst hZ0
      exact bodyPost_ret (resE Try.results12 rfl rfl zs_len zs_l32 (R0.setRow _)) rfl hf
    · have hgt : (nl : Int) < m := by
        rcases hcase with h | h
        · exact absurd h hlt
        · exact h
      clear hcase
      go_wp2_with (first
        | (refine atB 30 ?_; refine bdT (by rfl) 30 #[] (by rfl) (by rfl) hbz ?_)
        | (refine atS 30 (.tmp 6) (.tmp 19) ?_; refine wpList_store_arr (by rfl) 30 (.tmp 6) (.tmp 19) (by rfl) (w.heap.size + 1) Z (by rfl) (by rfl) 30 _ R0 hsz0 rfl hone ?_))
      have hZ0 := hZe.out
      have hf := fin V B0 R0
      subst hZ0
      exact bodyPost_ret (resE Try.results12 rfl rfl zs_len zs_l32 (R0.setRow _)) rfl hf
  · obtain ⟨hge, hle⟩ : 0 ≤ m ∧ m ≤ nl := ⟨by omega, by omega⟩
    clear hcase
    obtain ⟨k, rfl⟩ : ∃ k : Nat, m = (k : Int) := ⟨m.toNat, by omega⟩
    have hkn : k ≤ nl := by omega
    have hyy : aR ps os (bzs es) nl (k : Int) = yR ps os (bzs (es.take k)) k ∧ aE ps os nl (k : Int) = xE ps os := by
      cases hmm : may ps os.length with
      | true =>
        obtain ⟨-, ea, ee⟩ := aR_yes (Ls := bzs es) hmm hkn
        rw [ea, ee, yR_yes hmm, xE_yes hmm, bzs_take, rnA_take ps os (bzs es) (Nat.le_refl k)]
        exact ⟨rfl, rfl⟩
      | false =>
        have h0 : okN ps os nl (k : Int) = false := by simp [okN, hmm]
        unfold aR aE yR xE
        rw [h0, hmm]
        exact ⟨rfl, rfl⟩
    rw [hyy.1, hyy.2]
    clear hyy
    have hnl0 : ¬ (k : Int) < 0 := by omega
    have hnl1 : ¬ (nl : Int) < k := by omega
    have hLk := hL.take hkn (Nat.le_trans hkn hL.le) (Nat.le_refl _) (fun e => (hL.nil e).2)
    have hcut := Hid.mk' (fun u => run_cut sl nl cl k u hkn hL.le)
    have hR := Hid.mk' (fun u h h' h'' => refRun_any ps w.heap.size sp n cap os sl k cl w.heap.size (es.take k) u h h' h'')
    unfold RunPost at hR
    have hrok := rnA_ok (Ls := bzs (es.take k)) h1 hok.out hS.outs.ok hLk.bts k
    have hyok : (yR ps os (bzs (es.take k)) k).P.length = 32 ∧ ∀ a ∈ (yR ps os (bzs (es.take k)) k).P, AcOK a := by
      unfold yR
      split
      · exact ⟨hrok.a32, hrok.ok⟩
      · exact ⟨zs_len, zs_ok⟩
    have hyou : Hid (∀ o ∈ (yR ps os (bzs (es.take k)) k).O, OuOK o) := Hid.mk' (by
      unfold yR
      split
      · exact hrok.ou
      · intro o ho; cases ho)
    obtain ⟨hq1, hq3⟩ := hyok
    have hq2 : ∀ a ∈ (yR ps os (bzs (es.take k)) k).P, a.lk.length = 32 := fun a ha => (hq3 a ha).l32
    replace hq3 := Hid.mk' hq3
    clear hbz hsz0 hone hle hge hrok
    generalize hye : yR ps os (bzs (es.take k)) k = R at *
    replace hye := Hid.mk' hye
    generalize hxe : xE ps os = ee at *
    replace hxe := Hid.mk' hxe
    generalize stA zs none 0 0 = Z at A0 R0 B0 hz30 hzsz
    go_enter Try.func12, Try.ntmps12
    go_upto_region 1 with fail
    generalize (w.alloc (.cells (stA ps sp n cap) 30)).alloc (.cells Z 30) = V at A0 R0 B0 ⊢
    have B1 := B0
    go_upto_region 3 with fail
    go_cut [8, 9, 10] from 11 to 30 (fun x y z wc => ∃ gt s1 n1 c1, (x = .pointer (some ⟨gt, 0, none⟩) ∧ (∃ sd kk cd, y = .slice sd kk cd) ∧ z = .int .i64 ee ∧ n1 ≤ 33) ∧ V.heap.size ≤ gt ∧ Arr wc gt 30 (stA R.P s1 n1 c1) ∧ Hid (n1 = R.O.length) ∧ wc.ownsRow V.heap.size 66 2 (.slice s1 n1 c1) n1 (ouF R.O) ∧ Below V.heap.size V wc)
    case first =>
      refine wp_region_held_drew (S := fun u => Below V.heap.size V u) (by kernel_rfl) ((Below.refl _ _).drew) (fun hHeld => ?_)
      refine wpAnyH_take (i := 0) (oi := ⟨_, _, _, _, _, _⟩) rfl (by kernel_rfl) (by kernel_rfl) (by kernel_rfl) (fun _ _ _ h => h) (y30 (by rfl) (.tmp 3) rfl w.heap.size 30 rfl ps sp n cap h1 h2 (fun u hu => A0.below hu A0.lt)) (by assumption) ?_
      try simp only [Act.put, List.setIfInBounds_toArray, List.set_cons_zero, List.set_cons_succ]
      refine wpAnyH_take (i := 1) (oi := ⟨_, _, _, _, _, _⟩) (v := ?_) rfl (by kernel_rfl) (by kernel_rfl) (by kernel_rfl) (fun _ _ _ h => h) (Or.inl ⟨by rfl, ?_⟩) (by assumption) ?_
      rotate_left
      · intro u hSw
        go_simp
        try (with_reducible rfl)
      try simp only [Act.put, List.setIfInBounds_toArray, List.set_cons_zero, List.set_cons_succ]
      refine wpAnyH_take (i := 2) (oi := ⟨_, _, _, _, _, _⟩) (v := ?_) rfl (by kernel_rfl) (by kernel_rfl) (by kernel_rfl) (fun _ _ _ h => h) (Or.inl ⟨by rfl, ?_⟩) (by assumption) ?_
      rotate_left
      · intro u hSw
        go_simp
        try (with_reducible rfl)
      try simp only [Act.put, List.setIfInBounds_toArray, List.set_cons_zero, List.set_cons_succ]
      refine wpAnyH_take (i := 3) (oi := ⟨_, _, _, _, _, _⟩) (v := .slice sl k cl) rfl (by kernel_rfl) (by kernel_rfl) (by kernel_rfl) (fun _ _ _ h => h) (Or.inl ⟨by rfl, fun u hSw => by simp [execOp, Act.eval, hcut.out]⟩) (by assumption) ?_
      try simp only [Act.put, List.setIfInBounds_toArray, List.set_cons_zero, List.set_cons_succ]
      refine wpAnyH_ready (rs := [4, 9]) (by kernel_rfl) (by simp) ?_
      refine AllReadyH.cons (o := ⟨_, _, _, _, _, _⟩) rfl (fun K hK => ?_) (AllReadyH.cons (o := ⟨_, _, _, _, _, _⟩) rfl (fun K hK => ?_) AllReadyH.nil)
      · go_simp
        have hB0 : Below V.heap.size V V.drew := (Below.refl _ _).drew
        refine (hR.out V.drew (hS.below (B1.trans (hB0.mono B1.size))) (hLk.below (B1.trans (hB0.mono B1.size))) (Nat.le_trans B1.size hB0.size)).mono ?_
        rintro r u1 ⟨s1, n1, c1, sd, kk, cd, rfl, hst1, -, -, hb1⟩
        have hn1 := hst1.len
        have hle1 := hst1.le
        have own1 := hst1.own
        have hB1 := hB0.trans (hb1.mono hB0.size)
        go_wp2_with fail
        refine hK.out _ _ hB1 (fun hHeld => ?_)
        clear hK K
        try simp only [Act.put, List.setIfInBounds_toArray, List.set_cons_zero, List.set_cons_succ]
        refine wpAnyH_take (i := 5) (oi := ⟨_, _, _, _, _, _⟩) (v := ?_) rfl (by kernel_rfl) (by kernel_rfl) (by kernel_rfl) (fun _ _ _ h => h) (Or.inl ⟨by rfl, ?_⟩) (by assumption) ?_
        rotate_left
        · intro u hSw
          go_simp
          try (with_reducible rfl)
        try simp only [Act.put, List.setIfInBounds_toArray, List.set_cons_zero, List.set_cons_succ]
        refine wpAnyH_take (i := 6) (oi := ⟨_, _, _, _, _, _⟩) (v := ?_) rfl (by kernel_rfl) (by kernel_rfl) (by kernel_rfl) (fun _ _ _ h => h) (Or.inl ⟨by rfl, ?_⟩) (by assumption) ?_
        rotate_left
        · intro u hSw
          go_simp
          try (with_reducible rfl)
        try simp only [Act.put, List.setIfInBounds_toArray, List.set_cons_zero, List.set_cons_succ]
        refine wpAnyH_take (i := 7) (oi := ⟨_, _, _, _, _, _⟩) (v := ?_) rfl (by kernel_rfl) (by kernel_rfl) (by kernel_rfl) (fun _ _ _ h => h) (Or.inl ⟨by rfl, ?_⟩) (by assumption) ?_
        rotate_left
        · intro u hSw
          go_simp
          try (with_reducible rfl)
        try simp only [Act.put, List.setIfInBounds_toArray, List.set_cons_zero, List.set_cons_succ]
        refine wpAnyH_take (i := 8) (oi := ⟨_, _, _, _, _, _⟩) (v := ?_) rfl (by kernel_rfl) (by kernel_rfl) (by kernel_rfl) (fun _ _ _ h => h) (Or.inl ⟨by rfl, ?_⟩) (by assumption) ?_
        rotate_left
        · intro u hSw
          go_simp
          try (with_reducible rfl)
        try simp only [Act.put, List.setIfInBounds_toArray, List.set_cons_zero, List.set_cons_succ]
        refine wpAnyH_ready (rs := [9]) (by kernel_rfl) (by simp) ?_
        refine AllReadyH.cons (o := ⟨_, _, _, _, _, _⟩) rfl (fun K hK => ?_) AllReadyH.nil
        have hB2 := hB1.alloc hB1.size (.cells Z 30)
        have hA2 := Arr.new u1 30 Z
        have hw2 := own1.alloc (.cells Z 30)
        go_simp
        go_wp2_with fail
        refine hK.out _ _ hB2 (fun hHeld => ?_)
        clear hK K
        try simp only [Act.put, List.setIfInBounds_toArray, List.set_cons_zero, List.set_cons_succ]
        refine wpAnyH_ready (rs := [10]) (by kernel_rfl) (by simp) ?_
        refine AllReadyH.cons (o := ⟨_, _, _, _, _, _⟩) rfl (fun K hK => ?_) AllReadyH.nil
        refine step_want rfl (wp_store_row 30 (.tmp 8) (.tmp 26) rfl u1.heap.size (stA R.P s1 n1 c1) rfl rfl 30 _ hA2 (by rw [stA_size hq1 hq2]; exact size30) (by rw [hzsz, stA_size hq1 hq2]) (stA_one _ _ _ _) ?_)
        have hB3 := below_setRow hB2 hB1.size (stA R.P s1 n1 c1)
        have hA3 := hA2.setRow (stA R.P s1 n1 c1)
        have hw3 := own_same hw2 (w' := (u1.alloc (.cells Z 30)).setRow u1.heap.size (stA R.P s1 n1 c1)) (fun b hb => setRow_other _ _ _ _ (by have := own_lt own1 hb; omega))
        refine hK.out _ _ hB3 (fun hHeld => ?_)
        clear hK K
        try simp only [Act.put, List.setIfInBounds_toArray, List.set_cons_zero, List.set_cons_succ]
        refine wpAnyH_take (i := 11) (oi := ⟨_, _, _, _, _, _⟩) (v := ?_) rfl (by kernel_rfl) (by kernel_rfl) (by kernel_rfl) (fun _ _ _ h => h) (Or.inl ⟨by rfl, ?_⟩) (by assumption) ?_
        rotate_left
        · intro u hSw
          go_simp
          try (with_reducible rfl)
        try simp only [Act.put, List.setIfInBounds_toArray, List.set_cons_zero, List.set_cons_succ]
        refine wpAnyH_take (i := 12) (oi := ⟨_, _, _, _, _, _⟩) (v := ?_) rfl (by kernel_rfl) (by kernel_rfl) (by kernel_rfl) (fun _ _ _ h => h) (Or.inl ⟨by rfl, ?_⟩) (by assumption) ?_
        rotate_left
        · intro u hSw
          go_simp
          try (with_reducible rfl)
        try simp only [Act.put, List.setIfInBounds_toArray, List.set_cons_zero, List.set_cons_succ]
        refine wpAnyH_done (by kernel_rfl) ?_ _
        go_wp2_with fail
        go_meet
        exact ⟨_, s1, n1, c1, ⟨rfl, ⟨_, _, _, rfl⟩, rfl, hle1⟩, hB1.size, hA3, hn1, own_mono hw3 hB0.size, hB3⟩
      · go_simp
        go_wp2_with fail
        have hB0 : Below V.heap.size V (V.drew.alloc (.cells Z 30)) := ((Below.refl V.heap.size V).drew).alloc (by simp) _
        have hA0 : Arr (V.drew.alloc (.cells Z 30)) V.heap.size 30 Z := Arr.new V.drew 30 Z
        refine hK.out _ _ hB0 (fun hHeld => ?_)
        clear hK K
        try simp only [Act.put, List.setIfInBounds_toArray, List.set_cons_zero, List.set_cons_succ]
        refine wpAnyH_ready (rs := [4]) (by kernel_rfl) (by simp) ?_
        refine AllReadyH.cons (o := ⟨_, _, _, _, _, _⟩) rfl (fun K hK => ?_) AllReadyH.nil
        go_simp
        refine (hR.out (V.drew.alloc (.cells Z 30)) (hS.below (B1.trans (hB0.mono B1.size))) (hLk.below (B1.trans (hB0.mono B1.size))) (Nat.le_trans B1.size hB0.size)).mono ?_
        rintro r u1 ⟨s1, n1, c1, sd, kk, cd, rfl, hst1, -, -, hb1⟩
        have hn1 := hst1.len
        have hle1 := hst1.le
        have own1 := hst1.own
        have hB1 := hB0.trans (hb1.mono hB0.size)
        have hA1 := hA0.below hb1 hA0.lt
        have hgV : V.heap.size < (V.drew.alloc (.cells Z 30)).heap.size := by simp
        go_wp2_with fail
        refine hK.out _ _ hB1 (fun hHeld => ?_)
        clear hK K
        try simp only [Act.put, List.setIfInBounds_toArray, List.set_cons_zero, List.set_cons_succ]
        refine wpAnyH_take (i := 5) (oi := ⟨_, _, _, _, _, _⟩) (v := ?_) rfl (by kernel_rfl) (by kernel_rfl) (by kernel_rfl) (fun _ _ _ h => h) (Or.inl ⟨by rfl, ?_⟩) (by assumption) ?_
        rotate_left
        · intro u hSw
          go_simp
          try (with_reducible rfl)
        try simp only [Act.put, List.setIfInBounds_toArray, List.set_cons_zero, List.set_cons_succ]
        refine wpAnyH_take (i := 6) (oi := ⟨_, _, _, _, _, _⟩) (v := ?_) rfl (by kernel_rfl) (by kernel_rfl) (by kernel_rfl) (fun _ _ _ h => h) (Or.inl ⟨by rfl, ?_⟩) (by assumption) ?_
        rotate_left
        · intro u hSw
          go_simp
          try (with_reducible rfl)
        try simp only [Act.put, List.setIfInBounds_toArray, List.set_cons_zero, List.set_cons_succ]
        refine wpAnyH_take (i := 7) (oi := ⟨_, _, _, _, _, _⟩) (v := ?_) rfl (by kernel_rfl) (by kernel_rfl) (by kernel_rfl) (fun _ _ _ h => h) (Or.inl ⟨by rfl, ?_⟩) (by assumption) ?_
        rotate_left
        · intro u hSw
          go_simp
          try (with_reducible rfl)
        try simp only [Act.put, List.setIfInBounds_toArray, List.set_cons_zero, List.set_cons_succ]
        refine wpAnyH_take (i := 8) (oi := ⟨_, _, _, _, _, _⟩) (v := ?_) rfl (by kernel_rfl) (by kernel_rfl) (by kernel_rfl) (fun _ _ _ h => h) (Or.inl ⟨by rfl, ?_⟩) (by assumption) ?_
        rotate_left
        · intro u hSw
          go_simp
          try (with_reducible rfl)
        try simp only [Act.put, List.setIfInBounds_toArray, List.set_cons_zero, List.set_cons_succ]
        refine wpAnyH_ready (rs := [10]) (by kernel_rfl) (by simp) ?_
        refine AllReadyH.cons (o := ⟨_, _, _, _, _, _⟩) rfl (fun K hK => ?_) AllReadyH.nil
        refine step_want rfl (wp_store_row 30 (.tmp 8) (.tmp 26) rfl V.heap.size (stA R.P s1 n1 c1) rfl rfl 30 _ hA1 (by rw [stA_size hq1 hq2]; exact size30) (by rw [hzsz, stA_size hq1 hq2]) (stA_one _ _ _ _) ?_)
        have hB3 := below_setRow hB1 (Nat.le_refl _) (stA R.P s1 n1 c1)
        have hA3 := hA1.setRow (stA R.P s1 n1 c1)
        have hw3 := own_same own1 (w' := u1.setRow V.heap.size (stA R.P s1 n1 c1)) (fun b hb => setRow_other _ _ _ _ (by have := own_ge own1 b hb; omega))
        refine hK.out _ _ hB3 (fun hHeld => ?_)
        clear hK K
        try simp only [Act.put, List.setIfInBounds_toArray, List.set_cons_zero, List.set_cons_succ]
        refine wpAnyH_take (i := 11) (oi := ⟨_, _, _, _, _, _⟩) (v := ?_) rfl (by kernel_rfl) (by kernel_rfl) (by kernel_rfl) (fun _ _ _ h => h) (Or.inl ⟨by rfl, ?_⟩) (by assumption) ?_
        rotate_left
        · intro u hSw
          go_simp
          try (with_reducible rfl)
        try simp only [Act.put, List.setIfInBounds_toArray, List.set_cons_zero, List.set_cons_succ]
        refine wpAnyH_take (i := 12) (oi := ⟨_, _, _, _, _, _⟩) (v := ?_) rfl (by kernel_rfl) (by kernel_rfl) (by kernel_rfl) (fun _ _ _ h => h) (Or.inl ⟨by rfl, ?_⟩) (by assumption) ?_
        rotate_left
        · intro u hSw
          go_simp
          try (with_reducible rfl)
        try simp only [Act.put, List.setIfInBounds_toArray, List.set_cons_zero, List.set_cons_succ]
        refine wpAnyH_done (by kernel_rfl) ?_ _
        go_wp2_with fail
        go_meet
        exact ⟨_, s1, n1, c1, ⟨rfl, ⟨_, _, _, rfl⟩, rfl, hle1⟩, Nat.le_refl _, hA3, hn1, own_mono hw3 hB0.size, hB3⟩
    case rest =>
      obtain ⟨gt, s1, n1, c1, ⟨rfl, ⟨sd, kk, cd, rfl⟩, rfl, hle1⟩, hgt, T1, hn1, own1, hbc⟩ := hcut
      have hzc := hbc.size
      have hV := B0.size
      have hR0 := R0.lt
      have R2 := R0.below hbc R0.lt
      have B2 := B0.trans (hbc.mono B0.size)
      have hsq : (stA R.P s1 n1 c1).size = 1089 := stA_size hq1 hq2
      go_wp2_with (first
        | (refine atL 30 (.tmp 8) ?_; refine ld30 (by rfl) _ (by rfl) gt 30 (by rfl) R.P s1 n1 c1 hq1 hq2 T1 ?_)
        | (refine atS 30 (.tmp 6) (.tmp 29) ?_; refine wpList_store_arr (by rfl) 30 (.tmp 6) (.tmp 29) (by rfl) (w.heap.size + 1) (stA R.P s1 n1 c1) (by rfl) (by rfl) 30 _ R2 (by rw [hsq]; exact size30) (by rw [hzsz, hsq]) (stA_one _ _ _ _) ?_))
      have own3 := own_same own1 (w' := wc.setRow (w.heap.size + 1) (stA R.P s1 n1 c1)) (fun b hb => setRow_other _ _ _ _ (by have := own_ge own1 b hb; omega))
      have hst : NwS w (wc.setRow (w.heap.size + 1) (stA R.P s1 n1 c1)) R.P R.O s1 n1 c1 := ⟨hn1, hle1, own_mono own3 (by omega), ⟨Hid.mk' hq1, hq3, os_own own3 hn1.out (by omega) hyou.out⟩⟩
      have R3 := R2.setRow (stA R.P s1 n1 c1)
      have B3 := below_setRow B2 (show w.heap.size ≤ w.heap.size + 1 by omega) (stA R.P s1 n1 c1)
      have hye0 := hye.out
      have hxe0 := hxe.out
      clear hye hxe
      subst hye0
      subst hxe0
      exact bodyPost_ret (resE Try.results12 rfl rfl hq1 hq2 R3) rfl ⟨s1, n1, c1, rfl, hst, B3⟩
end Go.Proofs.Ytbhhbkoikocjgaa
/- Layer spec: the Flow of the document. -/
namespace Go.Proofs.Ytbhhbkoikocjgaa
set_option linter.unusedSectionVars false
set_option maxHeartbeats 1000000
open Go.RowKit Go.Shelf
set_option maxRecDepth 100000
set_option linter.unusedVariables false
set_option linter.unusedSimpArgs false


variable [DecidableEq Ac] [DecidableEq Ou] [DecidableEq Mg]
set_option maxHeartbeats 4000000 in
theorem refFlow_any (ps : List Ac) (N : Nat) (sp : Option Addr) (n cap : Nat) (os : List Ou) (sl : Option Addr) (nl cl Nl : Nat) (es : List Bz) (w : World) (hS : SS N w ps sp n cap os) (hL : BL Nl w sl nl cl es) (hNl : Nl ≤ w.heap.size) :
    Calls Try.prog 14 #[.agg (stA ps sp n cap), .slice sl nl cl] w fun r w' => r = .returned (.tuple #[.int .u64 (yR ps os (bzs es) nl).I, .int .u64 (yR ps os (bzs es) nl).U, .int .i64 (xE ps os)]) ∧ Below w.heap.size w w' := by
  have hL := hL.mono hNl
  have hS := hS.here
  have h1 := hS.a32.out
  have h2 := hS.l32
  have hok := hS.ok
  have A0 := Arr.new w 30 (stA ps sp n cap)
  have B0 := alloc_bel' w (.cells (stA ps sp n cap) 30)
  have hrok := rnA_ok (Ls := bzs es) h1 hok.out hS.outs.ok hL.bts
  have hrun := refRun_any ps w.heap.size sp n cap os sl nl cl w.heap.size es (w.alloc (.cells (stA ps sp n cap) 30)) (hS.below B0) (hL.below B0) B0.size
  unfold RunPost at hrun
  have hz30 := zeroValue30
  have hzsz : (stA zs none 0 0).size = 1089 := stA_size zs_len zs_l32
  generalize stA zs none 0 0 = Z at hz30 hzsz
  have hwr : ∀ x : Int, IntKind.u64.wrap x = x % 18446744073709551616 := wrapB
  cases hm : may ps os.length with
  | false =>
    have e1 : yR ps os (bzs es) nl = ⟨zs, [], [], 0, 0⟩ := by unfold yR; rw [hm]; rfl
    have e2 : xE ps os = 2 := by unfold xE; rw [hm]; rfl
    rw [e1, e2] at hrun ⊢
    simp only [] at hrun ⊢
    go_enter Try.func14, Try.ntmps14
    go_upto_region 2 with (first
      | (refine atL 30 (.tmp 2) ?_; refine ld30 (by rfl) _ (by rfl) w.heap.size 30 (by rfl) ps sp n cap h1 h2 A0 ?_)
      | (go_at_call 9; go_must (refine hrun.mono ?_; rintro r w1 ⟨s1, n1, c1, sd, kk, cd, rfl, hst1, hkk, hrow, hb1⟩))
      | (refine atS 30 (.tmp 7) (.tmp 19) ?_; refine st30n (by rfl) _ _ (by rfl) w1 w1.heap.size rfl hzsz zs s1 n1 c1 (by rfl) (by rfl) zs_len zs_l32 ?_))
    obtain rfl : kk = 0 := hkk.out
    have B1 := (B0.trans (hb1.mono B0.size)).alloc (Nat.le_trans B0.size hb1.size) (.cells (stA zs s1 n1 c1) 30)
    generalize w1.alloc (.cells (stA zs s1 n1 c1) 30) = W1 at *
    go_upto_region 4 with fail
    go_loopw [10, 11, 12] (fun x y d wr => x = .int .u64 0 ∧ y = .int .u64 0 ∧ d = .int .i64 0 ∧ Below w.heap.size w wr) (fun _ _ _ _ => 0)
    case atStart => exact ⟨rfl, rfl, rfl, B1⟩
    case round =>
      obtain ⟨rfl, rfl, rfl, hbr⟩ := hrel
      go_wp2_with fail
      exact bodyPost_ret (v := .tuple #[.int .u64 0, .int .u64 0, .int .i64 2]) (res3 Try.results14 rfl rfl rfl) rfl ⟨rfl, hbr⟩
  | true =>
    rw [yR_yes hm, xE_yes hm] at hrun ⊢
    have hq1 := (hrok nl).a32
    have hq2 : ∀ a ∈ (rnA ps os (bzs es) nl).P, a.lk.length = 32 := fun a ha => ((hrok nl).ok a ha).l32
    have hnlb : nl ≤ (bzs es).length := by rw [bzs_len, hL.len.out]; exact Nat.le_refl _
    have hrD := Hid.mk' (rnA_D (ps := ps) (os := os) (Ls := bzs es) nl hnlb)
    have hat := Hid.mk' (fun j L (h : (bzs es)[j]? = some L) (hj : j < nl) => rnA_Dat (ps := ps) (os := os) h nl hj hnlb)
    have hsm := hL.small
    have hnlI : (nl : Int) ≤ 9223372036854775807 := by omega
    clear hnlb
    go_enter Try.func14, Try.ntmps14
    go_upto_region 2 with (first
      | (refine atL 30 (.tmp 2) ?_; refine ld30 (by rfl) _ (by rfl) w.heap.size 30 (by rfl) ps sp n cap h1 h2 A0 ?_)
      | (go_at_call 9; go_must (refine hrun.mono ?_; rintro r w1 ⟨s1, n1, c1, sd, kk, cd, rfl, hst1, hkk, hrow, hb1⟩))
      | (refine atS 30 (.tmp 7) (.tmp 19) ?_; refine st30n (by rfl) _ _ (by rfl) w1 w1.heap.size rfl hzsz (rnA ps os (bzs es) nl).P s1 n1 c1 (by rfl) (by rfl) hq1 hq2 ?_))
    obtain rfl : kk = nl := by rw [hkk.out]; exact hrD.out
    have B1 := (B0.trans (hb1.mono B0.size)).alloc (Nat.le_trans B0.size hb1.size) (.cells (stA (rnA ps os (bzs es) kk).P s1 n1 c1) 30)
    have row1 := own_mono (hrow.alloc (.cells (stA (rnA ps os (bzs es) kk).P s1 n1 c1) 30)) B0.size
    generalize w1.alloc (.cells (stA (rnA ps os (bzs es) kk).P s1 n1 c1) 30) = W1 at *
    clear hst1 hrow hkk hrD hb1 hrun hq1 hq2
    go_upto_region 4 with fail
    go_loopw [10, 11, 12] (fun x y d wr => ∃ j : Nat, x = .int .u64 (rnA ps os (bzs es) j).I ∧ y = .int .u64 (rnA ps os (bzs es) j).U ∧ d = .int .i64 (j : Int) ∧ j ≤ kk ∧ Below w.heap.size w wr ∧ wr.ownsRow w.heap.size 4 1 (.slice sd kk cd) kk (bls (rnA ps os (bzs es) kk).D)) (fun _ _ d _ => kk - (intOf d).toNat)
    case atStart => exact ⟨0, rfl, rfl, rfl, by omega, B1, row1⟩
    case round =>
      obtain ⟨j, rfl, rfl, rfl, hj, hbr, rowr⟩ := hrel
      clear B1 row1
      by_cases hlt : j < kk
      · have hI : (j : Int) < kk := by omega
        have hLr := hL.below hbr
        obtain ⟨g, off, e, rfl, he, hce, hBe⟩ := hLr.get hlt
        have hd := hat.out j e.bs (bzs_get he) hlt
        have hstep := Hid.mk' (rnA_succ (ps := ps) (os := os) (bzs_get he))
        have hgn := refGain_any e.sp e.n e.cap e.bs _ wr hBe
        obtain ⟨gd, rfl⟩ : ∃ gd, sd = some ⟨gd, 0, none⟩ := by
          obtain ⟨-, ⟨-, q⟩ | ⟨g', cap', cur, q, -⟩⟩ := rowr
          · omega
          · simp at q; exact ⟨g', q.1⟩
        have hcd0 : (bls (rnA ps os (bzs es) kk).D)[j]? = some (.bool (xD (rnA ps os (bzs es) j).P (rnA ps os (bzs es) j).O e.bs)) := by
          simp only [bls, List.getElem?_map, hd, Option.map_some]
        have hI1 : Hid ((rnA ps os (bzs es) (j + 1)).I = if xD (rnA ps os (bzs es) j).P (rnA ps os (bzs es) j).O e.bs = true then ((rnA ps os (bzs es) j).I + gI e.bs) % 18446744073709551616 else (rnA ps os (bzs es) j).I) := Hid.mk' (by rw [hstep.out]; rfl)
        have hU1 : Hid ((rnA ps os (bzs es) (j + 1)).U = if xD (rnA ps os (bzs es) j).P (rnA ps os (bzs es) j).O e.bs = true then ((rnA ps os (bzs es) j).U + gO e.bs) % 18446744073709551616 else (rnA ps os (bzs es) j).U) := Hid.mk' (by rw [hstep.out]; rfl)
        clear hstep hd he hBe
        replace hcd0 := Hid.mk' hcd0
        generalize xD (rnA ps os (bzs es) j).P (rnA ps os (bzs es) j).O e.bs = d at *
        generalize gI e.bs = gi at *
        generalize gO e.bs = go at *
        have fin : Hid (∀ w3 : World, Below wr.heap.size wr w3 → Below w.heap.size w w3 ∧ w3.ownsRow w.heap.size 4 1 (.slice (some ⟨gd, 0, none⟩) kk cd) kk (bls (rnA ps os (bzs es) kk).D) ∧ w3.cell? ⟨gd, j, none⟩ = some (.bool d)) := Hid.mk' (fun w3 hb3 => by
          have r3 := own_same rowr (fun b hb => hb3.block b (own_lt rowr hb))
          exact ⟨hbr.trans (hb3.mono hbr.size), r3, (r3.cellAt j (by omega)).trans hcd0.out⟩)
        cases d with
        | true =>
          go_wp2_with (first
            | (go_at_call 36; go_must (refine hgn.mono ?_; rintro r w3 ⟨rfl, hb3⟩; obtain ⟨b3, r3, c3⟩ := fin.out w3 hb3)))
          go_roundw
          case rel => exact ⟨j + 1, by rw [hI1.out]; rfl, by rw [hU1.out]; rfl, by go_num, by omega, b3, r3⟩
          case measure => simp [intOf]; omega
        | false =>
          go_wp2_with (first
            | (go_at_call 36; go_must (refine hgn.mono ?_; rintro r w3 ⟨rfl, hb3⟩; obtain ⟨b3, r3, c3⟩ := fin.out w3 hb3)))
          go_roundw
          case rel => exact ⟨j + 1, by rw [hI1.out]; rfl, by rw [hU1.out]; rfl, by go_num, by omega, b3, r3⟩
          case measure => simp [intOf]; omega
      · obtain rfl : j = kk := by omega
        have hI : ¬ (j : Int) < j := by omega
        go_wp2_with fail
        exact bodyPost_ret (v := .tuple #[.int .u64 (rnA ps os (bzs es) j).I, .int .u64 (rnA ps os (bzs es) j).U, .int .i64 0]) (res3 Try.results14 rfl rfl rfl) rfl ⟨rfl, hbr⟩
end Go.Proofs.Ytbhhbkoikocjgaa
/- Layer spec: what the layers below give. -/
namespace Go.Proofs.Ytbhhbkoikocjgaa
set_option linter.unusedSectionVars false
set_option maxHeartbeats 1000000
open Go.RowKit
set_option maxRecDepth 100000
set_option linter.unusedVariables false
set_option linter.unusedSimpArgs false

variable [DecidableEq Ac] [DecidableEq Ou] [DecidableEq Mg]
theorem e8_take {n : Int} {j : Nat} (hj : j < 8) : (e8 n).take (j + 1) = (e8 n).take j ++ [n / 2 ^ (56 - 8 * j) % 256] := by
  rw [List.take_add_one]
  congr 1
  simp [e8, hj]
theorem range_sl {w : World} {g o : Nat} {L : List Int} (h : w.rangeAt g o (by8 L)) : SlL w (some ⟨g, o, none⟩) L := fun _ => ⟨g, o, rfl, fun t ht => h t _ (by8_get ht)⟩
end Go.Proofs.Ytbhhbkoikocjgaa
/- Layer spec: what the layers below give. -/
namespace Go.Proofs.Ytbhhbkoikocjgaa
set_option linter.unusedSectionVars false
set_option maxHeartbeats 1000000
open Go.RowKit
set_option maxRecDepth 100000
set_option linter.unusedVariables false
set_option linter.unusedSimpArgs false

variable [DecidableEq Ac] [DecidableEq Ou] [DecidableEq Mg]
set_option maxHeartbeats 1000000 in
theorem eight_any (n : Int) (w : World) :
    Calls Try.prog 53 #[.int .u64 n] w fun e w' => ∃ v', e = .returned v' ∧ w'.ownsRow w.heap.size 5 1 v' 8 (by8 (e8 n)) ∧ Below w.heap.size w w' := by
  go_enter Try.func53, Try.ntmps53
  go_wp2_with fail
  go_loopw [3, 4] (fun u q wr => ∃ j : Nat, q = .int .i64 (7 - (j : Int)) ∧ j ≤ 8 ∧ wr.ownsRow w.heap.size 5 1 u j (by8 ((e8 n).take j)) ∧ Below w.heap.size w wr) (fun _ q _ => (intOf q + 1).toNat)
  case atStart => exact ⟨0, rfl, by omega, World.ownsRow_nil _ _ _ _, Below.refl _ _⟩
  case round =>
    obtain ⟨j, rfl, hj, hou, hbl⟩ := hrel
    have hsz := hbl.size
    by_cases hlt : j < 8
    · obtain ⟨i, hi⟩ : ∃ i, i = 7 - j := ⟨_, rfl⟩
      rw [show (7 - (j : Int)) = (i : Int) by omega]
      have hs0 : (0 : Int) ≤ (i : Int) := by omega
      have hs1 : (i : Int) ≤ 7 := by omega
      have hw1 : IntKind.i64.wrap (8 * (i : Int)) = 8 * i := by rw [IntKind.wrap_i64]; omega
      have hw2 : (8 * (i : Int)) % 18446744073709551616 = 8 * i := by omega
      have hw3 : (8 * (i : Int)).toNat = 8 * i := by omega
      have het : Hid ((e8 n).take (j + 1) = (e8 n).take j ++ [n / 2 ^ (8 * i) % 256]) := Hid.mk' (by rw [e8_take hlt, show 56 - 8 * j = 8 * i by omega])
      have hij : Hid ((i : Int) - 1 = 7 - ((j + 1 : Nat) : Int)) := Hid.mk' (by omega)
      clear hi
      go_wp2_with (at_builtin; go_must (refine append_bytes (by rfl) (.tmp 9) (.tmp 16) (by rfl) w.heap.size _ j ((e8 n).take j) (by rfl) (hou.alloc _) (some ⟨wr.heap.size, 0, none⟩) 1 1 [n / 2 ^ (8 * i) % 256] (by rfl) (by rfl) (fun h => by cases h) (Arr.sl (Arr.new wr 5 _)) (by omega) (by simp; omega) ?_; intro v2 w2 hown2 hg2; have hB2 := (hbl.alloc hsz _).grown hg2 (by simp; omega) (fun k e => own_ge hou k e)))
      go_roundw
      case rel => exact ⟨j + 1, congrArg (Value.int .i64) hij.out, by omega, by rw [het.out]; exact hown2, hB2⟩
      case measure => first | (simp [intOf]; omega) | simp [intOf]
    · obtain rfl : j = 8 := by omega
      have e8' : Hid ((e8 n).take 8 = e8 n) := Hid.mk' (List.take_of_length_le (by rw [e8_len]; exact Nat.le_refl _))
      go_wp2_with fail
      go_ret
      exact ⟨_, rfl, by rw [← e8'.out]; exact hou, hbl⟩
end Go.Proofs.Ytbhhbkoikocjgaa
