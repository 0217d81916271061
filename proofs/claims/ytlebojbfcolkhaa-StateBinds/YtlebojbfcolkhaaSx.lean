/- Layer state: the law StateBinds. -/
import Derived.Test.YtlebojbfcolkhaaA37
import Derived.Test.YtlebojbfcolkhaaA30
namespace Go.Proofs.Ytlebojbfcolkhaa
set_option linter.unusedSectionVars false
set_option maxHeartbeats 1000000
open Go.RowKit
set_option maxRecDepth 100000
set_option linter.unusedVariables false
set_option linter.unusedSimpArgs false

variable [DecidableEq Ac] [DecidableEq Ou]
theorem wp_callC {op : Oper} {q : Act} {w : World} {K : Act → World → Prop} {Q : Exit → Act → World → Prop} (f : FuncId) (args : Array Value) (hrun : (execOp q.eval op).run Try.prog w = .ok (.enter f args) w) (Post : Value → World → Prop)
    (hc : Calls Try.prog f args w fun e w' => ∃ v, e = .returned v ∧ Post v w') (h : ∀ v w', Post v w' → K (q.put op.dst v) w') : op.wp Try.prog q w K Q := by
  unfold Oper.wp
  rw [hrun, Oper.upon_enter]
  refine hc.mono fun e w'' hh => ?_
  obtain ⟨v, rfl, hp⟩ := hh
  exact h v w'' hp
theorem apart_grow2 {w : World} {base e s n : Nat} {v u u' : Value} {xs : List Value} (hv : w.ownsRow base e s v n xs) (h5 : u'.ownBlock = u.ownBlock ∨ u'.ownBlock = some w.heap.size) (hd : ∀ k, v.ownBlock = some k → u.ownBlock ≠ some k) : ∀ k, v.ownBlock = some k → u'.ownBlock ≠ some k := fun k hk q => by
  rcases h5 with h5 | h5
  · exact hd k hk (h5.symm.trans q)
  · rw [h5] at q
    have h1 := Option.some.inj q
    have h2 := own_lt hv hk
    omega
set_option maxHeartbeats 8000000 in
theorem binds_walk (ps : List Ac) (sp : Option Addr) (n cap : Nat) (os : List Ou) (y : Int) (a : Ac) (b : Ou) (R : List Int) (wsp : Option Addr) (wn wcap : Nat) (ls : List (List Int)) (o : List Int) (c : Int) (w : World) (hS : SS w.heap.size w ps sp n cap os) (hy : 0 ≤ y ∧ y ≤ 255) (ha : AcOK a) (hR : R.length = 32) (hWt : WT w.heap.size w wsp wn wcap ls o c) (bo : Bts o) (bls : ∀ x ∈ ls, Bts x) :
    Calls Try.prog 7 #[.agg (stA ps sp n cap), .int .u8 y, .agg (clA2 a b R wsp wn wcap o c)] w fun e w' => e = .returned (.bool true) ∧ Below w.heap.size w w' := by
  have h1 := hS.a32.out
  have h2 := hS.l32
  have hok := hS.ok
  have hlen := hS.outs.len
  have hnsm := hS.outs.small
  have ha32 := ha.l32
  have ho32 := hWt.o32
  obtain ⟨i, hi⟩ : ∃ i : Nat, y % 32 = (i : Int) := ⟨(y % 32).toNat, by omega⟩
  have hi32 : i < 32 := by omega
  have hi0 : (0 : Int) ≤ i := by omega
  have hiI : (i : Int) < 32 := by omega
  have hy0 := hy.1
  have hy1 := hy.2
  obtain ⟨B, hB⟩ : ∃ B, ps[i]? = some B := ⟨ps[i]'(by omega), List.getElem?_eq_getElem _⟩
  have hBok := hok.out B (List.mem_of_getElem? hB)
  have hB32 := hBok.l32
  have HB := Hid.mk' hB
  clear hB
  obtain ⟨z5, hz5, hz5'⟩ := zero55
  obtain ⟨z4, hz4, hz4'⟩ := zero44'
  have A3 := (Arr.new w 30 (stA ps sp n cap)).alloc (.cells (clA2 a b R wsp wn wcap o c) 72)
  have A5 : Arr ((w.alloc (.cells (stA ps sp n cap) 30)).alloc (.cells (clA2 a b R wsp wn wcap o c) 72)) (w.heap.size + 1) 72 (clA2 a b R wsp wn wcap o c) := by simpa using Arr.new (w.alloc (.cells (stA ps sp n cap) 30)) 72 (clA2 a b R wsp wn wcap o c)
  have B0 := (alloc_bel' w (.cells (stA ps sp n cap) 30)).alloc (by simp) (.cells (clA2 a b R wsp wn wcap o c) 72)
  obtain ⟨RV, hRV⟩ : ∃ x, Hid (rtV ps os = x) := ⟨_, rfl⟩
  have hRV32 : RV.length = 32 := by rw [← hRV.out]; exact rtV_len ps os
  obtain ⟨re, hre⟩ : ∃ x, Hid (rtE ps os = x) := ⟨_, rfl⟩
  have rootC : ∀ u : World, Below w.heap.size w u → Calls Try.prog 11 #[.agg (stA ps sp n cap)] u fun e w' => e = .returned (.tuple #[.agg (h8 RV), .int .i64 re]) ∧ Below u.heap.size u w' := fun u hu => by
    have := sroot_any ps w.heap.size sp n cap os u (hS.below hu)
    rw [hRV.out, hre.out] at this
    exact this
  have mayC : ∀ u : World, Calls Try.prog 14 #[.agg (stA ps sp n cap)] u fun e w' => e = .returned (.bool (may ps n)) ∧ Below u.heap.size u w' := fun u => refMay_any ps sp n cap u h1 hok.out hnsm
  have ckC : ∀ u : World, Below w.heap.size w u → Calls Try.prog 23 #[.agg (h8 RV), .int .i64 i, .agg a.arr, .agg (wtA wsp wn wcap o c)] u fun e w' => e = .returned (.bool (ckA RV i a ls o c)) ∧ Below u.heap.size u w' := fun u hu => scheck_any RV i a _ wsp wn wcap ls o c u hRV32 ha (hWt.below hu) (by omega)
  have hck : Hid (ckA RV i a ls o c = true → ls.length = 5 ∧ jn (fo i (lf (acb a)) ls) o c = RV) := Hid.mk' (fun h => ck_jn hi32 h)
  have hmre : Hid (may ps n = true → re = 0 ∧ RV = rtS ps os) := Hid.mk' (fun h => ⟨by rw [← hre.out]; unfold rtE; rw [← hlen.out, if_pos h], by rw [← hRV.out]; unfold rtV; rw [← hlen.out, if_pos h]⟩)
  generalize hmb : may ps n = mb at mayC hmre
  generalize hkb : ckA RV i a ls o c = kb at ckC hck
  have HMB := Hid.mk' hmb
  clear hmb hkb
  go_enter Try.func7, Try.ntmps7
  go_upto_region 1 with fail
  generalize (w.alloc (.cells (stA ps sp n cap) 30)).alloc (.cells (clA2 a b R wsp wn wcap o c) 72) = V0 at A3 A5 B0 ⊢
  go_cut [7, 8] from 23 to 26 (fun s t wc => ∃ b7 b8, s = .pointer (some ⟨b7, 0, none⟩) ∧ t = .pointer (some ⟨b8, 0, none⟩) ∧ BF w ps sp n cap a b R wsp wn wcap o c b7 b8 wc)
  case first =>
    refine wp_region_held_drew (S := fun u => Below V0.heap.size V0 u) (by kernel_rfl) ((Below.refl _ _).drew) (fun hHeld => ?_)
    refine wpAnyH_take (i := 0) (oi := ⟨_, _, _, _, _, _⟩) (v := ?_) rfl (by kernel_rfl) (by kernel_rfl) (by kernel_rfl) (fun _ _ _ h => h) (Or.inl ⟨by rfl, ?_⟩) (by assumption) ?_
    rotate_left
    · intro u hSw
      go_simp
      try (with_reducible rfl)
    try simp only [Act.put, List.setIfInBounds_toArray, List.set_cons_zero, List.set_cons_succ]
    refine wpAnyH_take (i := 1) (oi := ⟨_, _, _, _, _, _⟩) rfl (by kernel_rfl) (by kernel_rfl) (by kernel_rfl) (fun _ _ _ h => h) (y55 (by rfl) (.tmp 23) rfl (w.heap.size + 1) 0 rfl a b R ha32 hR (fun u hu => range_below (cl_th A5) hu A5.lt)) (by assumption) ?_
    try simp only [Act.put, List.setIfInBounds_toArray, List.set_cons_zero, List.set_cons_succ]
    refine wpAnyH_take (i := 2) (oi := ⟨_, _, _, _, _, _⟩) (v := ?_) rfl (by kernel_rfl) (by kernel_rfl) (by kernel_rfl) (fun _ _ _ h => h) (Or.inl ⟨by rfl, ?_⟩) (by assumption) ?_
    rotate_left
    · intro u hSw
      go_simp
      try (with_reducible rfl)
    try simp only [Act.put, List.setIfInBounds_toArray, List.set_cons_zero, List.set_cons_succ]
    refine wpAnyH_take (i := 3) (oi := ⟨_, _, _, _, _, _⟩) rfl (by kernel_rfl) (by kernel_rfl) (by kernel_rfl) (fun _ _ _ h => h) (y44 (by rfl) (.tmp 25) rfl (w.heap.size + 1) 68 rfl wsp wn wcap o c ho32 (fun u hu => range_below (cl_wt ha32 hR A5) hu A5.lt)) (by assumption) ?_
    try simp only [Act.put, List.setIfInBounds_toArray, List.set_cons_zero, List.set_cons_succ]
    have H0 : Below V0.heap.size V0 V0.drew := (Below.refl _ _).drew
    refine wpAnyH_ready (rs := [4, 5]) (by kernel_rfl) (by simp) ?_
    refine AllReadyH.cons (o := ⟨_, _, _, _, _, _⟩) rfl (fun K hK => ?_) (AllReadyH.cons (o := ⟨_, _, _, _, _, _⟩) rfl (fun K hK => ?_) AllReadyH.nil)
    · go_simp
      go_wp2_with fail
      have H1 := H0.alloc H0.size (.cells z5 55)
      have P1 : Arr (V0.drew.alloc (.cells z5 55)) V0.heap.size 55 z5 := Arr.new V0.drew 55 z5
      refine hK.out _ _ H1 (fun hHeld => ?_)
      clear hK K
      try simp only [Act.put, List.setIfInBounds_toArray, List.set_cons_zero, List.set_cons_succ]
      refine wpAnyH_ready (rs := [5]) (by kernel_rfl) (by simp) ?_
      refine AllReadyH.cons (o := ⟨_, _, _, _, _, _⟩) rfl (fun K hK => ?_) AllReadyH.nil
      go_simp
      go_wp2_with fail
      have H2 := H1.alloc H1.size (.cells z4 44)
      have P2 := P1.alloc (.cells z4 44)
      have Q2 : Arr ((V0.drew.alloc (.cells z5 55)).alloc (.cells z4 44)) (V0.heap.size + 1) 44 z4 := by simpa using Arr.new (V0.drew.alloc (.cells z5 55)) 44 z4
      refine hK.out _ _ H2 (fun hHeld => ?_)
      clear hK K
      try simp only [Act.put, List.setIfInBounds_toArray, List.set_cons_zero, List.set_cons_succ]
      refine wpAnyH_ready (rs := [6]) (by kernel_rfl) (by simp) ?_
      refine AllReadyH.cons (o := ⟨_, _, _, _, _, _⟩) rfl (fun K hK => ?_) AllReadyH.nil
      refine step_want rfl (wp_store_row 55 (.tmp 7) (.tmp 24) rfl V0.heap.size (thA a b R) rfl rfl 55 _ P2 (s55 ha32 hR) (by rw [hz5, thA_size ha32 hR]) (all_oneCell_toArray (thC_one a b R)) ?_)
      have H3 := below_setRow H2 (show V0.heap.size ≤ V0.heap.size by omega) (thA a b R)
      have T3 := P2.setRow (thA a b R)
      have U3 := Q2.setRowOther (thA a b R) (show (V0.heap.size + 1) ≠ V0.heap.size by omega)
      refine hK.out _ _ H3 (fun hHeld => ?_)
      clear hK K
      try simp only [Act.put, List.setIfInBounds_toArray, List.set_cons_zero, List.set_cons_succ]
      refine wpAnyH_ready (rs := [7]) (by kernel_rfl) (by simp) ?_
      refine AllReadyH.cons (o := ⟨_, _, _, _, _, _⟩) rfl (fun K hK => ?_) AllReadyH.nil
      refine step_want rfl (wp_store_row 44 (.tmp 8) (.tmp 26) rfl (V0.heap.size + 1) (wtA wsp wn wcap o c) rfl rfl 44 _ U3 (s44 ho32) (by rw [hz4, wtA_size ho32]) (wtA_one wsp wn wcap o c) ?_)
      have H4 := below_setRow H3 (show V0.heap.size ≤ (V0.heap.size + 1) by omega) (wtA wsp wn wcap o c)
      have T4 := T3.setRowOther (wtA wsp wn wcap o c) (show V0.heap.size ≠ (V0.heap.size + 1) by omega)
      have U4 := U3.setRow (wtA wsp wn wcap o c)
      refine hK.out _ _ H4 (fun hHeld => ?_)
      clear hK K
      try simp only [Act.put, List.setIfInBounds_toArray, List.set_cons_zero, List.set_cons_succ]
      refine wpAnyH_done (by kernel_rfl) ?_ _
      go_wp2_with fail
      go_meet
      exact ⟨_, _, rfl, rfl, ⟨A3.bel H4, T4, U4, B0.trans (H4.mono B0.size)⟩⟩
    · go_simp
      go_wp2_with fail
      have H1 := H0.alloc H0.size (.cells z4 44)
      have P1 : Arr (V0.drew.alloc (.cells z4 44)) V0.heap.size 44 z4 := Arr.new V0.drew 44 z4
      refine hK.out _ _ H1 (fun hHeld => ?_)
      clear hK K
      try simp only [Act.put, List.setIfInBounds_toArray, List.set_cons_zero, List.set_cons_succ]
      refine wpAnyH_ready (rs := [4]) (by kernel_rfl) (by simp) ?_
      refine AllReadyH.cons (o := ⟨_, _, _, _, _, _⟩) rfl (fun K hK => ?_) AllReadyH.nil
      go_simp
      go_wp2_with fail
      have H2 := H1.alloc H1.size (.cells z5 55)
      have P2 := P1.alloc (.cells z5 55)
      have Q2 : Arr ((V0.drew.alloc (.cells z4 44)).alloc (.cells z5 55)) (V0.heap.size + 1) 55 z5 := by simpa using Arr.new (V0.drew.alloc (.cells z4 44)) 55 z5
      refine hK.out _ _ H2 (fun hHeld => ?_)
      clear hK K
      try simp only [Act.put, List.setIfInBounds_toArray, List.set_cons_zero, List.set_cons_succ]
      refine wpAnyH_ready (rs := [6]) (by kernel_rfl) (by simp) ?_
      refine AllReadyH.cons (o := ⟨_, _, _, _, _, _⟩) rfl (fun K hK => ?_) AllReadyH.nil
      refine step_want rfl (wp_store_row 55 (.tmp 7) (.tmp 24) rfl (V0.heap.size + 1) (thA a b R) rfl rfl 55 _ Q2 (s55 ha32 hR) (by rw [hz5, thA_size ha32 hR]) (all_oneCell_toArray (thC_one a b R)) ?_)
      have H3 := below_setRow H2 (show V0.heap.size ≤ (V0.heap.size + 1) by omega) (thA a b R)
      have T3 := Q2.setRow (thA a b R)
      have U3 := P2.setRowOther (thA a b R) (show V0.heap.size ≠ (V0.heap.size + 1) by omega)
      refine hK.out _ _ H3 (fun hHeld => ?_)
      clear hK K
      try simp only [Act.put, List.setIfInBounds_toArray, List.set_cons_zero, List.set_cons_succ]
      refine wpAnyH_ready (rs := [7]) (by kernel_rfl) (by simp) ?_
      refine AllReadyH.cons (o := ⟨_, _, _, _, _, _⟩) rfl (fun K hK => ?_) AllReadyH.nil
      refine step_want rfl (wp_store_row 44 (.tmp 8) (.tmp 26) rfl V0.heap.size (wtA wsp wn wcap o c) rfl rfl 44 _ U3 (s44 ho32) (by rw [hz4, wtA_size ho32]) (wtA_one wsp wn wcap o c) ?_)
      have H4 := below_setRow H3 (show V0.heap.size ≤ V0.heap.size by omega) (wtA wsp wn wcap o c)
      have T4 := T3.setRowOther (wtA wsp wn wcap o c) (show (V0.heap.size + 1) ≠ V0.heap.size by omega)
      have U4 := U3.setRow (wtA wsp wn wcap o c)
      refine hK.out _ _ H4 (fun hHeld => ?_)
      clear hK K
      try simp only [Act.put, List.setIfInBounds_toArray, List.set_cons_zero, List.set_cons_succ]
      refine wpAnyH_done (by kernel_rfl) ?_ _
      go_wp2_with fail
      go_meet
      exact ⟨_, _, rfl, rfl, ⟨A3.bel H4, T4, U4, B0.trans (H4.mono B0.size)⟩⟩
  case rest =>
    obtain ⟨b7, b8, rfl, rfl, F0⟩ := hcut
    clear A3 A5 B0 hz5' hz4'
    go_upto_region 3 with (first
      | (refine atL 30 (.tmp 3) ?_; refine ld30 (by rfl) _ (by rfl) w.heap.size 30 (by rfl) ps sp n cap h1 h2 F0.a3 ?_)
      | (go_at_call 11; go_must (refine (rootC _ F0.bel).mono ?_; rintro e w1 ⟨rfl, hb1⟩; have F1 := F0.below hb1; clear F0))
      | (refine atS 24 (.tmp 9) (.tmp 30) ?_; refine st24n (by rfl) (.tmp 9) (.tmp 30) (by rfl) w1 w1.heap.size rfl (by rfl) RV (by rfl) (by rfl) hRV32 ?_))
    have G2 := Arr.new w1 24 (h8 RV)
    have F2 := F1.below (alloc_bel' w1 (.cells (h8 RV) 24))
    generalize w1.heap.size = g9 at G2 ⊢
    generalize w1.alloc (.cells (h8 RV) 24) = W2 at G2 F2 ⊢
    clear F1 hb1 rootC
    go_upto_region 4 with fail
    cases mb
    · clear ckC hck
      by_cases hr0 : re = 0
      case' neg => have hrb : (re == 0) = false := by simpa using hr0
      all_goals
        go_wp2_with (first
          | go_skip
          | (refine atL 30 (.tmp 3) ?_; refine ld30g (by rfl) _ (by rfl) w.heap.size 30 (by rfl) ps sp n cap h1 h2 F4.a3 ?_)
          | (refine atL 30 (.tmp 3) ?_; refine ld30g (by rfl) _ (by rfl) w.heap.size 30 (by rfl) ps sp n cap h1 h2 F2.a3 ?_)
          | (go_at_call 14; refine (mayC _).mono ?_; rintro e w5 ⟨rfl, hb5⟩; have F5 := F4.below hb5)
          | (go_at_call 14; refine (mayC W2).mono ?_; rintro e w3 ⟨rfl, hb3⟩; have F3 := F2.below hb3)
          | (go_at_call 22; go_must (refine (anchored_any _).mono ?_; rintro e w4 ⟨rfl, hb4⟩; have F4 := F3.below hb4)))
        go_ret
        first
          | exact ⟨rfl, F5.bel⟩
          | exact ⟨rfl, F4.bel⟩
    · have hre0 : re = 0 := (hmre.out rfl).1
      have hRVe := Hid.mk' (hmre.out rfl).2
      subst hre0
      cases kb
      · go_wp2_with (first
          | (refine atL 30 (.tmp 3) ?_; refine ld30g (by rfl) _ (by rfl) w.heap.size 30 (by rfl) ps sp n cap h1 h2 F2.a3 ?_)
          | (go_at_call 14; go_must (refine (mayC W2).mono ?_; rintro e w3 ⟨rfl, hb3⟩; have F3 := F2.below hb3; have G3 := G2.bel hb3))
          | (refine atL 24 (.tmp 9) ?_; refine ld24g (by rfl) _ (by rfl) g9 0 (by rfl) RV hRV32 G3.range ?_)
          | (refine atL 26 (.tmp 41) ?_; refine ld26g (by rfl) _ (by rfl) b7 0 (by rfl) a ha32 F3.a7.thA0 ?_)
          | (refine atL 44 (.tmp 8) ?_; refine ld44g (by rfl) _ (by rfl) b8 0 (by rfl) wsp wn wcap o c ho32 F3.a8.wt ?_)
          | (go_at_call 23; go_must (refine (ckC _ F3.bel).mono ?_; rintro e w4 ⟨rfl, hb4⟩; have F4 := F3.below hb4))
          | (go_at_call 22; go_must (refine (anchored_any _).mono ?_; rintro e w5 ⟨rfl, hb5⟩; have F5 := F4.below hb5)))
        go_ret
        exact ⟨rfl, F5.bel⟩
      · have hcc := Hid.mk' (hck.out rfl)
        go_upto_region 6 with (first
          | (refine atL 30 (.tmp 3) ?_; refine ld30g (by rfl) _ (by rfl) w.heap.size 30 (by rfl) ps sp n cap h1 h2 F2.a3 ?_)
          | (go_at_call 14; go_must (refine (mayC W2).mono ?_; rintro e w3 ⟨rfl, hb3⟩; have F3 := F2.below hb3; have G3 := G2.bel hb3))
          | (refine atL 24 (.tmp 9) ?_; refine ld24g (by rfl) _ (by rfl) g9 0 (by rfl) RV hRV32 G3.range ?_)
          | (refine atL 26 (.tmp 41) ?_; refine ld26g (by rfl) _ (by rfl) b7 0 (by rfl) a ha32 F3.a7.thA0 ?_)
          | (refine atL 44 (.tmp 8) ?_; refine ld44g (by rfl) _ (by rfl) b8 0 (by rfl) wsp wn wcap o c ho32 F3.a8.wt ?_)
          | (go_at_call 23; go_must (refine (ckC _ F3.bel).mono ?_; rintro e V ⟨rfl, hb4⟩; have F4 := F3.below hb4)))
        clear F2 F3 G2 G3 hb3 hb4 mayC ckC
        have EQ : ∀ u, (binOp .eql 26 (.agg a.arr) (.agg B.arr)).run Try.prog u = .ok (.bool (decide (a = B))) u := run_eq26 ha32 hB32
        have rA := F4.a7.thA0
        have rB := F4.a3.stAt h2 HB.out
        generalize hab : decide (a = B) = ab at EQ
        have HAB := Hid.mk' hab
        clear hab
        refine wp_region_held_drew (S := fun u => u.rangeAt b7 0 a.cells ∧ u.rangeAt w.heap.size (i * 34) B.cells) (by kernel_rfl) (⟨by simpa using rA, by simpa using rB⟩) (fun hHeld => ?_)
        refine wpAnyH_take (i := 0) (oi := ⟨_, _, _, _, _, _⟩) (v := ?_) rfl (by kernel_rfl) (by kernel_rfl) (by kernel_rfl) (fun _ _ _ h => h) (Or.inl ⟨by rfl, ?_⟩) (by assumption) ?_
        rotate_left
        · intro u hSw
          go_simp
          try (with_reducible rfl)
        try simp only [Act.put, List.setIfInBounds_toArray, List.set_cons_zero, List.set_cons_succ]
        refine wpAnyH_take (i := 1) (oi := ⟨_, _, _, _, _, _⟩) rfl (by kernel_rfl) (by kernel_rfl) (by kernel_rfl) (fun _ _ _ h => h) (y26 (by rfl) (.tmp 57) rfl b7 0 rfl a ha32 (fun u hu => hu.1)) (by assumption) ?_
        try simp only [Act.put, List.setIfInBounds_toArray, List.set_cons_zero, List.set_cons_succ]
        refine wpAnyH_take (i := 2) (oi := ⟨_, _, _, _, _, _⟩) (v := ?_) rfl (by kernel_rfl) (by kernel_rfl) (by kernel_rfl) (fun _ _ _ h => h) (Or.inl ⟨by rfl, ?_⟩) (by assumption) ?_
        rotate_left
        · intro u hSw
          go_simp
          try (with_reducible rfl)
        try simp only [Act.put, List.setIfInBounds_toArray, List.set_cons_zero, List.set_cons_succ]
        refine wpAnyH_take (i := 3) (oi := ⟨_, _, _, _, _, _⟩) (v := ?_) rfl (by kernel_rfl) (by kernel_rfl) (by kernel_rfl) (fun _ _ _ h => h) (Or.inl ⟨by rfl, ?_⟩) (by assumption) ?_
        rotate_left
        · intro u hSw
          go_simp
          try (with_reducible rfl)
        try simp only [Act.put, List.setIfInBounds_toArray, List.set_cons_zero, List.set_cons_succ]
        refine wpAnyH_take (i := 4) (oi := ⟨_, _, _, _, _, _⟩) (v := ?_) rfl (by kernel_rfl) (by kernel_rfl) (by kernel_rfl) (fun _ _ _ h => h) (Or.inl ⟨by rfl, ?_⟩) (by assumption) ?_
        rotate_left
        · intro u hSw
          go_simp
          try (with_reducible rfl)
        try simp only [Act.put, List.setIfInBounds_toArray, List.set_cons_zero, List.set_cons_succ]
        refine wpAnyH_take (i := 5) (oi := ⟨_, _, _, _, _, _⟩) rfl (by kernel_rfl) (by kernel_rfl) (by kernel_rfl) (fun _ _ _ h => h) (y26 (by rfl) (.tmp 61) rfl w.heap.size (i * 34) rfl B hB32 (fun u hu => hu.2)) (by assumption) ?_
        try simp only [Act.put, List.setIfInBounds_toArray, List.set_cons_zero, List.set_cons_succ]
        refine wpAnyH_take (i := 6) (oi := ⟨_, _, _, _, _, _⟩) (v := ?_) rfl (by kernel_rfl) (by kernel_rfl) (by kernel_rfl) (fun _ _ _ h => h) (Or.inl ⟨by rfl, ?_⟩) (by assumption) ?_
        rotate_left
        · intro u hSw
          go_simp
          try (with_reducible rfl)
        try simp only [Act.put, List.setIfInBounds_toArray, List.set_cons_zero, List.set_cons_succ]
        refine wpAnyH_done (by kernel_rfl) ?_ _
        cases ab
        · have hne : Hid (a ≠ B) := Hid.mk' (by have := HAB.out; simpa using this)
          clear EQ rA rB HAB
          replace F4 := F4.below (Below.refl V.heap.size V).drew
          have hl5 := hcc.out.1
          have hwn : wn = 5 := by rw [hWt.path.len.out, hl5]
          subst hwn
          obtain ⟨T, hT⟩ : ∃ T, Hid (fo i (lf (acb a)) ls = T) := ⟨_, rfl⟩
          have hT32 : T.length = 32 := by rw [← hT.out]; exact fo_len (lf_len _)
          have hTb : Bts T := by rw [← hT.out, fo_nd]; exact nd_bts (lf_bts _) _
          have hjn : Hid (jn T o c = rtS ps os) := Hid.mk' (by rw [← hT.out, hcc.out.2, hRVe.out])
          have hl32 := lf_len (acb a)
          have abt := acb_bts ha
          clear hck hmre
          go_upto_region 9 with (first
            | (refine atL 30 (.tmp 3) ?_; refine ld30 (by rfl) _ (by rfl) w.heap.size 30 (by rfl) ps sp n cap h1 h2 F4.a3 ?_)
            | (go_at_call 33; go_must (refine (refKnown_any ps _ sp n cap os _ (hS.below F4.bel)).mono ?_; rintro r V9 ⟨vk, ks, rfl, EK, hkb, hks, hbk⟩; have F9 := F4.below hbk)))
          have iK := EK.inN
          have hKz := hbk.size
          have hvk := EK.own
          have hKb : Hid (ks.map En.bs = knB ps os) := Hid.mk' (by rw [hkb.out, ← hlen.out, HMB.out, if_pos rfl])
          have hKl : ks.length ≤ 128 := by
            have q := congrArg List.length hKb.out
            have hm32 : n ≤ 32 := may_le HMB.out
            rw [List.length_map, knB_len h1 (by rw [← hlen.out]; exact hm32), ← hlen.out] at q
            omega
          obtain ⟨kbase, hkbase⟩ : ∃ x, x = V.drew.heap.size := ⟨_, rfl⟩
          rw [← hkbase] at EK hbk hKz
          have hF4z := F4.bel.size
          rw [← hkbase] at hF4z
          clear hkbase hkb F4
          refine wp_region_held_drew (S := fun u => Below V9.heap.size V9 u) (by kernel_rfl) ((Below.refl _ _).drew) (fun hHeld => ?_)
          refine wpAnyH_take (i := 0) (oi := ⟨_, _, _, _, _, _⟩) (v := ?_) rfl (by kernel_rfl) (by kernel_rfl) (by kernel_rfl) (fun _ _ _ h => h) (Or.inl ⟨by rfl, ?_⟩) (by assumption) ?_
          rotate_left
          · intro u hSw
            go_simp
            try (with_reducible rfl)
          try simp only [Act.put, List.setIfInBounds_toArray, List.set_cons_zero, List.set_cons_succ]
          refine wpAnyH_take (i := 1) (oi := ⟨_, _, _, _, _, _⟩) (v := ?_) rfl (by kernel_rfl) (by kernel_rfl) (by kernel_rfl) (fun _ _ _ h => h) (Or.inl ⟨by rfl, ?_⟩) (by assumption) ?_
          rotate_left
          · intro u hSw
            go_simp
            try (with_reducible rfl)
          try simp only [Act.put, List.setIfInBounds_toArray, List.set_cons_zero, List.set_cons_succ]
          refine wpAnyH_take (i := 2) (oi := ⟨_, _, _, _, _, _⟩) rfl (by kernel_rfl) (by kernel_rfl) (by kernel_rfl) (fun _ _ _ h => h) (y26 (by rfl) (.tmp 72) rfl b7 0 rfl a ha32 (fun u hu => (F9.a7.bel hu).thA0)) (by assumption) ?_
          try simp only [Act.put, List.setIfInBounds_toArray, List.set_cons_zero, List.set_cons_succ]
          refine wpAnyH_take (i := 5) (oi := ⟨_, _, _, _, _, _⟩) (v := ?_) rfl (by kernel_rfl) (by kernel_rfl) (by kernel_rfl) (fun _ _ _ h => h) (Or.inl ⟨by rfl, ?_⟩) (by assumption) ?_
          rotate_left
          · intro u hSw
            go_simp
            try (with_reducible rfl)
          try simp only [Act.put, List.setIfInBounds_toArray, List.set_cons_zero, List.set_cons_succ]
          refine wpAnyH_take (i := 6) (oi := ⟨_, _, _, _, _, _⟩) (v := ?_) rfl (by kernel_rfl) (by kernel_rfl) (by kernel_rfl) (fun _ _ _ h => h) (Or.inl ⟨by rfl, ?_⟩) (by assumption) ?_
          rotate_left
          · intro u hSw
            have cc : u.cell? ⟨b8, 0, none⟩ = some (.slice wsp 5 wcap) := wt_c0 (F9.a8.bel hSw).wt
            go_simp
            try (with_reducible rfl)
          try simp only [Act.put, List.setIfInBounds_toArray, List.set_cons_zero, List.set_cons_succ]
          refine wpAnyH_ready (rs := [3]) (by kernel_rfl) (by simp) ?_
          refine AllReadyH.cons (o := ⟨_, _, _, _, _, _⟩) rfl (fun K hK => ?_) AllReadyH.nil
          go_simp
          refine (refAcBytes_any a _ ha).mono ?_; rintro r u1 ⟨v1, rfl, own1, hb1⟩; have H1 := ((Below.refl V9.heap.size V9).drew).trans (hb1.mono (by simp)); obtain ⟨s1, k1, rfl, S1, -⟩ := own_bs own1 abt (by omega)
          go_wp2_with fail
          refine hK.out _ _ H1 (fun hHeld => ?_)
          clear hK K
          try simp only [Act.put, List.setIfInBounds_toArray, List.set_cons_zero, List.set_cons_succ]
          refine wpAnyH_ready (rs := [4]) (by kernel_rfl) (by simp) ?_
          refine AllReadyH.cons (o := ⟨_, _, _, _, _, _⟩) rfl (fun K hK => ?_) AllReadyH.nil
          go_simp
          refine (refLeaf_bs s1 48 k1 _ (acb a) _ S1 (by omega)).mono ?_; rintro r u2 ⟨rfl, hb2⟩; have H2 := H1.trans (hb2.mono H1.size); have F10 := F9.below H2
          go_wp2_with fail
          refine hK.out _ _ H2 (fun hHeld => ?_)
          clear hK K
          try simp only [Act.put, List.setIfInBounds_toArray, List.set_cons_zero, List.set_cons_succ]
          refine wpAnyH_ready (rs := [7]) (by kernel_rfl) (by simp) ?_
          refine AllReadyH.cons (o := ⟨_, _, _, _, _, _⟩) rfl (fun K hK => ?_) AllReadyH.nil
          go_simp
          refine (refPath_eo i (lf (acb a)) _ wsp 5 wcap ls _ hl32 (lf_bts _) (hWt.path.below F10.bel) bls (by omega) (by omega)).mono ?_; rintro r u3 ⟨vx, xs, rfl, EX, hxb, hxs, hb3⟩; have H3 := H2.trans (hb3.mono H2.size); have F11 := F10.below hb3; have EK1 := EK.below H3
          go_wp2_with fail
          refine hK.out _ _ H3 (fun hHeld => ?_)
          clear hK K
          try simp only [Act.put, List.setIfInBounds_toArray, List.set_cons_zero, List.set_cons_succ]
          refine wpAnyH_take (i := 8) (oi := ⟨_, _, _, _, _, _⟩) (v := ?_) rfl (by kernel_rfl) (by kernel_rfl) (by kernel_rfl) (fun _ _ _ h => h) (Or.inl ⟨by rfl, ?_⟩) (by assumption) ?_
          rotate_left
          · intro u hSw
            go_simp
            try (with_reducible rfl)
          try simp only [Act.put, List.setIfInBounds_toArray, List.set_cons_zero, List.set_cons_succ]
          refine wpAnyH_take (i := 9) (oi := ⟨_, _, _, _, _, _⟩) (v := ?_) rfl (by kernel_rfl) (by kernel_rfl) (by kernel_rfl) (fun _ _ _ h => h) (Or.inl ⟨by rfl, ?_⟩) (by assumption) ?_
          rotate_left
          · intro u hSw
            go_simp
            try (with_reducible rfl)
          try simp only [Act.put, List.setIfInBounds_toArray, List.set_cons_zero, List.set_cons_succ]
          refine wpAnyH_take (i := 10) (oi := ⟨_, _, _, _, _, _⟩) (v := ?_) rfl (by kernel_rfl) (by kernel_rfl) (by kernel_rfl) (fun _ _ _ h => h) (Or.inl ⟨by rfl, ?_⟩) (by assumption) ?_
          rotate_left
          · intro u hSw
            go_simp
            try (with_reducible rfl)
          try simp only [Act.put, List.setIfInBounds_toArray, List.set_cons_zero, List.set_cons_succ]
          refine wpAnyH_take (i := 11) (oi := ⟨_, _, _, _, _, _⟩) (v := ?_) rfl (by kernel_rfl) (by kernel_rfl) (by kernel_rfl) (fun _ _ _ h => h) (Or.inl ⟨by rfl, ?_⟩) (by assumption) ?_
          rotate_left
          · intro u hSw
            go_simp
            try (with_reducible rfl)
          try simp only [Act.put, List.setIfInBounds_toArray, List.set_cons_zero, List.set_cons_succ]
          refine wpAnyH_take (i := 12) (oi := ⟨_, _, _, _, _, _⟩) (v := ?_) rfl (by kernel_rfl) (by kernel_rfl) (by kernel_rfl) (fun _ _ _ h => h) (Or.inl ⟨by rfl, ?_⟩) (by assumption) ?_
          rotate_left
          · intro u hSw
            go_simp
            try (with_reducible rfl)
          try simp only [Act.put, List.setIfInBounds_toArray, List.set_cons_zero, List.set_cons_succ]
          refine wpAnyH_done (by kernel_rfl) ?_ _
          have hu2 := H2.size
          have hu3 := hb3.size
          obtain ⟨xb, hxbe⟩ : ∃ x, x = u2.heap.size := ⟨_, rfl⟩
          rw [← hxbe] at EX hu2 hu3
          have hxl : xs.length = 5 := by
            have q := congrArg List.length hxb.out
            rw [List.length_map, pth_len, hl5] at q; exact q
          have hF9z := F9.bel.size
          clear H1 H2 H3 hb1 hb2 hb3 F9 F10 own1 S1 EK hxbe
          have hWp := hWt.path
          go_upto_region 10 with fail
          go_cut [16, 17] from 81 to 91 (fun s e wc => ∃ g, s = .pointer (some ⟨g, 0, none⟩) ∧ u3.heap.size ≤ g ∧ Arr wc g 24 (h8 T) ∧ Below u3.heap.size u3 wc)
          case first =>
            refine wp_region_held_drew (S := fun u => Below u3.heap.size u3 u) (by kernel_rfl) ((Below.refl _ _).drew) (fun hHeld => ?_)
            refine wpAnyH_take (i := 0) (oi := ⟨_, _, _, _, _, _⟩) (v := ?_) rfl (by kernel_rfl) (by kernel_rfl) (by kernel_rfl) (fun _ _ _ h => h) (Or.inl ⟨by rfl, ?_⟩) (by assumption) ?_
            rotate_left
            · intro u hSw
              go_simp
              try (with_reducible rfl)
            try simp only [Act.put, List.setIfInBounds_toArray, List.set_cons_zero, List.set_cons_succ]
            refine wpAnyH_take (i := 1) (oi := ⟨_, _, _, _, _, _⟩) (v := ?_) rfl (by kernel_rfl) (by kernel_rfl) (by kernel_rfl) (fun _ _ _ h => h) (Or.inl ⟨by rfl, ?_⟩) (by assumption) ?_
            rotate_left
            · intro u hSw
              go_simp
              try (with_reducible rfl)
            try simp only [Act.put, List.setIfInBounds_toArray, List.set_cons_zero, List.set_cons_succ]
            refine wpAnyH_take (i := 2) (oi := ⟨_, _, _, _, _, _⟩) rfl (by kernel_rfl) (by kernel_rfl) (by kernel_rfl) (fun _ _ _ h => h) (y26 (by rfl) (.tmp 83) rfl b7 0 rfl a ha32 (fun u hu => (F11.a7.bel hu).thA0)) (by assumption) ?_
            try simp only [Act.put, List.setIfInBounds_toArray, List.set_cons_zero, List.set_cons_succ]
            refine wpAnyH_take (i := 5) (oi := ⟨_, _, _, _, _, _⟩) (v := ?_) rfl (by kernel_rfl) (by kernel_rfl) (by kernel_rfl) (fun _ _ _ h => h) (Or.inl ⟨by rfl, ?_⟩) (by assumption) ?_
            rotate_left
            · intro u hSw
              go_simp
              try (with_reducible rfl)
            try simp only [Act.put, List.setIfInBounds_toArray, List.set_cons_zero, List.set_cons_succ]
            refine wpAnyH_take (i := 6) (oi := ⟨_, _, _, _, _, _⟩) (v := ?_) rfl (by kernel_rfl) (by kernel_rfl) (by kernel_rfl) (fun _ _ _ h => h) (Or.inl ⟨by rfl, ?_⟩) (by assumption) ?_
            rotate_left
            · intro u hSw
              have cc : u.cell? ⟨b8, 0, none⟩ = some (.slice wsp 5 wcap) := wt_c0 (F11.a8.bel hSw).wt
              go_simp
              try (with_reducible rfl)
            try simp only [Act.put, List.setIfInBounds_toArray, List.set_cons_zero, List.set_cons_succ]
            have H0 : Below u3.heap.size u3 u3.drew := (Below.refl _ _).drew
            refine wpAnyH_ready (rs := [3, 11]) (by kernel_rfl) (by simp) ?_
            refine AllReadyH.cons (o := ⟨_, _, _, _, _, _⟩) rfl (fun K hK => ?_) (AllReadyH.cons (o := ⟨_, _, _, _, _, _⟩) rfl (fun K hK => ?_) (AllReadyH.nil))
            · go_simp
              refine (refAcBytes_any a _ ha).mono ?_; rintro r y1 ⟨v1, rfl, own1, hb1⟩; obtain ⟨s1, k1, rfl, S1, -⟩ := own_bs own1 abt (by omega)
              have H1 := H0.trans (hb1.mono H0.size)
              go_wp2_with fail
              refine hK.out _ _ H1 (fun hHeld => ?_)
              clear hK K
              try simp only [Act.put, List.setIfInBounds_toArray, List.set_cons_zero, List.set_cons_succ]
              refine wpAnyH_ready (rs := [4, 11]) (by kernel_rfl) (by simp) ?_
              refine AllReadyH.cons (o := ⟨_, _, _, _, _, _⟩) rfl (fun K hK => ?_) (AllReadyH.cons (o := ⟨_, _, _, _, _, _⟩) rfl (fun K hK => ?_) (AllReadyH.nil))
              · go_simp
                refine (refLeaf_bs s1 48 k1 _ (acb a) _ S1 (by omega)).mono ?_; rintro r y2 ⟨rfl, hb2⟩
                have H2 := H1.trans (hb2.mono H1.size)
                go_wp2_with fail
                refine hK.out _ _ H2 (fun hHeld => ?_)
                clear hK K
                try simp only [Act.put, List.setIfInBounds_toArray, List.set_cons_zero, List.set_cons_succ]
                refine wpAnyH_ready (rs := [7, 11]) (by kernel_rfl) (by simp) ?_
                refine AllReadyH.cons (o := ⟨_, _, _, _, _, _⟩) rfl (fun K hK => ?_) (AllReadyH.cons (o := ⟨_, _, _, _, _, _⟩) rfl (fun K hK => ?_) (AllReadyH.nil))
                · go_simp
                  refine (refFold_c (N := w.heap.size) hl32 (hWp.below (F11.bel.trans (H2.mono F11.bel.size))) hi32 hT).mono ?_; rintro r y3 ⟨rfl, hb3⟩
                  have H3 := H2.trans (hb3.mono H2.size)
                  go_wp2_with fail
                  refine hK.out _ _ H3 (fun hHeld => ?_)
                  clear hK K
                  try simp only [Act.put, List.setIfInBounds_toArray, List.set_cons_zero, List.set_cons_succ]
                  refine wpAnyH_take (i := 8) (oi := ⟨_, _, _, _, _, _⟩) (v := ?_) rfl (by kernel_rfl) (by kernel_rfl) (by kernel_rfl) (fun _ _ _ h => h) (Or.inl ⟨by rfl, ?_⟩) (by assumption) ?_
                  rotate_left
                  · intro u hSw
                    go_simp
                    try (with_reducible rfl)
                  try simp only [Act.put, List.setIfInBounds_toArray, List.set_cons_zero, List.set_cons_succ]
                  refine wpAnyH_take (i := 9) (oi := ⟨_, _, _, _, _, _⟩) (v := ?_) rfl (by kernel_rfl) (by kernel_rfl) (by kernel_rfl) (fun _ _ _ h => h) (Or.inl ⟨by rfl, ?_⟩) (by assumption) ?_
                  rotate_left
                  · intro u hSw
                    go_simp
                    try (with_reducible rfl)
                  try simp only [Act.put, List.setIfInBounds_toArray, List.set_cons_zero, List.set_cons_succ]
                  refine wpAnyH_take (i := 10) (oi := ⟨_, _, _, _, _, _⟩) (v := ?_) rfl (by kernel_rfl) (by kernel_rfl) (by kernel_rfl) (fun _ _ _ h => h) (Or.inl ⟨by rfl, ?_⟩) (by assumption) ?_
                  rotate_left
                  · intro u hSw
                    go_simp
                    try (with_reducible rfl)
                  try simp only [Act.put, List.setIfInBounds_toArray, List.set_cons_zero, List.set_cons_succ]
                  refine wpAnyH_ready (rs := [11]) (by kernel_rfl) (by simp) ?_
                  refine AllReadyH.cons (o := ⟨_, _, _, _, _, _⟩) rfl (fun K hK => ?_) (AllReadyH.nil)
                  · go_simp
                    go_wp2_with fail
                    rw [← h8_Z]
                    have H4 := H3.alloc H3.size (.cells (h8 Z32) 24)
                    have hs4 : y3.heap.size = y3.heap.size := by simp
                    have le4 : u3.heap.size ≤ y3.heap.size := by rw [← hs4]; exact H3.size
                    have h_4 : Arr (y3.alloc (.cells (h8 Z32) 24)) (y3.heap.size) 24 (h8 Z32) := by have q := Arr.new y3 24 (h8 Z32); rw [hs4] at q; exact q
                    refine hK.out _ _ H4 (fun hHeld => ?_)
                    clear hK K
                    try simp only [Act.put, List.setIfInBounds_toArray, List.set_cons_zero, List.set_cons_succ]
                    refine wpAnyH_ready (rs := [12]) (by kernel_rfl) (by simp) ?_
                    refine AllReadyH.cons (o := ⟨_, _, _, _, _, _⟩) rfl (fun K hK => ?_) AllReadyH.nil
                    refine step_want rfl (wp_store_row 24 (.tmp 16) (.tmp 90) rfl (y3.heap.size) (h8 T) rfl rfl 24 _ h_4 (s24h8 hT32) (by rw [h8_size, h8_size, hT32, Z32_len]) (h8_one T) ?_)
                    have HS := below_setRow H4 le4 (h8 T)
                    have hs := Arr.setRow h_4 (h8 T)
                    refine hK.out _ _ HS (fun hHeld => ?_)
                    clear hK K
                    try simp only [Act.put, List.setIfInBounds_toArray, List.set_cons_zero, List.set_cons_succ]
                    refine wpAnyH_take (i := 13) (oi := ⟨_, _, _, _, _, _⟩) (v := ?_) rfl (by kernel_rfl) (by kernel_rfl) (by kernel_rfl) (fun _ _ _ h => h) (Or.inl ⟨by rfl, ?_⟩) (by assumption) ?_
                    rotate_left
                    · intro u hSw
                      go_simp
                      try (with_reducible rfl)
                    try simp only [Act.put, List.setIfInBounds_toArray, List.set_cons_zero, List.set_cons_succ]
                    refine wpAnyH_done (by kernel_rfl) ?_ _
                    go_wp2_with fail
                    go_meet
                    exact ⟨_, rfl, le4, hs, HS⟩
                · go_simp
                  go_wp2_with fail
                  rw [← h8_Z]
                  have H3 := H2.alloc H2.size (.cells (h8 Z32) 24)
                  have hs3 : y2.heap.size = y2.heap.size := by simp
                  have le4 : u3.heap.size ≤ y2.heap.size := by rw [← hs3]; exact H2.size
                  have h_3 : Arr (y2.alloc (.cells (h8 Z32) 24)) (y2.heap.size) 24 (h8 Z32) := by have q := Arr.new y2 24 (h8 Z32); rw [hs3] at q; exact q
                  refine hK.out _ _ H3 (fun hHeld => ?_)
                  clear hK K
                  try simp only [Act.put, List.setIfInBounds_toArray, List.set_cons_zero, List.set_cons_succ]
                  refine wpAnyH_ready (rs := [7]) (by kernel_rfl) (by simp) ?_
                  refine AllReadyH.cons (o := ⟨_, _, _, _, _, _⟩) rfl (fun K hK => ?_) (AllReadyH.nil)
                  · go_simp
                    refine (refFold_c (N := w.heap.size) hl32 (hWp.below (F11.bel.trans (H3.mono F11.bel.size))) hi32 hT).mono ?_; rintro r y4 ⟨rfl, hb4⟩
                    have H4 := H3.trans (hb4.mono H3.size)
                    have h_4 := Arr.bel h_3 hb4
                    go_wp2_with fail
                    refine hK.out _ _ H4 (fun hHeld => ?_)
                    clear hK K
                    try simp only [Act.put, List.setIfInBounds_toArray, List.set_cons_zero, List.set_cons_succ]
                    refine wpAnyH_take (i := 8) (oi := ⟨_, _, _, _, _, _⟩) (v := ?_) rfl (by kernel_rfl) (by kernel_rfl) (by kernel_rfl) (fun _ _ _ h => h) (Or.inl ⟨by rfl, ?_⟩) (by assumption) ?_
                    rotate_left
                    · intro u hSw
                      go_simp
                      try (with_reducible rfl)
                    try simp only [Act.put, List.setIfInBounds_toArray, List.set_cons_zero, List.set_cons_succ]
                    refine wpAnyH_take (i := 9) (oi := ⟨_, _, _, _, _, _⟩) (v := ?_) rfl (by kernel_rfl) (by kernel_rfl) (by kernel_rfl) (fun _ _ _ h => h) (Or.inl ⟨by rfl, ?_⟩) (by assumption) ?_
                    rotate_left
                    · intro u hSw
                      go_simp
                      try (with_reducible rfl)
                    try simp only [Act.put, List.setIfInBounds_toArray, List.set_cons_zero, List.set_cons_succ]
                    refine wpAnyH_take (i := 10) (oi := ⟨_, _, _, _, _, _⟩) (v := ?_) rfl (by kernel_rfl) (by kernel_rfl) (by kernel_rfl) (fun _ _ _ h => h) (Or.inl ⟨by rfl, ?_⟩) (by assumption) ?_
                    rotate_left
                    · intro u hSw
                      go_simp
                      try (with_reducible rfl)
                    try simp only [Act.put, List.setIfInBounds_toArray, List.set_cons_zero, List.set_cons_succ]
                    refine wpAnyH_ready (rs := [12]) (by kernel_rfl) (by simp) ?_
                    refine AllReadyH.cons (o := ⟨_, _, _, _, _, _⟩) rfl (fun K hK => ?_) AllReadyH.nil
                    refine step_want rfl (wp_store_row 24 (.tmp 16) (.tmp 90) rfl (y2.heap.size) (h8 T) rfl rfl 24 _ h_4 (s24h8 hT32) (by rw [h8_size, h8_size, hT32, Z32_len]) (h8_one T) ?_)
                    have HS := below_setRow H4 le4 (h8 T)
                    have hs := Arr.setRow h_4 (h8 T)
                    refine hK.out _ _ HS (fun hHeld => ?_)
                    clear hK K
                    try simp only [Act.put, List.setIfInBounds_toArray, List.set_cons_zero, List.set_cons_succ]
                    refine wpAnyH_take (i := 13) (oi := ⟨_, _, _, _, _, _⟩) (v := ?_) rfl (by kernel_rfl) (by kernel_rfl) (by kernel_rfl) (fun _ _ _ h => h) (Or.inl ⟨by rfl, ?_⟩) (by assumption) ?_
                    rotate_left
                    · intro u hSw
                      go_simp
                      try (with_reducible rfl)
                    try simp only [Act.put, List.setIfInBounds_toArray, List.set_cons_zero, List.set_cons_succ]
                    refine wpAnyH_done (by kernel_rfl) ?_ _
                    go_wp2_with fail
                    go_meet
                    exact ⟨_, rfl, le4, hs, HS⟩
              · go_simp
                go_wp2_with fail
                rw [← h8_Z]
                have H2 := H1.alloc H1.size (.cells (h8 Z32) 24)
                have hs2 : y1.heap.size = y1.heap.size := by simp
                have le4 : u3.heap.size ≤ y1.heap.size := by rw [← hs2]; exact H1.size
                have h_2 : Arr (y1.alloc (.cells (h8 Z32) 24)) (y1.heap.size) 24 (h8 Z32) := by have q := Arr.new y1 24 (h8 Z32); rw [hs2] at q; exact q
                replace S1 := (S1.below (alloc_bel' y1 (.cells (h8 Z32) 24))).mono (alloc_bel' y1 (.cells (h8 Z32) 24)).size
                refine hK.out _ _ H2 (fun hHeld => ?_)
                clear hK K
                try simp only [Act.put, List.setIfInBounds_toArray, List.set_cons_zero, List.set_cons_succ]
                refine wpAnyH_ready (rs := [4]) (by kernel_rfl) (by simp) ?_
                refine AllReadyH.cons (o := ⟨_, _, _, _, _, _⟩) rfl (fun K hK => ?_) (AllReadyH.nil)
                · go_simp
                  refine (refLeaf_bs s1 48 k1 _ (acb a) _ S1 (by omega)).mono ?_; rintro r y3 ⟨rfl, hb3⟩
                  have H3 := H2.trans (hb3.mono H2.size)
                  have h_3 := Arr.bel h_2 hb3
                  go_wp2_with fail
                  refine hK.out _ _ H3 (fun hHeld => ?_)
                  clear hK K
                  try simp only [Act.put, List.setIfInBounds_toArray, List.set_cons_zero, List.set_cons_succ]
                  refine wpAnyH_ready (rs := [7]) (by kernel_rfl) (by simp) ?_
                  refine AllReadyH.cons (o := ⟨_, _, _, _, _, _⟩) rfl (fun K hK => ?_) (AllReadyH.nil)
                  · go_simp
                    refine (refFold_c (N := w.heap.size) hl32 (hWp.below (F11.bel.trans (H3.mono F11.bel.size))) hi32 hT).mono ?_; rintro r y4 ⟨rfl, hb4⟩
                    have H4 := H3.trans (hb4.mono H3.size)
                    have h_4 := Arr.bel h_3 hb4
                    go_wp2_with fail
                    refine hK.out _ _ H4 (fun hHeld => ?_)
                    clear hK K
                    try simp only [Act.put, List.setIfInBounds_toArray, List.set_cons_zero, List.set_cons_succ]
                    refine wpAnyH_take (i := 8) (oi := ⟨_, _, _, _, _, _⟩) (v := ?_) rfl (by kernel_rfl) (by kernel_rfl) (by kernel_rfl) (fun _ _ _ h => h) (Or.inl ⟨by rfl, ?_⟩) (by assumption) ?_
                    rotate_left
                    · intro u hSw
                      go_simp
                      try (with_reducible rfl)
                    try simp only [Act.put, List.setIfInBounds_toArray, List.set_cons_zero, List.set_cons_succ]
                    refine wpAnyH_take (i := 9) (oi := ⟨_, _, _, _, _, _⟩) (v := ?_) rfl (by kernel_rfl) (by kernel_rfl) (by kernel_rfl) (fun _ _ _ h => h) (Or.inl ⟨by rfl, ?_⟩) (by assumption) ?_
                    rotate_left
                    · intro u hSw
                      go_simp
                      try (with_reducible rfl)
                    try simp only [Act.put, List.setIfInBounds_toArray, List.set_cons_zero, List.set_cons_succ]
                    refine wpAnyH_take (i := 10) (oi := ⟨_, _, _, _, _, _⟩) (v := ?_) rfl (by kernel_rfl) (by kernel_rfl) (by kernel_rfl) (fun _ _ _ h => h) (Or.inl ⟨by rfl, ?_⟩) (by assumption) ?_
                    rotate_left
                    · intro u hSw
                      go_simp
                      try (with_reducible rfl)
                    try simp only [Act.put, List.setIfInBounds_toArray, List.set_cons_zero, List.set_cons_succ]
                    refine wpAnyH_ready (rs := [12]) (by kernel_rfl) (by simp) ?_
                    refine AllReadyH.cons (o := ⟨_, _, _, _, _, _⟩) rfl (fun K hK => ?_) AllReadyH.nil
                    refine step_want rfl (wp_store_row 24 (.tmp 16) (.tmp 90) rfl (y1.heap.size) (h8 T) rfl rfl 24 _ h_4 (s24h8 hT32) (by rw [h8_size, h8_size, hT32, Z32_len]) (h8_one T) ?_)
                    have HS := below_setRow H4 le4 (h8 T)
                    have hs := Arr.setRow h_4 (h8 T)
                    refine hK.out _ _ HS (fun hHeld => ?_)
                    clear hK K
                    try simp only [Act.put, List.setIfInBounds_toArray, List.set_cons_zero, List.set_cons_succ]
                    refine wpAnyH_take (i := 13) (oi := ⟨_, _, _, _, _, _⟩) (v := ?_) rfl (by kernel_rfl) (by kernel_rfl) (by kernel_rfl) (fun _ _ _ h => h) (Or.inl ⟨by rfl, ?_⟩) (by assumption) ?_
                    rotate_left
                    · intro u hSw
                      go_simp
                      try (with_reducible rfl)
                    try simp only [Act.put, List.setIfInBounds_toArray, List.set_cons_zero, List.set_cons_succ]
                    refine wpAnyH_done (by kernel_rfl) ?_ _
                    go_wp2_with fail
                    go_meet
                    exact ⟨_, rfl, le4, hs, HS⟩
            · go_simp
              go_wp2_with fail
              rw [← h8_Z]
              have H1 := H0.alloc H0.size (.cells (h8 Z32) 24)
              have hs1 : u3.drew.heap.size = u3.heap.size := by simp
              have le4 : u3.heap.size ≤ u3.heap.size := by rw [← hs1]; exact H0.size
              have h_1 : Arr (u3.drew.alloc (.cells (h8 Z32) 24)) (u3.heap.size) 24 (h8 Z32) := by have q := Arr.new u3.drew 24 (h8 Z32); rw [hs1] at q; exact q
              refine hK.out _ _ H1 (fun hHeld => ?_)
              clear hK K
              try simp only [Act.put, List.setIfInBounds_toArray, List.set_cons_zero, List.set_cons_succ]
              refine wpAnyH_ready (rs := [3]) (by kernel_rfl) (by simp) ?_
              refine AllReadyH.cons (o := ⟨_, _, _, _, _, _⟩) rfl (fun K hK => ?_) (AllReadyH.nil)
              · go_simp
                refine (refAcBytes_any a _ ha).mono ?_; rintro r y2 ⟨v1, rfl, own1, hb2⟩; obtain ⟨s1, k1, rfl, S1, -⟩ := own_bs own1 abt (by omega)
                have H2 := H1.trans (hb2.mono H1.size)
                have h_2 := Arr.bel h_1 hb2
                go_wp2_with fail
                refine hK.out _ _ H2 (fun hHeld => ?_)
                clear hK K
                try simp only [Act.put, List.setIfInBounds_toArray, List.set_cons_zero, List.set_cons_succ]
                refine wpAnyH_ready (rs := [4]) (by kernel_rfl) (by simp) ?_
                refine AllReadyH.cons (o := ⟨_, _, _, _, _, _⟩) rfl (fun K hK => ?_) (AllReadyH.nil)
                · go_simp
                  refine (refLeaf_bs s1 48 k1 _ (acb a) _ S1 (by omega)).mono ?_; rintro r y3 ⟨rfl, hb3⟩
                  have H3 := H2.trans (hb3.mono H2.size)
                  have h_3 := Arr.bel h_2 hb3
                  go_wp2_with fail
                  refine hK.out _ _ H3 (fun hHeld => ?_)
                  clear hK K
                  try simp only [Act.put, List.setIfInBounds_toArray, List.set_cons_zero, List.set_cons_succ]
                  refine wpAnyH_ready (rs := [7]) (by kernel_rfl) (by simp) ?_
                  refine AllReadyH.cons (o := ⟨_, _, _, _, _, _⟩) rfl (fun K hK => ?_) (AllReadyH.nil)
                  · go_simp
                    refine (refFold_c (N := w.heap.size) hl32 (hWp.below (F11.bel.trans (H3.mono F11.bel.size))) hi32 hT).mono ?_; rintro r y4 ⟨rfl, hb4⟩
                    have H4 := H3.trans (hb4.mono H3.size)
                    have h_4 := Arr.bel h_3 hb4
                    go_wp2_with fail
                    refine hK.out _ _ H4 (fun hHeld => ?_)
                    clear hK K
                    try simp only [Act.put, List.setIfInBounds_toArray, List.set_cons_zero, List.set_cons_succ]
                    refine wpAnyH_take (i := 8) (oi := ⟨_, _, _, _, _, _⟩) (v := ?_) rfl (by kernel_rfl) (by kernel_rfl) (by kernel_rfl) (fun _ _ _ h => h) (Or.inl ⟨by rfl, ?_⟩) (by assumption) ?_
                    rotate_left
                    · intro u hSw
                      go_simp
                      try (with_reducible rfl)
                    try simp only [Act.put, List.setIfInBounds_toArray, List.set_cons_zero, List.set_cons_succ]
                    refine wpAnyH_take (i := 9) (oi := ⟨_, _, _, _, _, _⟩) (v := ?_) rfl (by kernel_rfl) (by kernel_rfl) (by kernel_rfl) (fun _ _ _ h => h) (Or.inl ⟨by rfl, ?_⟩) (by assumption) ?_
                    rotate_left
                    · intro u hSw
                      go_simp
                      try (with_reducible rfl)
                    try simp only [Act.put, List.setIfInBounds_toArray, List.set_cons_zero, List.set_cons_succ]
                    refine wpAnyH_take (i := 10) (oi := ⟨_, _, _, _, _, _⟩) (v := ?_) rfl (by kernel_rfl) (by kernel_rfl) (by kernel_rfl) (fun _ _ _ h => h) (Or.inl ⟨by rfl, ?_⟩) (by assumption) ?_
                    rotate_left
                    · intro u hSw
                      go_simp
                      try (with_reducible rfl)
                    try simp only [Act.put, List.setIfInBounds_toArray, List.set_cons_zero, List.set_cons_succ]
                    refine wpAnyH_ready (rs := [12]) (by kernel_rfl) (by simp) ?_
                    refine AllReadyH.cons (o := ⟨_, _, _, _, _, _⟩) rfl (fun K hK => ?_) AllReadyH.nil
                    refine step_want rfl (wp_store_row 24 (.tmp 16) (.tmp 90) rfl (u3.heap.size) (h8 T) rfl rfl 24 _ h_4 (s24h8 hT32) (by rw [h8_size, h8_size, hT32, Z32_len]) (h8_one T) ?_)
                    have HS := below_setRow H4 le4 (h8 T)
                    have hs := Arr.setRow h_4 (h8 T)
                    refine hK.out _ _ HS (fun hHeld => ?_)
                    clear hK K
                    try simp only [Act.put, List.setIfInBounds_toArray, List.set_cons_zero, List.set_cons_succ]
                    refine wpAnyH_take (i := 13) (oi := ⟨_, _, _, _, _, _⟩) (v := ?_) rfl (by kernel_rfl) (by kernel_rfl) (by kernel_rfl) (fun _ _ _ h => h) (Or.inl ⟨by rfl, ?_⟩) (by assumption) ?_
                    rotate_left
                    · intro u hSw
                      go_simp
                      try (with_reducible rfl)
                    try simp only [Act.put, List.setIfInBounds_toArray, List.set_cons_zero, List.set_cons_succ]
                    refine wpAnyH_done (by kernel_rfl) ?_ _
                    go_wp2_with fail
                    go_meet
                    exact ⟨_, rfl, le4, hs, HS⟩
          case' rest =>
            obtain ⟨g16, rfl, hg16, A16, hbc⟩ := hcut
            have F12 := F11.below hbc
            have EK2 := EK1.below hbc
            have EX2 := EX.below hbc
            have hwc := hbc.size
            have hwcx := EX2.own
            clear F11 EK1 EX
          obtain ⟨wC, hwC⟩ : ∃ x, x = wc := ⟨_, rfl⟩
          subst hwC
          have rT := F12.a7.thA0
          have lt7 := F12.a7.lt
          have hbt0 : Bts ([0] ++ acb a) := Bts.zero abt
          have lt16 := A16.lt
          go_upto_region 11 with fail
          go_cut [14] from 92 to 104 (fun v wc => ∃ v', ∃ u, ∃ e : En, v' = v ∧ Below wC.heap.size wC u ∧ u.grownBy wc vx.ownBlock ∧ EO (xb + 1) xb wc v' (xs ++ [e]) ∧ Hid (e.bs = 0 :: acb a ∧ e.sm = shl e.bs))
          case first =>
            refine wp_region_held_drew (S := fun u => u.rangeAt b7 0 a.cells) (by kernel_rfl) (by simpa using rT) (fun hHeld => ?_)
            refine wpAnyH_take (i := 0) (oi := ⟨_, _, _, _, _, _⟩) (v := ?_) rfl (by kernel_rfl) (by kernel_rfl) (by kernel_rfl) (fun _ _ _ h => h) (Or.inl ⟨by rfl, ?_⟩) (by assumption) ?_
            rotate_left
            · intro u hSw
              go_simp
              try (with_reducible rfl)
            try simp only [Act.put, List.setIfInBounds_toArray, List.set_cons_zero, List.set_cons_succ]
            refine wpAnyH_take (i := 2) (oi := ⟨_, _, _, _, _, _⟩) (v := ?_) rfl (by kernel_rfl) (by kernel_rfl) (by kernel_rfl) (fun _ _ _ h => h) (Or.inl ⟨by rfl, ?_⟩) (by assumption) ?_
            rotate_left
            · intro u hSw
              go_simp
              try (with_reducible rfl)
            try simp only [Act.put, List.setIfInBounds_toArray, List.set_cons_zero, List.set_cons_succ]
            refine wpAnyH_take (i := 3) (oi := ⟨_, _, _, _, _, _⟩) rfl (by kernel_rfl) (by kernel_rfl) (by kernel_rfl) (fun _ _ _ h => h) (y26 (by rfl) (.tmp 94) rfl b7 0 rfl a ha32 (fun u hu => hu)) (by assumption) ?_
            try simp only [Act.put, List.setIfInBounds_toArray, List.set_cons_zero, List.set_cons_succ]
            refine wpAnyH_take (i := 6) (oi := ⟨_, _, _, _, _, _⟩) (v := ?_) rfl (by kernel_rfl) (by kernel_rfl) (by kernel_rfl) (fun _ _ _ h => h) (Or.inl ⟨by rfl, ?_⟩) (by assumption) ?_
            rotate_left
            · intro u hSw
              go_simp
              try (with_reducible rfl)
            try simp only [Act.put, List.setIfInBounds_toArray, List.set_cons_zero, List.set_cons_succ]
            refine wpAnyH_take (i := 7) (oi := ⟨_, _, _, _, _, _⟩) rfl (by kernel_rfl) (by kernel_rfl) (by kernel_rfl) (fun _ _ _ h => h) (y26 (by rfl) (.tmp 98) rfl b7 0 rfl a ha32 (fun u hu => hu)) (by assumption) ?_
            try simp only [Act.put, List.setIfInBounds_toArray, List.set_cons_zero, List.set_cons_succ]
            have H0 : Below wC.heap.size wC wC.drew := (Below.refl _ _).drew
            refine wpAnyH_ready (rs := [1, 4]) (by kernel_rfl) (by simp) ?_
            refine AllReadyH.cons (o := ⟨_, _, _, _, _, _⟩) rfl (fun K hK => ?_) (AllReadyH.cons (o := ⟨_, _, _, _, _, _⟩) rfl (fun K hK => ?_) (AllReadyH.nil))
            · have H1 := H0.alloc H0.size (.cells #[.int .u8 0] 5)
              have ow0 : (wC.drew.alloc (.cells #[.int .u8 0] 5)).ownsRow wC.heap.size 5 1 (.slice (some ⟨wC.heap.size, 0, none⟩) 1 1) 1 (by8 [0]) := World.ownsRow_lit wC.drew _ _ (Nat.le_refl _) (by unfold maxLen; omega) rfl
              go_simp
              go_wp2_with fail
              refine hK.out _ _ (range_below rT H1 lt7) (fun hHeld => ?_)
              clear hK K
              try simp only [Act.put, List.setIfInBounds_toArray, List.set_cons_zero, List.set_cons_succ]
              refine wpAnyH_ready (rs := [4]) (by kernel_rfl) (by simp) ?_
              refine AllReadyH.cons (o := ⟨_, _, _, _, _, _⟩) rfl (fun K hK => ?_) (AllReadyH.nil)
              go_simp
              refine (refAcBytes_any a _ ha).mono ?_; rintro r u4 ⟨v4, rfl, own4, hb4⟩
              have H4 := H1.trans (hb4.mono H1.size)
              obtain ⟨s4, k4, rfl, S4, -⟩ := own_bs own4 abt (by omega)
              go_wp2_with fail
              refine hK.out _ _ (range_below rT H4 lt7) (fun hHeld => ?_)
              clear hK K
              try simp only [Act.put, List.setIfInBounds_toArray, List.set_cons_zero, List.set_cons_succ]
              have ow1 := own_same ow0 (fun k hk => hb4.block k (own_lt ow0 hk))
              have S4' := S4
              have HL := H4
              refine wpAnyH_ready (rs := [5]) (by kernel_rfl) (by simp) ?_
              refine AllReadyH.cons (o := ⟨_, _, _, _, _, _⟩) rfl (fun K hK => ?_) (AllReadyH.nil)
              refine step_append_bytes rfl (.tmp 93) (.tmp 96) rfl wC.heap.size _ 1 [0] rfl ow1 s4 48 k4 (acb a) rfl S4'.len.out S4'.nil S4'.sl (by omega) HL.size ?_; intro v5 u5 own5 g5
              have H5 := HL.grown g5 HL.size (fun k e => own_ge ow1 k e)
              obtain ⟨sp5, cp5, rfl, S5, hsp5⟩ := own_bs own5 hbt0 (by omega)
              refine hK.out _ _ (range_below rT H5 lt7) (fun hHeld => ?_)
              clear hK K
              try simp only [Act.put, List.setIfInBounds_toArray, List.set_cons_zero, List.set_cons_succ]
              refine wpAnyH_ready (rs := [8]) (by kernel_rfl) (by simp) ?_
              refine AllReadyH.cons (o := ⟨_, _, _, _, _, _⟩) rfl (fun K hK => ?_) (AllReadyH.nil)
              go_simp
              refine (refAcBytes_any a _ ha).mono ?_; rintro r u6 ⟨v6, rfl, own6, hb6⟩
              have H6 := H5.trans (hb6.mono H5.size)
              have S6 := S5.below hb6
              obtain ⟨s6, k6, rfl, R6, -⟩ := own_bs own6 abt (by omega)
              have z6 := hb6.size
              go_wp2_with fail
              refine hK.out _ _ (range_below rT H6 lt7) (fun hHeld => ?_)
              clear hK K
              try simp only [Act.put, List.setIfInBounds_toArray, List.set_cons_zero, List.set_cons_succ]
              refine wpAnyH_ready (rs := [9]) (by kernel_rfl) (by simp) ?_
              refine AllReadyH.cons (o := ⟨_, _, _, _, _, _⟩) rfl (fun K hK => ?_) (AllReadyH.nil)
              go_simp
              refine (refLeaf_bs s6 48 k6 _ (acb a) _ R6 (by omega)).mono ?_; rintro r u7 ⟨rfl, hb7⟩
              have H7 := H6.trans (hb7.mono H6.size)
              have S7 := S6.below (hb7.mono z6)
              have z7 := hb7.size
              go_wp2_with fail
              refine hK.out _ _ (range_below rT H7 lt7) (fun hHeld => ?_)
              clear hK K
              try simp only [Act.put, List.setIfInBounds_toArray, List.set_cons_zero, List.set_cons_succ]
              refine wpAnyH_take (i := 10) (oi := ⟨_, _, _, _, _, _⟩) rfl (by kernel_rfl) (by kernel_rfl) (by kernel_rfl) (fun _ _ _ h => h) (y_bd (by rfl) 77 _ rfl (by rfl) (built54 sp5 (1 + 48) cp5 (lf (acb a)) hl32 (0 :: acb a))) (by assumption) ?_
              try simp only [Act.put, List.setIfInBounds_toArray, List.set_cons_zero, List.set_cons_succ]
              have H8 := H7.alloc H7.size (.cells (En.arr ⟨sp5, 1 + 48, cp5, 0 :: acb a, lf (acb a)⟩) 77)
              have a8 := alloc_bel' u7 (.cells (En.arr ⟨sp5, 1 + 48, cp5, 0 :: acb a, lf (acb a)⟩) 77)
              refine wpAnyH_ready (rs := [11]) (by kernel_rfl) (by simp) ?_
              refine AllReadyH.cons (o := ⟨_, _, _, _, _, _⟩) rfl (fun K hK => ?_) AllReadyH.nil
              refine step_want rfl (wp_bldE (.tmp 102) rfl ⟨sp5, 1 + 48, cp5, 0 :: acb a, lf (acb a)⟩ rfl hl32 ?_)
              refine hK.out _ _ (range_below rT H8 lt7) (fun hHeld => ?_)
              clear hK K
              try simp only [Act.put, List.setIfInBounds_toArray, List.set_cons_zero, List.set_cons_succ]
              have E8 := EX2.below H8
              have S8 := S7.below (a8.mono (by have := hb6.size; omega))
              have ok8 : EnOK (u7.alloc (.cells (En.arr ⟨sp5, 1 + 48, cp5, 0 :: acb a, lf (acb a)⟩) 77)).heap.size (u7.alloc (.cells (En.arr ⟨sp5, 1 + 48, cp5, 0 :: acb a, lf (acb a)⟩) 77)) ⟨sp5, 1 + 48, cp5, 0 :: acb a, lf (acb a)⟩ := ⟨S8.mono (by simp; omega), hl32⟩
              have ap8 := apart (base := xb + 1) (ax := xb) (v := vx) S8 (by omega) (M := wC.heap.size) (fun g off e => (hsp5 g off e).1) (fun k hk => own_lt EX2.own hk) (by omega) (by omega) (K := (u7.alloc (.cells (En.arr ⟨sp5, 1 + 48, cp5, 0 :: acb a, lf (acb a)⟩) 77)).heap.size) (by simp; omega)
              refine wpAnyH_ready (rs := [12]) (by kernel_rfl) (by simp) ?_
              refine AllReadyH.cons (o := ⟨_, _, _, _, _, _⟩) rfl (fun K hK => ?_) (AllReadyH.nil)
              refine step_want rfl (wp_appE (.tmp 92) (.tmp 103) rfl (xb + 1) xb vx xs ⟨sp5, 1 + 48, cp5, 0 :: acb a, lf (acb a)⟩ rfl E8 u7.heap.size 1 rfl (Arr.new u7 77 _) ok8 ap8 (by omega) (by have := H8.size; omega) ?_)
              intro v12 u8 E12 g12 h12
              have R12 : u8.rangeAt b7 0 a.cells := ((F12.a7.bel H8).grown g12 (fun e => own_arr_ne E8.own (F12.a7.bel H8) (by decide) e.symm)).thA0
              refine hK.out _ _ R12 (fun hHeld => ?_)
              clear hK K
              try simp only [Act.put, List.setIfInBounds_toArray, List.set_cons_zero, List.set_cons_succ]
              refine wpAnyH_take (i := 13) (oi := ⟨_, _, _, _, _, _⟩) (v := ?_) rfl (by kernel_rfl) (by kernel_rfl) (by kernel_rfl) (fun _ _ _ h => h) (Or.inl ⟨by rfl, ?_⟩) (by assumption) ?_
              rotate_left
              · intro u hSw
                go_simp
                try (with_reducible rfl)
              try simp only [Act.put, List.setIfInBounds_toArray, List.set_cons_zero, List.set_cons_succ]
              refine wpAnyH_done (by kernel_rfl) ?_ _
              go_wp2_with fail
              go_meet
              exact ⟨v12, _, _, rfl, H8, g12, E12, Hid.mk' ⟨rfl, rfl⟩⟩
            · go_simp
              refine (refAcBytes_any a _ ha).mono ?_; rintro r u4 ⟨v4, rfl, own4, hb4⟩
              have H4 := H0.trans (hb4.mono H0.size)
              obtain ⟨s4, k4, rfl, S4, -⟩ := own_bs own4 abt (by omega)
              go_wp2_with fail
              refine hK.out _ _ (range_below rT H4 lt7) (fun hHeld => ?_)
              clear hK K
              try simp only [Act.put, List.setIfInBounds_toArray, List.set_cons_zero, List.set_cons_succ]
              refine wpAnyH_ready (rs := [1]) (by kernel_rfl) (by simp) ?_
              refine AllReadyH.cons (o := ⟨_, _, _, _, _, _⟩) rfl (fun K hK => ?_) (AllReadyH.nil)
              have HL := H4.alloc H4.size (.cells #[.int .u8 0] 5)
              have ow1 : (u4.alloc (.cells #[.int .u8 0] 5)).ownsRow wC.heap.size 5 1 (.slice (some ⟨u4.heap.size, 0, none⟩) 1 1) 1 (by8 [0]) := World.ownsRow_lit u4 _ _ H4.size (by unfold maxLen; omega) rfl
              have S4' := S4.below (alloc_bel' u4 (.cells #[.int .u8 0] 5))
              go_simp
              go_wp2_with fail
              refine hK.out _ _ (range_below rT HL lt7) (fun hHeld => ?_)
              clear hK K
              try simp only [Act.put, List.setIfInBounds_toArray, List.set_cons_zero, List.set_cons_succ]
              refine wpAnyH_ready (rs := [5]) (by kernel_rfl) (by simp) ?_
              refine AllReadyH.cons (o := ⟨_, _, _, _, _, _⟩) rfl (fun K hK => ?_) (AllReadyH.nil)
              refine step_append_bytes rfl (.tmp 93) (.tmp 96) rfl wC.heap.size _ 1 [0] rfl ow1 s4 48 k4 (acb a) rfl S4'.len.out S4'.nil S4'.sl (by omega) HL.size ?_; intro v5 u5 own5 g5
              have H5 := HL.grown g5 HL.size (fun k e => own_ge ow1 k e)
              obtain ⟨sp5, cp5, rfl, S5, hsp5⟩ := own_bs own5 hbt0 (by omega)
              refine hK.out _ _ (range_below rT H5 lt7) (fun hHeld => ?_)
              clear hK K
              try simp only [Act.put, List.setIfInBounds_toArray, List.set_cons_zero, List.set_cons_succ]
              refine wpAnyH_ready (rs := [8]) (by kernel_rfl) (by simp) ?_
              refine AllReadyH.cons (o := ⟨_, _, _, _, _, _⟩) rfl (fun K hK => ?_) (AllReadyH.nil)
              go_simp
              refine (refAcBytes_any a _ ha).mono ?_; rintro r u6 ⟨v6, rfl, own6, hb6⟩
              have H6 := H5.trans (hb6.mono H5.size)
              have S6 := S5.below hb6
              obtain ⟨s6, k6, rfl, R6, -⟩ := own_bs own6 abt (by omega)
              have z6 := hb6.size
              go_wp2_with fail
              refine hK.out _ _ (range_below rT H6 lt7) (fun hHeld => ?_)
              clear hK K
              try simp only [Act.put, List.setIfInBounds_toArray, List.set_cons_zero, List.set_cons_succ]
              refine wpAnyH_ready (rs := [9]) (by kernel_rfl) (by simp) ?_
              refine AllReadyH.cons (o := ⟨_, _, _, _, _, _⟩) rfl (fun K hK => ?_) (AllReadyH.nil)
              go_simp
              refine (refLeaf_bs s6 48 k6 _ (acb a) _ R6 (by omega)).mono ?_; rintro r u7 ⟨rfl, hb7⟩
              have H7 := H6.trans (hb7.mono H6.size)
              have S7 := S6.below (hb7.mono z6)
              have z7 := hb7.size
              go_wp2_with fail
              refine hK.out _ _ (range_below rT H7 lt7) (fun hHeld => ?_)
              clear hK K
              try simp only [Act.put, List.setIfInBounds_toArray, List.set_cons_zero, List.set_cons_succ]
              refine wpAnyH_take (i := 10) (oi := ⟨_, _, _, _, _, _⟩) rfl (by kernel_rfl) (by kernel_rfl) (by kernel_rfl) (fun _ _ _ h => h) (y_bd (by rfl) 77 _ rfl (by rfl) (built54 sp5 (1 + 48) cp5 (lf (acb a)) hl32 (0 :: acb a))) (by assumption) ?_
              try simp only [Act.put, List.setIfInBounds_toArray, List.set_cons_zero, List.set_cons_succ]
              have H8 := H7.alloc H7.size (.cells (En.arr ⟨sp5, 1 + 48, cp5, 0 :: acb a, lf (acb a)⟩) 77)
              have a8 := alloc_bel' u7 (.cells (En.arr ⟨sp5, 1 + 48, cp5, 0 :: acb a, lf (acb a)⟩) 77)
              refine wpAnyH_ready (rs := [11]) (by kernel_rfl) (by simp) ?_
              refine AllReadyH.cons (o := ⟨_, _, _, _, _, _⟩) rfl (fun K hK => ?_) AllReadyH.nil
              refine step_want rfl (wp_bldE (.tmp 102) rfl ⟨sp5, 1 + 48, cp5, 0 :: acb a, lf (acb a)⟩ rfl hl32 ?_)
              refine hK.out _ _ (range_below rT H8 lt7) (fun hHeld => ?_)
              clear hK K
              try simp only [Act.put, List.setIfInBounds_toArray, List.set_cons_zero, List.set_cons_succ]
              have E8 := EX2.below H8
              have S8 := S7.below (a8.mono (by have := hb6.size; omega))
              have ok8 : EnOK (u7.alloc (.cells (En.arr ⟨sp5, 1 + 48, cp5, 0 :: acb a, lf (acb a)⟩) 77)).heap.size (u7.alloc (.cells (En.arr ⟨sp5, 1 + 48, cp5, 0 :: acb a, lf (acb a)⟩) 77)) ⟨sp5, 1 + 48, cp5, 0 :: acb a, lf (acb a)⟩ := ⟨S8.mono (by simp; omega), hl32⟩
              have ap8 := apart (base := xb + 1) (ax := xb) (v := vx) S8 (by omega) (M := wC.heap.size) (fun g off e => (hsp5 g off e).1) (fun k hk => own_lt EX2.own hk) (by omega) (by omega) (K := (u7.alloc (.cells (En.arr ⟨sp5, 1 + 48, cp5, 0 :: acb a, lf (acb a)⟩) 77)).heap.size) (by simp; omega)
              refine wpAnyH_ready (rs := [12]) (by kernel_rfl) (by simp) ?_
              refine AllReadyH.cons (o := ⟨_, _, _, _, _, _⟩) rfl (fun K hK => ?_) (AllReadyH.nil)
              refine step_want rfl (wp_appE (.tmp 92) (.tmp 103) rfl (xb + 1) xb vx xs ⟨sp5, 1 + 48, cp5, 0 :: acb a, lf (acb a)⟩ rfl E8 u7.heap.size 1 rfl (Arr.new u7 77 _) ok8 ap8 (by omega) (by have := H8.size; omega) ?_)
              intro v12 u8 E12 g12 h12
              have R12 : u8.rangeAt b7 0 a.cells := ((F12.a7.bel H8).grown g12 (fun e => own_arr_ne E8.own (F12.a7.bel H8) (by decide) e.symm)).thA0
              refine hK.out _ _ R12 (fun hHeld => ?_)
              clear hK K
              try simp only [Act.put, List.setIfInBounds_toArray, List.set_cons_zero, List.set_cons_succ]
              refine wpAnyH_take (i := 13) (oi := ⟨_, _, _, _, _, _⟩) (v := ?_) rfl (by kernel_rfl) (by kernel_rfl) (by kernel_rfl) (fun _ _ _ h => h) (Or.inl ⟨by rfl, ?_⟩) (by assumption) ?_
              rotate_left
              · intro u hSw
                go_simp
                try (with_reducible rfl)
              try simp only [Act.put, List.setIfInBounds_toArray, List.set_cons_zero, List.set_cons_succ]
              refine wpAnyH_done (by kernel_rfl) ?_ _
              go_wp2_with fail
              go_meet
              exact ⟨v12, _, _, rfl, H8, g12, E12, Hid.mk' ⟨rfl, rfl⟩⟩
          case' rest =>
            obtain ⟨vx1, u4, e1, rfl, hb4, g4, EX3, he1⟩ := hcut
            have F13 := (F12.below hb4).grown (EX2.below hb4).own (by omega) g4
            have A17 := (A16.bel hb4).grown g4 (fun e => own_arr_ne (EX2.below hb4).own (A16.bel hb4) (by decide) e.symm)
            have EK3 := (EK2.below hb4).farN iK g4 (fun k hk => .inr (by have := own_ge EX2.own k hk; omega))
            have hz4 : wC.heap.size ≤ wc.heap.size := Nat.le_trans hb4.size g4.size
            clear F12 EK2 EX2 A16 rT lt7 lt16 g4 hb4
          obtain ⟨wD, hwD⟩ : ∃ x, x = wc := ⟨_, rfl⟩
          subst hwD
          obtain ⟨P, hP⟩ : ∃ P, Hid (shl (1 :: (T ++ o)) = P) := ⟨_, rfl⟩
          have hP32 : P.length = 32 := by rw [← hP.out]; exact shl_len _
          have hPb : Bts P := by rw [← hP.out]; exact shl_bts _
          have pairC : ∀ u : World, Calls Try.prog 38 #[.agg (h8 T), .agg (h8 o)] u fun e w' => e = .returned (.agg (h8 P)) ∧ Below u.heap.size u w' := fun u => by
            have := refPair_s T o u hT32 ho32
            rw [hP.out] at this
            exact this
          have rg1 := A17.range
          have rg2 := wt_o F13.a8.wt
          go_upto_region 13 with (first
            | (refine atL 24 (.tmp 16) ?_; refine ld24 (by rfl) _ (by rfl) g16 0 (by rfl) T hT32 rg1 ?_)
            | (refine atL 24 (.tmp 106) ?_; refine ld24 (by rfl) _ (by rfl) b8 (0 + 1) (by rfl) o ho32 rg2 ?_)
            | (go_at_call 38; go_must (refine (pairC _).mono ?_; rintro r q1 ⟨rfl, hq1⟩; have F14 := F13.below hq1; have A18 := A17.bel hq1; have EX4 := EX3.below hq1; have EK4 := EK3.below hq1))
            | (refine atS 24 (.tmp 18) (.tmp 108) ?_; refine st24n (by rfl) (.tmp 18) (.tmp 108) (by rfl) q1 q1.heap.size rfl (by rfl) P (by rfl) (by rfl) hP32 ?_))
          have aq := alloc_bel' q1 (.cells (h8 P) 24)
          have C18 := Arr.new q1 24 (h8 P)
          have F15 := F14.below aq
          have A19 := A18.bel aq
          have EX5 := EX4.below aq
          have EK5 := EK4.below aq
          have zq1 := hq1.size
          have zq2 := aq.size
          generalize q1.heap.size = g18 at C18 zq1 zq2 ⊢
          generalize q1.alloc (.cells (h8 P) 24) = Q2 at C18 F15 A19 EX5 EK5 zq2 ⊢
          clear F13 F14 A17 A18 EX3 EX4 EK3 EK4 hq1 aq rg1 rg2 pairC
          have cC := wt_c F15.a8.wt ho32
          simp only [Nat.zero_add] at cC
          go_upto_region 14 with (first
            | (go_at_call 39; go_must (refine (counted_any c _).mono ?_; rintro r q3 ⟨rfl, hq3⟩; have F16 := F15.below hq3; have A20 := A19.bel hq3; have C20 := C18.bel hq3; have EX6 := EX5.below hq3; have EK6 := EK5.below hq3))
            | (refine atS 24 (.tmp 19) (.tmp 111) ?_; refine st24n (by rfl) (.tmp 19) (.tmp 111) (by rfl) q3 q3.heap.size rfl (by rfl) (cnt c) (by rfl) (by rfl) (cnt_len c) ?_))
          have aq := alloc_bel' q3 (.cells (h8 (cnt c)) 24)
          have D21 := Arr.new q3 24 (h8 (cnt c))
          have F17 := F16.below aq
          have A21 := A20.bel aq
          have C21 := C20.bel aq
          have EX7 := EX6.below aq
          have EK7 := EK6.below aq
          have zq3 := hq3.size
          have zq4 := aq.size
          generalize q3.heap.size = g19 at D21 zq3 zq4 ⊢
          generalize q3.alloc (.cells (h8 (cnt c)) 24) = Q at D21 C21 F17 A21 EX7 EK7 zq4 ⊢
          clear F15 F16 A19 A20 C18 C20 EX5 EX6 EK5 EK6 hq3 aq cC
          have hbE : Bts ([1] ++ T ++ o) := by
            have q := Bts.one (hTb.app bo)
            rw [show [1] ++ T ++ o = 1 :: (T ++ o) by simp]; exact q
          have hbF : Bts ([1] ++ P ++ cnt c) := by
            have q := Bts.one (hPb.app (cnt_bts c))
            rw [show [1] ++ P ++ cnt c = 1 :: (P ++ cnt c) by simp]; exact q
          have hEF0 : ∀ (sp6 : Option Addr) (cp6 : Nat) (sp13 : Option Addr) (cp13 : Nat), Hid ((⟨sp6, 1 + 32 + 32, cp6, [1] ++ T ++ o, P⟩ : En).bs = 1 :: (T ++ o) ∧ (⟨sp13, 1 + 32 + 32, cp13, [1] ++ P ++ cnt c, jn T o c⟩ : En).bs = 1 :: (P ++ cnt c) ∧ (⟨sp6, 1 + 32 + 32, cp6, [1] ++ T ++ o, P⟩ : En).sm = shl (⟨sp6, 1 + 32 + 32, cp6, [1] ++ T ++ o, P⟩ : En).bs ∧ (⟨sp13, 1 + 32 + 32, cp13, [1] ++ P ++ cnt c, jn T o c⟩ : En).sm = shl (⟨sp13, 1 + 32 + 32, cp13, [1] ++ P ++ cnt c, jn T o c⟩ : En).bs) := fun sp6 cp6 sp13 cp13 => Hid.mk' ⟨by simp, by simp, by simp only [List.cons_append, List.nil_append]; exact hP.out.symm, by
              simp only [List.cons_append, List.nil_append]
              unfold jn pr
              rw [hP.out]⟩
          have hEF := Hid.mk' hEF0
          clear hEF0
          have lt19 := D21.lt
          try simp only [Act.put, List.setIfInBounds_toArray, List.set_cons_zero, List.set_cons_succ]
          go_cut [14] from 112 to 134 (fun v wc => ∃ v', ∃ u, ∃ e : En, ∃ f : En, v' = v ∧ Below Q.heap.size Q u ∧ u.grownBy wc vx1.ownBlock ∧ EO (xb + 1) xb wc v' (xs ++ [e1] ++ [e, f]) ∧ Hid (e.bs = 1 :: (T ++ o) ∧ f.bs = 1 :: (P ++ cnt c) ∧ e.sm = shl e.bs ∧ f.sm = shl f.bs))
          case first =>
            refine wp_region_held_drew (S := fun u => Arr u g16 24 (h8 T) ∧ Arr u g18 24 (h8 P) ∧ Arr u g19 24 (h8 (cnt c)) ∧ Arr u b8 44 (wtA wsp 5 wcap o c)) (by kernel_rfl) (⟨A21.drew, C21.drew, D21.drew, F17.a8.drew⟩) (fun hHeld => ?_)
            refine wpAnyH_take (i := 0) (oi := ⟨_, _, _, _, _, _⟩) (v := ?_) rfl (by kernel_rfl) (by kernel_rfl) (by kernel_rfl) (fun _ _ _ h => h) (Or.inl ⟨by rfl, ?_⟩) (by assumption) ?_
            rotate_left
            · intro u hSw
              go_simp
              try (with_reducible rfl)
            try simp only [Act.put, List.setIfInBounds_toArray, List.set_cons_zero, List.set_cons_succ]
            refine wpAnyH_take (i := 2) (oi := ⟨_, _, _, _, _, _⟩) (v := ?_) rfl (by kernel_rfl) (by kernel_rfl) (by kernel_rfl) (fun _ _ _ h => h) (Or.inl ⟨by rfl, ?_⟩) (by assumption) ?_
            rotate_left
            · intro u hSw
              go_simp
              try (with_reducible rfl)
            try simp only [Act.put, List.setIfInBounds_toArray, List.set_cons_zero, List.set_cons_succ]
            refine wpAnyH_take (i := 4) (oi := ⟨_, _, _, _, _, _⟩) (v := ?_) rfl (by kernel_rfl) (by kernel_rfl) (by kernel_rfl) (fun _ _ _ h => h) (Or.inl ⟨by rfl, ?_⟩) (by assumption) ?_
            rotate_left
            · intro u hSw
              go_simp
              try (with_reducible rfl)
            try simp only [Act.put, List.setIfInBounds_toArray, List.set_cons_zero, List.set_cons_succ]
            refine wpAnyH_take (i := 5) (oi := ⟨_, _, _, _, _, _⟩) (v := ?_) rfl (by kernel_rfl) (by kernel_rfl) (by kernel_rfl) (fun _ _ _ h => h) (Or.inl ⟨by rfl, ?_⟩) (by assumption) ?_
            rotate_left
            · intro u hSw
              go_simp
              try (with_reducible rfl)
            try simp only [Act.put, List.setIfInBounds_toArray, List.set_cons_zero, List.set_cons_succ]
            refine wpAnyH_take (i := 7) (oi := ⟨_, _, _, _, _, _⟩) rfl (by kernel_rfl) (by kernel_rfl) (by kernel_rfl) (fun _ _ _ h => h) (y24 (by rfl) (.tmp 18) rfl g18 0 rfl P hP32 (fun u hu => hu.2.1.range)) (by assumption) ?_
            try simp only [Act.put, List.setIfInBounds_toArray, List.set_cons_zero, List.set_cons_succ]
            refine wpAnyH_take (i := 10) (oi := ⟨_, _, _, _, _, _⟩) (v := ?_) rfl (by kernel_rfl) (by kernel_rfl) (by kernel_rfl) (fun _ _ _ h => h) (Or.inl ⟨by rfl, ?_⟩) (by assumption) ?_
            rotate_left
            · intro u hSw
              go_simp
              try (with_reducible rfl)
            try simp only [Act.put, List.setIfInBounds_toArray, List.set_cons_zero, List.set_cons_succ]
            refine wpAnyH_take (i := 12) (oi := ⟨_, _, _, _, _, _⟩) (v := ?_) rfl (by kernel_rfl) (by kernel_rfl) (by kernel_rfl) (fun _ _ _ h => h) (Or.inl ⟨by rfl, ?_⟩) (by assumption) ?_
            rotate_left
            · intro u hSw
              go_simp
              try (with_reducible rfl)
            try simp only [Act.put, List.setIfInBounds_toArray, List.set_cons_zero, List.set_cons_succ]
            refine wpAnyH_take (i := 14) (oi := ⟨_, _, _, _, _, _⟩) rfl (by kernel_rfl) (by kernel_rfl) (by kernel_rfl) (fun _ _ _ h => h) (y24 (by rfl) (.tmp 16) rfl g16 0 rfl T hT32 (fun u hu => hu.1.range)) (by assumption) ?_
            try simp only [Act.put, List.setIfInBounds_toArray, List.set_cons_zero, List.set_cons_succ]
            refine wpAnyH_take (i := 15) (oi := ⟨_, _, _, _, _, _⟩) (v := ?_) rfl (by kernel_rfl) (by kernel_rfl) (by kernel_rfl) (fun _ _ _ h => h) (Or.inl ⟨by rfl, ?_⟩) (by assumption) ?_
            rotate_left
            · intro u hSw
              go_simp
              try (with_reducible rfl)
            try simp only [Act.put, List.setIfInBounds_toArray, List.set_cons_zero, List.set_cons_succ]
            refine wpAnyH_take (i := 16) (oi := ⟨_, _, _, _, _, _⟩) rfl (by kernel_rfl) (by kernel_rfl) (by kernel_rfl) (fun _ _ _ h => h) (y24 (by rfl) (.tmp 127) rfl b8 (0 + 1) rfl o ho32 (fun u hu => wt_o hu.2.2.2.wt)) (by assumption) ?_
            try simp only [Act.put, List.setIfInBounds_toArray, List.set_cons_zero, List.set_cons_succ]
            refine wpAnyH_take (i := 17) (oi := ⟨_, _, _, _, _, _⟩) (v := ?_) rfl (by kernel_rfl) (by kernel_rfl) (by kernel_rfl) (fun _ _ _ h => h) (Or.inl ⟨by rfl, ?_⟩) (by assumption) ?_
            rotate_left
            · intro u hSw
              go_simp
              try (with_reducible rfl)
            try simp only [Act.put, List.setIfInBounds_toArray, List.set_cons_zero, List.set_cons_succ]
            refine wpAnyH_take (i := 18) (oi := ⟨_, _, _, _, _, _⟩) (v := ?_) rfl (by kernel_rfl) (by kernel_rfl) (by kernel_rfl) (fun _ _ _ h => h) (Or.inl ⟨by rfl, ?_⟩) (by assumption) ?_
            rotate_left
            · intro u hSw
              have cc := wt_c hSw.2.2.2.wt ho32
              simp only [Nat.zero_add] at cc
              go_simp
              try (with_reducible rfl)
            try simp only [Act.put, List.setIfInBounds_toArray, List.set_cons_zero, List.set_cons_succ]
            have H0 : Below Q.heap.size Q Q.drew := (Below.refl _ _).drew
            refine wpAnyH_ready (rs := [1, 9]) (by kernel_rfl) (by simp) ?_
            refine AllReadyH.cons (o := ⟨_, _, _, _, _, _⟩) rfl (fun K hK => ?_) (AllReadyH.cons (o := ⟨_, _, _, _, _, _⟩) rfl (fun K hK => ?_) (AllReadyH.nil))
            · have hs1 : Q.drew.heap.size = Q.heap.size := by simp
              have H1 := H0.alloc H0.size (.cells #[.int .u8 1] 5)
              have ow1_1 : (Q.drew.alloc (.cells #[.int .u8 1] 5)).ownsRow Q.heap.size 5 1 (.slice (some ⟨Q.heap.size, 0, none⟩) 1 1) 1 (by8 [1]) := by rw [← hs1]; exact World.ownsRow_lit _ _ _ H0.size (by unfold maxLen; omega) rfl
              refine step_want rfl ?_
              go_simp
              go_wp2_with fail
              refine hK.out _ _ ⟨A21.bel H1, C21.bel H1, D21.bel H1, F17.a8.bel H1⟩ (fun hHeld => ?_)
              clear hK K
              try simp only [Act.put, List.setIfInBounds_toArray, List.set_cons_zero, List.set_cons_succ]
              refine wpAnyH_ready (rs := [3, 9]) (by kernel_rfl) (by simp) ?_
              refine AllReadyH.cons (o := ⟨_, _, _, _, _, _⟩) rfl (fun K hK => ?_) (AllReadyH.cons (o := ⟨_, _, _, _, _, _⟩) rfl (fun K hK => ?_) (AllReadyH.nil))
              · refine step_want rfl (wp_apB (.tmp 113) (.tmp 114) rfl Q.heap.size (1) (.slice (some ⟨Q.heap.size, 0, none⟩) 1 1) ([1]) T rfl ow1_1 g16 0 32 rfl (A21.bel H1).range hT32 (by omega) H1.size ?_)
                intro v3 x2 ow3_2 gg2 h52
                have H2 := H1.grown gg2 H1.size (fun k e => own_ge ow1_1 k e)
                have zz2 := gg2.size
                refine hK.out _ _ ⟨A21.bel H2, C21.bel H2, D21.bel H2, F17.a8.bel H2⟩ (fun hHeld => ?_)
                clear hK K
                try simp only [Act.put, List.setIfInBounds_toArray, List.set_cons_zero, List.set_cons_succ]
                refine wpAnyH_ready (rs := [6, 9]) (by kernel_rfl) (by simp) ?_
                refine AllReadyH.cons (o := ⟨_, _, _, _, _, _⟩) rfl (fun K hK => ?_) (AllReadyH.cons (o := ⟨_, _, _, _, _, _⟩) rfl (fun K hK => ?_) (AllReadyH.nil))
                · refine step_want rfl (wp_apB (.tmp 115) (.tmp 117) rfl Q.heap.size (1 + 32) v3 ([1] ++ T) o rfl ow3_2 b8 (0 + 1) 32 rfl (wt_o (F17.a8.bel H2).wt) ho32 (by omega) H2.size ?_)
                  intro v6 x3 ow6_3 gg3 h53
                  have H3 := H2.grown gg3 H2.size (fun k e => own_ge ow3_2 k e)
                  have zz3 := gg3.size
                  obtain ⟨sp6, cp6, rfl, bs6, hsp6⟩ := own_bs ow6_3 hbE (by omega)
                  replace hsp6 := Hid.mk' hsp6
                  refine hK.out _ _ ⟨A21.bel H3, C21.bel H3, D21.bel H3, F17.a8.bel H3⟩ (fun hHeld => ?_)
                  clear hK K
                  try simp only [Act.put, List.setIfInBounds_toArray, List.set_cons_zero, List.set_cons_succ]
                  refine wpAnyH_take (i := 8) (oi := ⟨_, _, _, _, _, _⟩) rfl (by kernel_rfl) (by kernel_rfl) (by kernel_rfl) (fun _ _ _ h => h) (y_bd (by rfl) 77 _ rfl (by rfl) (built54 sp6 (1 + 32 + 32) cp6 P hP32 ([1] ++ T ++ o))) (by assumption) ?_
                  try simp only [Act.put, List.setIfInBounds_toArray, List.set_cons_zero, List.set_cons_succ]
                  generalize hAE : En.arr ⟨sp6, 1 + 32 + 32, cp6, [1] ++ T ++ o, P⟩ = AE
                  replace hAE := Hid.mk' hAE
                  refine wpAnyH_ready (rs := [9]) (by kernel_rfl) (by simp) ?_
                  refine AllReadyH.cons (o := ⟨_, _, _, _, _, _⟩) rfl (fun K hK => ?_) (AllReadyH.nil)
                  have hs4 : x3.heap.size = x3.heap.size := by simp
                  have H4 := H3.alloc H3.size (.cells #[.int .u8 1] 5)
                  have ow9_4 : (x3.alloc (.cells #[.int .u8 1] 5)).ownsRow Q.heap.size 5 1 (.slice (some ⟨x3.heap.size, 0, none⟩) 1 1) 1 (by8 [1]) := by rw [← hs4]; exact World.ownsRow_lit _ _ _ H3.size (by unfold maxLen; omega) rfl
                  have ow6_3_4 := ow6_3.alloc (.cells #[.int .u8 1] 5)
                  have dd4 : ∀ k, ((.slice sp6 (1 + 32 + 32) cp6) : Value).ownBlock = some k → (Value.slice (some ⟨x3.heap.size, 0, none⟩) 1 1).ownBlock ≠ some k := fun k hk q => by have e1 : x3.heap.size = k := Option.some.inj q; have e2 := own_lt ow6_3 hk; omega
                  have bs_4 := (bs6.below (alloc_bel' x3 (.cells #[.int .u8 1] 5))).mono (alloc_bel' x3 (.cells #[.int .u8 1] 5)).size
                  refine step_want rfl ?_
                  go_simp
                  go_wp2_with fail
                  refine hK.out _ _ ⟨A21.bel H4, C21.bel H4, D21.bel H4, F17.a8.bel H4⟩ (fun hHeld => ?_)
                  clear hK K
                  try simp only [Act.put, List.setIfInBounds_toArray, List.set_cons_zero, List.set_cons_succ]
                  refine wpAnyH_ready (rs := [11]) (by kernel_rfl) (by simp) ?_
                  refine AllReadyH.cons (o := ⟨_, _, _, _, _, _⟩) rfl (fun K hK => ?_) (AllReadyH.nil)
                  refine step_want rfl (wp_apB (.tmp 121) (.tmp 122) rfl Q.heap.size (1) (.slice (some ⟨x3.heap.size, 0, none⟩) 1 1) ([1]) P rfl ow9_4 g18 0 32 rfl (C21.bel H4).range hP32 (by omega) H4.size ?_)
                  intro v11 x5 ow11_5 gg5 h55
                  have H5 := H4.grown gg5 H4.size (fun k e => own_ge ow9_4 k e)
                  have zz5 := gg5.size
                  have ow6_3_4_5 := own_same ow6_3_4 (fun k hk => gg5.block k (own_lt ow6_3_4 hk) (fun e => dd4 k hk e.symm))
                  have bs_5 := (bs_4.far gg5 (Nat.le_refl _) (fun b off q e => dd4 b (by rw [q]; rfl) e.symm)).mono zz5
                  have dd5 := apart_grow2 ow6_3_4 h55 dd4
                  refine hK.out _ _ ⟨A21.bel H5, C21.bel H5, D21.bel H5, F17.a8.bel H5⟩ (fun hHeld => ?_)
                  clear hK K
                  try simp only [Act.put, List.setIfInBounds_toArray, List.set_cons_zero, List.set_cons_succ]
                  refine wpAnyH_ready (rs := [13]) (by kernel_rfl) (by simp) ?_
                  refine AllReadyH.cons (o := ⟨_, _, _, _, _, _⟩) rfl (fun K hK => ?_) (AllReadyH.nil)
                  refine step_want rfl (wp_apB (.tmp 123) (.tmp 124) rfl Q.heap.size (1 + 32) v11 ([1] ++ P) (cnt c) rfl ow11_5 g19 0 32 rfl (D21.bel H5).range (cnt_len c) (by omega) H5.size ?_)
                  intro v13 x6 ow13_6 gg6 h56
                  have H6 := H5.grown gg6 H5.size (fun k e => own_ge ow11_5 k e)
                  have zz6 := gg6.size
                  have ow6_3_4_5_6 := own_same ow6_3_4_5 (fun k hk => gg6.block k (own_lt ow6_3_4_5 hk) (fun e => dd5 k hk e.symm))
                  have bs_6 := (bs_5.far gg6 (Nat.le_refl _) (fun b off q e => dd5 b (by rw [q]; rfl) e.symm)).mono zz6
                  have dd6 := apart_grow2 ow6_3_4_5 h56 dd5
                  obtain ⟨sp13, cp13, rfl, bs13, hsp13⟩ := own_bs ow13_6 hbF (by omega)
                  replace hsp13 := Hid.mk' hsp13
                  refine hK.out _ _ ⟨A21.bel H6, C21.bel H6, D21.bel H6, F17.a8.bel H6⟩ (fun hHeld => ?_)
                  clear hK K
                  try simp only [Act.put, List.setIfInBounds_toArray, List.set_cons_zero, List.set_cons_succ]
                  refine wpAnyH_ready (rs := [19]) (by kernel_rfl) (by simp) ?_
                  refine AllReadyH.cons (o := ⟨_, _, _, _, _, _⟩) rfl (fun K hK => ?_) (AllReadyH.nil)
                  refine step_want rfl ?_
                  go_simp
                  refine (joined_any T o c _ hT32 ho32).mono ?_; rintro r w19 ⟨rfl, hb19⟩
                  have H19 := H6.trans (hb19.mono H6.size)
                  have SE := bs_6.below hb19
                  have SF := bs13.below hb19
                  have z19 := hb19.size
                  go_wp2_with fail
                  refine hK.out _ _ ⟨A21.bel H19, C21.bel H19, D21.bel H19, F17.a8.bel H19⟩ (fun hHeld => ?_)
                  clear hK K
                  try simp only [Act.put, List.setIfInBounds_toArray, List.set_cons_zero, List.set_cons_succ]
                  refine wpAnyH_take (i := 20) (oi := ⟨_, _, _, _, _, _⟩) rfl (by kernel_rfl) (by kernel_rfl) (by kernel_rfl) (fun _ _ _ h => h) (y_bd (by rfl) 77 _ rfl (by rfl) (built54 sp13 (1 + 32 + 32) cp13 (jn T o c) (jn_len _ _ _) ([1] ++ P ++ cnt c))) (by assumption) ?_
                  try simp only [Act.put, List.setIfInBounds_toArray, List.set_cons_zero, List.set_cons_succ]
                  have H20 := H19.alloc H19.size (.cells (flatE [⟨sp6, 1 + 32 + 32, cp6, [1] ++ T ++ o, P⟩, ⟨sp13, 1 + 32 + 32, cp13, [1] ++ P ++ cnt c, jn T o c⟩]).toArray 77)
                  have a20 := alloc_bel' w19 (.cells (flatE [⟨sp6, 1 + 32 + 32, cp6, [1] ++ T ++ o, P⟩, ⟨sp13, 1 + 32 + 32, cp13, [1] ++ P ++ cnt c, jn T o c⟩]).toArray 77)
                  have L20 := lit2_range (Arr.new w19 77 (flatE [⟨sp6, 1 + 32 + 32, cp6, [1] ++ T ++ o, P⟩, ⟨sp13, 1 + 32 + 32, cp13, [1] ++ P ++ cnt c, jn T o c⟩]).toArray) hP32 (jn_len _ _ _)
                  have z20 : (w19.alloc (.cells (flatE [⟨sp6, 1 + 32 + 32, cp6, [1] ++ T ++ o, P⟩, ⟨sp13, 1 + 32 + 32, cp13, [1] ++ P ++ cnt c, jn T o c⟩]).toArray 77)).heap.size = w19.heap.size + 1 := by simp
                  refine wpAnyH_ready (rs := [21]) (by kernel_rfl) (by simp) ?_
                  refine AllReadyH.cons (o := ⟨_, _, _, _, _, _⟩) rfl (fun K hK => ?_) AllReadyH.nil
                  refine step_want rfl (wp_bldE2 (.tmp 120) (.tmp 132) rfl ⟨sp6, 1 + 32 + 32, cp6, [1] ++ T ++ o, P⟩ ⟨sp13, 1 + 32 + 32, cp13, [1] ++ P ++ cnt c, jn T o c⟩ (congrArg Value.agg hAE.out.symm) rfl hP32 (jn_len _ _ _) ?_)
                  refine hK.out _ _ ⟨A21.bel H20, C21.bel H20, D21.bel H20, F17.a8.bel H20⟩ (fun hHeld => ?_)
                  clear hK K
                  try simp only [Act.put, List.setIfInBounds_toArray, List.set_cons_zero, List.set_cons_succ]
                  have E20 := EX7.below H20
                  have okE : ∀ e ∈ [(⟨sp6, 1 + 32 + 32, cp6, [1] ++ T ++ o, P⟩ : En), ⟨sp13, 1 + 32 + 32, cp13, [1] ++ P ++ cnt c, jn T o c⟩], EnOK (w19.alloc (.cells (flatE [⟨sp6, 1 + 32 + 32, cp6, [1] ++ T ++ o, P⟩, ⟨sp13, 1 + 32 + 32, cp13, [1] ++ P ++ cnt c, jn T o c⟩]).toArray 77)).heap.size (w19.alloc (.cells (flatE [⟨sp6, 1 + 32 + 32, cp6, [1] ++ T ++ o, P⟩, ⟨sp13, 1 + 32 + 32, cp13, [1] ++ P ++ cnt c, jn T o c⟩]).toArray 77)) e := by
                    intro e he
                    simp only [List.mem_cons, List.not_mem_nil, or_false] at he
                    rcases he with rfl | rfl
                    · exact ⟨(SE.below (a20.mono (by omega))).mono (by omega), hP32⟩
                    · exact ⟨(SF.below (a20.mono (by omega))).mono (by omega), jn_len _ _ _⟩
                  have apE : ∀ e ∈ [(⟨sp6, 1 + 32 + 32, cp6, [1] ++ T ++ o, P⟩ : En), ⟨sp13, 1 + 32 + 32, cp13, [1] ++ P ++ cnt c, jn T o c⟩], ∀ b off, e.sp = some ⟨b, off, none⟩ → xb + 1 ≤ b ∧ b < (w19.alloc (.cells (flatE [⟨sp6, 1 + 32 + 32, cp6, [1] ++ T ++ o, P⟩, ⟨sp13, 1 + 32 + 32, cp13, [1] ++ P ++ cnt c, jn T o c⟩]).toArray 77)).heap.size ∧ some b ≠ vx1.ownBlock ∧ b ≠ xb := by
                    intro e he b off q'
                    simp only [List.mem_cons, List.not_mem_nil, or_false] at he
                    rcases he with rfl | rfl
                    · exact apart (base := xb + 1) (ax := xb) (v := vx1) SE (by omega) (M := Q.heap.size) (fun g off e => (hsp6.out g off e).1) (fun k hk => own_lt EX7.own hk) (by omega) (by omega) (K := (w19.alloc (.cells (flatE [⟨sp6, 1 + 32 + 32, cp6, [1] ++ T ++ o, P⟩, ⟨sp13, 1 + 32 + 32, cp13, [1] ++ P ++ cnt c, jn T o c⟩]).toArray 77)).heap.size) (by omega) b off q'
                    · exact apart (base := xb + 1) (ax := xb) (v := vx1) SF (by omega) (M := Q.heap.size) (fun g off e => (hsp13.out g off e).1) (fun k hk => own_lt EX7.own hk) (by omega) (by omega) (K := (w19.alloc (.cells (flatE [⟨sp6, 1 + 32 + 32, cp6, [1] ++ T ++ o, P⟩, ⟨sp13, 1 + 32 + 32, cp13, [1] ++ P ++ cnt c, jn T o c⟩]).toArray 77)).heap.size) (by omega) b off q'
                  refine wpAnyH_ready (rs := [22]) (by kernel_rfl) (by simp) ?_
                  refine AllReadyH.cons (o := ⟨_, _, _, _, _, _⟩) rfl (fun K hK => ?_) (AllReadyH.nil)
                  refine step_want rfl (wp_appEs (.tmp 112) (.tmp 133) rfl (xb + 1) xb vx1 (xs ++ [e1]) [⟨sp6, 1 + 32 + 32, cp6, [1] ++ T ++ o, P⟩, ⟨sp13, 1 + 32 + 32, cp13, [1] ++ P ++ cnt c, jn T o c⟩] rfl E20 w19.heap.size 0 2 2 rfl rfl L20 okE apE (by rw [List.length_append, hxl]; simp) (by omega) (by have := H20.size; omega) ?_)
                  intro v22 u22 E22 g22 h22
                  have T22 : Arr u22 g16 24 (h8 T) ∧ Arr u22 g18 24 (h8 P) ∧ Arr u22 g19 24 (h8 (cnt c)) ∧ Arr u22 b8 44 (wtA wsp 5 wcap o c) := ⟨(A21.bel H20).grown g22 (fun e => own_arr_ne E20.own (A21.bel H20) (by decide) e.symm), (C21.bel H20).grown g22 (fun e => own_arr_ne E20.own (C21.bel H20) (by decide) e.symm), (D21.bel H20).grown g22 (fun e => own_arr_ne E20.own (D21.bel H20) (by decide) e.symm), (F17.a8.bel H20).grown g22 (fun e => own_arr_ne E20.own (F17.a8.bel H20) (by decide) e.symm)⟩
                  refine hK.out _ _ T22 (fun hHeld => ?_)
                  clear hK K
                  try simp only [Act.put, List.setIfInBounds_toArray, List.set_cons_zero, List.set_cons_succ]
                  refine wpAnyH_take (i := 23) (oi := ⟨_, _, _, _, _, _⟩) (v := ?_) rfl (by kernel_rfl) (by kernel_rfl) (by kernel_rfl) (fun _ _ _ h => h) (Or.inl ⟨by rfl, ?_⟩) (by assumption) ?_
                  rotate_left
                  · intro u hSw
                    go_simp
                    try (with_reducible rfl)
                  try simp only [Act.put, List.setIfInBounds_toArray, List.set_cons_zero, List.set_cons_succ]
                  refine wpAnyH_done (by kernel_rfl) ?_ _
                  go_wp2_with fail
                  go_meet
                  exact ⟨v22, _, ⟨sp6, 1 + 32 + 32, cp6, [1] ++ T ++ o, P⟩, ⟨sp13, 1 + 32 + 32, cp13, [1] ++ P ++ cnt c, jn T o c⟩, rfl, H20, g22, E22, hEF.out sp6 cp6 sp13 cp13⟩
                · have hs3 : x2.heap.size = x2.heap.size := by simp
                  have H3 := H2.alloc H2.size (.cells #[.int .u8 1] 5)
                  have ow9_3 : (x2.alloc (.cells #[.int .u8 1] 5)).ownsRow Q.heap.size 5 1 (.slice (some ⟨x2.heap.size, 0, none⟩) 1 1) 1 (by8 [1]) := by rw [← hs3]; exact World.ownsRow_lit _ _ _ H2.size (by unfold maxLen; omega) rfl
                  have ow3_2_3 := ow3_2.alloc (.cells #[.int .u8 1] 5)
                  have dd3 : ∀ k, (v3 : Value).ownBlock = some k → (Value.slice (some ⟨x2.heap.size, 0, none⟩) 1 1).ownBlock ≠ some k := fun k hk q => by have e1 : x2.heap.size = k := Option.some.inj q; have e2 := own_lt ow3_2 hk; omega
                  refine step_want rfl ?_
                  go_simp
                  go_wp2_with fail
                  refine hK.out _ _ ⟨A21.bel H3, C21.bel H3, D21.bel H3, F17.a8.bel H3⟩ (fun hHeld => ?_)
                  clear hK K
                  try simp only [Act.put, List.setIfInBounds_toArray, List.set_cons_zero, List.set_cons_succ]
                  refine wpAnyH_ready (rs := [6]) (by kernel_rfl) (by simp) ?_
                  refine AllReadyH.cons (o := ⟨_, _, _, _, _, _⟩) rfl (fun K hK => ?_) (AllReadyH.nil)
                  refine step_want rfl (wp_apB (.tmp 115) (.tmp 117) rfl Q.heap.size (1 + 32) v3 ([1] ++ T) o rfl ow3_2_3 b8 (0 + 1) 32 rfl (wt_o (F17.a8.bel H3).wt) ho32 (by omega) H3.size ?_)
                  intro v6 x4 ow6_4 gg4 h54
                  have H4 := H3.grown gg4 H3.size (fun k e => own_ge ow3_2_3 k e)
                  have zz4 := gg4.size
                  have ow9_3_4 := own_same ow9_3 (fun k hk => gg4.block k (own_lt ow9_3 hk) (fun e => dd3 k e.symm hk))
                  have dd4 := apart_grow ow9_3 h54 dd3
                  obtain ⟨sp6, cp6, rfl, bs6, hsp6⟩ := own_bs ow6_4 hbE (by omega)
                  replace hsp6 := Hid.mk' hsp6
                  refine hK.out _ _ ⟨A21.bel H4, C21.bel H4, D21.bel H4, F17.a8.bel H4⟩ (fun hHeld => ?_)
                  clear hK K
                  try simp only [Act.put, List.setIfInBounds_toArray, List.set_cons_zero, List.set_cons_succ]
                  refine wpAnyH_take (i := 8) (oi := ⟨_, _, _, _, _, _⟩) rfl (by kernel_rfl) (by kernel_rfl) (by kernel_rfl) (fun _ _ _ h => h) (y_bd (by rfl) 77 _ rfl (by rfl) (built54 sp6 (1 + 32 + 32) cp6 P hP32 ([1] ++ T ++ o))) (by assumption) ?_
                  try simp only [Act.put, List.setIfInBounds_toArray, List.set_cons_zero, List.set_cons_succ]
                  generalize hAE : En.arr ⟨sp6, 1 + 32 + 32, cp6, [1] ++ T ++ o, P⟩ = AE
                  replace hAE := Hid.mk' hAE
                  refine wpAnyH_ready (rs := [11]) (by kernel_rfl) (by simp) ?_
                  refine AllReadyH.cons (o := ⟨_, _, _, _, _, _⟩) rfl (fun K hK => ?_) (AllReadyH.nil)
                  refine step_want rfl (wp_apB (.tmp 121) (.tmp 122) rfl Q.heap.size (1) (.slice (some ⟨x2.heap.size, 0, none⟩) 1 1) ([1]) P rfl ow9_3_4 g18 0 32 rfl (C21.bel H4).range hP32 (by omega) H4.size ?_)
                  intro v11 x5 ow11_5 gg5 h55
                  have H5 := H4.grown gg5 H4.size (fun k e => own_ge ow9_3_4 k e)
                  have zz5 := gg5.size
                  have ow6_4_5 := own_same ow6_4 (fun k hk => gg5.block k (own_lt ow6_4 hk) (fun e => dd4 k hk e.symm))
                  have bs_5 := (bs6.far gg5 (Nat.le_refl _) (fun b off q e => dd4 b (by rw [q]; rfl) e.symm)).mono zz5
                  have dd5 := apart_grow2 ow6_4 h55 dd4
                  refine hK.out _ _ ⟨A21.bel H5, C21.bel H5, D21.bel H5, F17.a8.bel H5⟩ (fun hHeld => ?_)
                  clear hK K
                  try simp only [Act.put, List.setIfInBounds_toArray, List.set_cons_zero, List.set_cons_succ]
                  refine wpAnyH_ready (rs := [13]) (by kernel_rfl) (by simp) ?_
                  refine AllReadyH.cons (o := ⟨_, _, _, _, _, _⟩) rfl (fun K hK => ?_) (AllReadyH.nil)
                  refine step_want rfl (wp_apB (.tmp 123) (.tmp 124) rfl Q.heap.size (1 + 32) v11 ([1] ++ P) (cnt c) rfl ow11_5 g19 0 32 rfl (D21.bel H5).range (cnt_len c) (by omega) H5.size ?_)
                  intro v13 x6 ow13_6 gg6 h56
                  have H6 := H5.grown gg6 H5.size (fun k e => own_ge ow11_5 k e)
                  have zz6 := gg6.size
                  have ow6_4_5_6 := own_same ow6_4_5 (fun k hk => gg6.block k (own_lt ow6_4_5 hk) (fun e => dd5 k hk e.symm))
                  have bs_6 := (bs_5.far gg6 (Nat.le_refl _) (fun b off q e => dd5 b (by rw [q]; rfl) e.symm)).mono zz6
                  have dd6 := apart_grow2 ow6_4_5 h56 dd5
                  obtain ⟨sp13, cp13, rfl, bs13, hsp13⟩ := own_bs ow13_6 hbF (by omega)
                  replace hsp13 := Hid.mk' hsp13
                  refine hK.out _ _ ⟨A21.bel H6, C21.bel H6, D21.bel H6, F17.a8.bel H6⟩ (fun hHeld => ?_)
                  clear hK K
                  try simp only [Act.put, List.setIfInBounds_toArray, List.set_cons_zero, List.set_cons_succ]
                  refine wpAnyH_ready (rs := [19]) (by kernel_rfl) (by simp) ?_
                  refine AllReadyH.cons (o := ⟨_, _, _, _, _, _⟩) rfl (fun K hK => ?_) (AllReadyH.nil)
                  refine step_want rfl ?_
                  go_simp
                  refine (joined_any T o c _ hT32 ho32).mono ?_; rintro r w19 ⟨rfl, hb19⟩
                  have H19 := H6.trans (hb19.mono H6.size)
                  have SE := bs_6.below hb19
                  have SF := bs13.below hb19
                  have z19 := hb19.size
                  go_wp2_with fail
                  refine hK.out _ _ ⟨A21.bel H19, C21.bel H19, D21.bel H19, F17.a8.bel H19⟩ (fun hHeld => ?_)
                  clear hK K
                  try simp only [Act.put, List.setIfInBounds_toArray, List.set_cons_zero, List.set_cons_succ]
                  refine wpAnyH_take (i := 20) (oi := ⟨_, _, _, _, _, _⟩) rfl (by kernel_rfl) (by kernel_rfl) (by kernel_rfl) (fun _ _ _ h => h) (y_bd (by rfl) 77 _ rfl (by rfl) (built54 sp13 (1 + 32 + 32) cp13 (jn T o c) (jn_len _ _ _) ([1] ++ P ++ cnt c))) (by assumption) ?_
                  try simp only [Act.put, List.setIfInBounds_toArray, List.set_cons_zero, List.set_cons_succ]
                  have H20 := H19.alloc H19.size (.cells (flatE [⟨sp6, 1 + 32 + 32, cp6, [1] ++ T ++ o, P⟩, ⟨sp13, 1 + 32 + 32, cp13, [1] ++ P ++ cnt c, jn T o c⟩]).toArray 77)
                  have a20 := alloc_bel' w19 (.cells (flatE [⟨sp6, 1 + 32 + 32, cp6, [1] ++ T ++ o, P⟩, ⟨sp13, 1 + 32 + 32, cp13, [1] ++ P ++ cnt c, jn T o c⟩]).toArray 77)
                  have L20 := lit2_range (Arr.new w19 77 (flatE [⟨sp6, 1 + 32 + 32, cp6, [1] ++ T ++ o, P⟩, ⟨sp13, 1 + 32 + 32, cp13, [1] ++ P ++ cnt c, jn T o c⟩]).toArray) hP32 (jn_len _ _ _)
                  have z20 : (w19.alloc (.cells (flatE [⟨sp6, 1 + 32 + 32, cp6, [1] ++ T ++ o, P⟩, ⟨sp13, 1 + 32 + 32, cp13, [1] ++ P ++ cnt c, jn T o c⟩]).toArray 77)).heap.size = w19.heap.size + 1 := by simp
                  refine wpAnyH_ready (rs := [21]) (by kernel_rfl) (by simp) ?_
                  refine AllReadyH.cons (o := ⟨_, _, _, _, _, _⟩) rfl (fun K hK => ?_) AllReadyH.nil
                  refine step_want rfl (wp_bldE2 (.tmp 120) (.tmp 132) rfl ⟨sp6, 1 + 32 + 32, cp6, [1] ++ T ++ o, P⟩ ⟨sp13, 1 + 32 + 32, cp13, [1] ++ P ++ cnt c, jn T o c⟩ (congrArg Value.agg hAE.out.symm) rfl hP32 (jn_len _ _ _) ?_)
                  refine hK.out _ _ ⟨A21.bel H20, C21.bel H20, D21.bel H20, F17.a8.bel H20⟩ (fun hHeld => ?_)
                  clear hK K
                  try simp only [Act.put, List.setIfInBounds_toArray, List.set_cons_zero, List.set_cons_succ]
                  have E20 := EX7.below H20
                  have okE : ∀ e ∈ [(⟨sp6, 1 + 32 + 32, cp6, [1] ++ T ++ o, P⟩ : En), ⟨sp13, 1 + 32 + 32, cp13, [1] ++ P ++ cnt c, jn T o c⟩], EnOK (w19.alloc (.cells (flatE [⟨sp6, 1 + 32 + 32, cp6, [1] ++ T ++ o, P⟩, ⟨sp13, 1 + 32 + 32, cp13, [1] ++ P ++ cnt c, jn T o c⟩]).toArray 77)).heap.size (w19.alloc (.cells (flatE [⟨sp6, 1 + 32 + 32, cp6, [1] ++ T ++ o, P⟩, ⟨sp13, 1 + 32 + 32, cp13, [1] ++ P ++ cnt c, jn T o c⟩]).toArray 77)) e := by
                    intro e he
                    simp only [List.mem_cons, List.not_mem_nil, or_false] at he
                    rcases he with rfl | rfl
                    · exact ⟨(SE.below (a20.mono (by omega))).mono (by omega), hP32⟩
                    · exact ⟨(SF.below (a20.mono (by omega))).mono (by omega), jn_len _ _ _⟩
                  have apE : ∀ e ∈ [(⟨sp6, 1 + 32 + 32, cp6, [1] ++ T ++ o, P⟩ : En), ⟨sp13, 1 + 32 + 32, cp13, [1] ++ P ++ cnt c, jn T o c⟩], ∀ b off, e.sp = some ⟨b, off, none⟩ → xb + 1 ≤ b ∧ b < (w19.alloc (.cells (flatE [⟨sp6, 1 + 32 + 32, cp6, [1] ++ T ++ o, P⟩, ⟨sp13, 1 + 32 + 32, cp13, [1] ++ P ++ cnt c, jn T o c⟩]).toArray 77)).heap.size ∧ some b ≠ vx1.ownBlock ∧ b ≠ xb := by
                    intro e he b off q'
                    simp only [List.mem_cons, List.not_mem_nil, or_false] at he
                    rcases he with rfl | rfl
                    · exact apart (base := xb + 1) (ax := xb) (v := vx1) SE (by omega) (M := Q.heap.size) (fun g off e => (hsp6.out g off e).1) (fun k hk => own_lt EX7.own hk) (by omega) (by omega) (K := (w19.alloc (.cells (flatE [⟨sp6, 1 + 32 + 32, cp6, [1] ++ T ++ o, P⟩, ⟨sp13, 1 + 32 + 32, cp13, [1] ++ P ++ cnt c, jn T o c⟩]).toArray 77)).heap.size) (by omega) b off q'
                    · exact apart (base := xb + 1) (ax := xb) (v := vx1) SF (by omega) (M := Q.heap.size) (fun g off e => (hsp13.out g off e).1) (fun k hk => own_lt EX7.own hk) (by omega) (by omega) (K := (w19.alloc (.cells (flatE [⟨sp6, 1 + 32 + 32, cp6, [1] ++ T ++ o, P⟩, ⟨sp13, 1 + 32 + 32, cp13, [1] ++ P ++ cnt c, jn T o c⟩]).toArray 77)).heap.size) (by omega) b off q'
                  refine wpAnyH_ready (rs := [22]) (by kernel_rfl) (by simp) ?_
                  refine AllReadyH.cons (o := ⟨_, _, _, _, _, _⟩) rfl (fun K hK => ?_) (AllReadyH.nil)
                  refine step_want rfl (wp_appEs (.tmp 112) (.tmp 133) rfl (xb + 1) xb vx1 (xs ++ [e1]) [⟨sp6, 1 + 32 + 32, cp6, [1] ++ T ++ o, P⟩, ⟨sp13, 1 + 32 + 32, cp13, [1] ++ P ++ cnt c, jn T o c⟩] rfl E20 w19.heap.size 0 2 2 rfl rfl L20 okE apE (by rw [List.length_append, hxl]; simp) (by omega) (by have := H20.size; omega) ?_)
                  intro v22 u22 E22 g22 h22
                  have T22 : Arr u22 g16 24 (h8 T) ∧ Arr u22 g18 24 (h8 P) ∧ Arr u22 g19 24 (h8 (cnt c)) ∧ Arr u22 b8 44 (wtA wsp 5 wcap o c) := ⟨(A21.bel H20).grown g22 (fun e => own_arr_ne E20.own (A21.bel H20) (by decide) e.symm), (C21.bel H20).grown g22 (fun e => own_arr_ne E20.own (C21.bel H20) (by decide) e.symm), (D21.bel H20).grown g22 (fun e => own_arr_ne E20.own (D21.bel H20) (by decide) e.symm), (F17.a8.bel H20).grown g22 (fun e => own_arr_ne E20.own (F17.a8.bel H20) (by decide) e.symm)⟩
                  refine hK.out _ _ T22 (fun hHeld => ?_)
                  clear hK K
                  try simp only [Act.put, List.setIfInBounds_toArray, List.set_cons_zero, List.set_cons_succ]
                  refine wpAnyH_take (i := 23) (oi := ⟨_, _, _, _, _, _⟩) (v := ?_) rfl (by kernel_rfl) (by kernel_rfl) (by kernel_rfl) (fun _ _ _ h => h) (Or.inl ⟨by rfl, ?_⟩) (by assumption) ?_
                  rotate_left
                  · intro u hSw
                    go_simp
                    try (with_reducible rfl)
                  try simp only [Act.put, List.setIfInBounds_toArray, List.set_cons_zero, List.set_cons_succ]
                  refine wpAnyH_done (by kernel_rfl) ?_ _
                  go_wp2_with fail
                  go_meet
                  exact ⟨v22, _, ⟨sp6, 1 + 32 + 32, cp6, [1] ++ T ++ o, P⟩, ⟨sp13, 1 + 32 + 32, cp13, [1] ++ P ++ cnt c, jn T o c⟩, rfl, H20, g22, E22, hEF.out sp6 cp6 sp13 cp13⟩
              · have hs2 : (Q.drew.alloc (.cells #[.int .u8 1] 5)).heap.size = Q.heap.size + 1 := by simp
                have H2 := H1.alloc H1.size (.cells #[.int .u8 1] 5)
                have ow9_2 : ((Q.drew.alloc (.cells #[.int .u8 1] 5)).alloc (.cells #[.int .u8 1] 5)).ownsRow Q.heap.size 5 1 (.slice (some ⟨Q.heap.size + 1, 0, none⟩) 1 1) 1 (by8 [1]) := by rw [← hs2]; exact World.ownsRow_lit _ _ _ H1.size (by unfold maxLen; omega) rfl
                have ow1_1_2 := ow1_1.alloc (.cells #[.int .u8 1] 5)
                have dd2 : ∀ k, ((.slice (some ⟨Q.heap.size, 0, none⟩) 1 1) : Value).ownBlock = some k → (Value.slice (some ⟨Q.heap.size + 1, 0, none⟩) 1 1).ownBlock ≠ some k := fun k hk q => by have e1 : Q.heap.size + 1 = k := Option.some.inj q; have e2 := own_lt ow1_1 hk; omega
                refine step_want rfl ?_
                go_simp
                go_wp2_with fail
                refine hK.out _ _ ⟨A21.bel H2, C21.bel H2, D21.bel H2, F17.a8.bel H2⟩ (fun hHeld => ?_)
                clear hK K
                try simp only [Act.put, List.setIfInBounds_toArray, List.set_cons_zero, List.set_cons_succ]
                refine wpAnyH_ready (rs := [3]) (by kernel_rfl) (by simp) ?_
                refine AllReadyH.cons (o := ⟨_, _, _, _, _, _⟩) rfl (fun K hK => ?_) (AllReadyH.nil)
                refine step_want rfl (wp_apB (.tmp 113) (.tmp 114) rfl Q.heap.size (1) (.slice (some ⟨Q.heap.size, 0, none⟩) 1 1) ([1]) T rfl ow1_1_2 g16 0 32 rfl (A21.bel H2).range hT32 (by omega) H2.size ?_)
                intro v3 x3 ow3_3 gg3 h53
                have H3 := H2.grown gg3 H2.size (fun k e => own_ge ow1_1_2 k e)
                have zz3 := gg3.size
                have ow9_2_3 := own_same ow9_2 (fun k hk => gg3.block k (own_lt ow9_2 hk) (fun e => dd2 k e.symm hk))
                have dd3 := apart_grow ow9_2 h53 dd2
                refine hK.out _ _ ⟨A21.bel H3, C21.bel H3, D21.bel H3, F17.a8.bel H3⟩ (fun hHeld => ?_)
                clear hK K
                try simp only [Act.put, List.setIfInBounds_toArray, List.set_cons_zero, List.set_cons_succ]
                refine wpAnyH_ready (rs := [6]) (by kernel_rfl) (by simp) ?_
                refine AllReadyH.cons (o := ⟨_, _, _, _, _, _⟩) rfl (fun K hK => ?_) (AllReadyH.nil)
                refine step_want rfl (wp_apB (.tmp 115) (.tmp 117) rfl Q.heap.size (1 + 32) v3 ([1] ++ T) o rfl ow3_3 b8 (0 + 1) 32 rfl (wt_o (F17.a8.bel H3).wt) ho32 (by omega) H3.size ?_)
                intro v6 x4 ow6_4 gg4 h54
                have H4 := H3.grown gg4 H3.size (fun k e => own_ge ow3_3 k e)
                have zz4 := gg4.size
                have ow9_2_3_4 := own_same ow9_2_3 (fun k hk => gg4.block k (own_lt ow9_2_3 hk) (fun e => dd3 k e.symm hk))
                have dd4 := apart_grow ow9_2_3 h54 dd3
                obtain ⟨sp6, cp6, rfl, bs6, hsp6⟩ := own_bs ow6_4 hbE (by omega)
                replace hsp6 := Hid.mk' hsp6
                refine hK.out _ _ ⟨A21.bel H4, C21.bel H4, D21.bel H4, F17.a8.bel H4⟩ (fun hHeld => ?_)
                clear hK K
                try simp only [Act.put, List.setIfInBounds_toArray, List.set_cons_zero, List.set_cons_succ]
                refine wpAnyH_take (i := 8) (oi := ⟨_, _, _, _, _, _⟩) rfl (by kernel_rfl) (by kernel_rfl) (by kernel_rfl) (fun _ _ _ h => h) (y_bd (by rfl) 77 _ rfl (by rfl) (built54 sp6 (1 + 32 + 32) cp6 P hP32 ([1] ++ T ++ o))) (by assumption) ?_
                try simp only [Act.put, List.setIfInBounds_toArray, List.set_cons_zero, List.set_cons_succ]
                generalize hAE : En.arr ⟨sp6, 1 + 32 + 32, cp6, [1] ++ T ++ o, P⟩ = AE
                replace hAE := Hid.mk' hAE
                refine wpAnyH_ready (rs := [11]) (by kernel_rfl) (by simp) ?_
                refine AllReadyH.cons (o := ⟨_, _, _, _, _, _⟩) rfl (fun K hK => ?_) (AllReadyH.nil)
                refine step_want rfl (wp_apB (.tmp 121) (.tmp 122) rfl Q.heap.size (1) (.slice (some ⟨Q.heap.size + 1, 0, none⟩) 1 1) ([1]) P rfl ow9_2_3_4 g18 0 32 rfl (C21.bel H4).range hP32 (by omega) H4.size ?_)
                intro v11 x5 ow11_5 gg5 h55
                have H5 := H4.grown gg5 H4.size (fun k e => own_ge ow9_2_3_4 k e)
                have zz5 := gg5.size
                have ow6_4_5 := own_same ow6_4 (fun k hk => gg5.block k (own_lt ow6_4 hk) (fun e => dd4 k hk e.symm))
                have bs_5 := (bs6.far gg5 (Nat.le_refl _) (fun b off q e => dd4 b (by rw [q]; rfl) e.symm)).mono zz5
                have dd5 := apart_grow2 ow6_4 h55 dd4
                refine hK.out _ _ ⟨A21.bel H5, C21.bel H5, D21.bel H5, F17.a8.bel H5⟩ (fun hHeld => ?_)
                clear hK K
                try simp only [Act.put, List.setIfInBounds_toArray, List.set_cons_zero, List.set_cons_succ]
                refine wpAnyH_ready (rs := [13]) (by kernel_rfl) (by simp) ?_
                refine AllReadyH.cons (o := ⟨_, _, _, _, _, _⟩) rfl (fun K hK => ?_) (AllReadyH.nil)
                refine step_want rfl (wp_apB (.tmp 123) (.tmp 124) rfl Q.heap.size (1 + 32) v11 ([1] ++ P) (cnt c) rfl ow11_5 g19 0 32 rfl (D21.bel H5).range (cnt_len c) (by omega) H5.size ?_)
                intro v13 x6 ow13_6 gg6 h56
                have H6 := H5.grown gg6 H5.size (fun k e => own_ge ow11_5 k e)
                have zz6 := gg6.size
                have ow6_4_5_6 := own_same ow6_4_5 (fun k hk => gg6.block k (own_lt ow6_4_5 hk) (fun e => dd5 k hk e.symm))
                have bs_6 := (bs_5.far gg6 (Nat.le_refl _) (fun b off q e => dd5 b (by rw [q]; rfl) e.symm)).mono zz6
                have dd6 := apart_grow2 ow6_4_5 h56 dd5
                obtain ⟨sp13, cp13, rfl, bs13, hsp13⟩ := own_bs ow13_6 hbF (by omega)
                replace hsp13 := Hid.mk' hsp13
                refine hK.out _ _ ⟨A21.bel H6, C21.bel H6, D21.bel H6, F17.a8.bel H6⟩ (fun hHeld => ?_)
                clear hK K
                try simp only [Act.put, List.setIfInBounds_toArray, List.set_cons_zero, List.set_cons_succ]
                refine wpAnyH_ready (rs := [19]) (by kernel_rfl) (by simp) ?_
                refine AllReadyH.cons (o := ⟨_, _, _, _, _, _⟩) rfl (fun K hK => ?_) (AllReadyH.nil)
                refine step_want rfl ?_
                go_simp
                refine (joined_any T o c _ hT32 ho32).mono ?_; rintro r w19 ⟨rfl, hb19⟩
                have H19 := H6.trans (hb19.mono H6.size)
                have SE := bs_6.below hb19
                have SF := bs13.below hb19
                have z19 := hb19.size
                go_wp2_with fail
                refine hK.out _ _ ⟨A21.bel H19, C21.bel H19, D21.bel H19, F17.a8.bel H19⟩ (fun hHeld => ?_)
                clear hK K
                try simp only [Act.put, List.setIfInBounds_toArray, List.set_cons_zero, List.set_cons_succ]
                refine wpAnyH_take (i := 20) (oi := ⟨_, _, _, _, _, _⟩) rfl (by kernel_rfl) (by kernel_rfl) (by kernel_rfl) (fun _ _ _ h => h) (y_bd (by rfl) 77 _ rfl (by rfl) (built54 sp13 (1 + 32 + 32) cp13 (jn T o c) (jn_len _ _ _) ([1] ++ P ++ cnt c))) (by assumption) ?_
                try simp only [Act.put, List.setIfInBounds_toArray, List.set_cons_zero, List.set_cons_succ]
                have H20 := H19.alloc H19.size (.cells (flatE [⟨sp6, 1 + 32 + 32, cp6, [1] ++ T ++ o, P⟩, ⟨sp13, 1 + 32 + 32, cp13, [1] ++ P ++ cnt c, jn T o c⟩]).toArray 77)
                have a20 := alloc_bel' w19 (.cells (flatE [⟨sp6, 1 + 32 + 32, cp6, [1] ++ T ++ o, P⟩, ⟨sp13, 1 + 32 + 32, cp13, [1] ++ P ++ cnt c, jn T o c⟩]).toArray 77)
                have L20 := lit2_range (Arr.new w19 77 (flatE [⟨sp6, 1 + 32 + 32, cp6, [1] ++ T ++ o, P⟩, ⟨sp13, 1 + 32 + 32, cp13, [1] ++ P ++ cnt c, jn T o c⟩]).toArray) hP32 (jn_len _ _ _)
                have z20 : (w19.alloc (.cells (flatE [⟨sp6, 1 + 32 + 32, cp6, [1] ++ T ++ o, P⟩, ⟨sp13, 1 + 32 + 32, cp13, [1] ++ P ++ cnt c, jn T o c⟩]).toArray 77)).heap.size = w19.heap.size + 1 := by simp
                refine wpAnyH_ready (rs := [21]) (by kernel_rfl) (by simp) ?_
                refine AllReadyH.cons (o := ⟨_, _, _, _, _, _⟩) rfl (fun K hK => ?_) AllReadyH.nil
                refine step_want rfl (wp_bldE2 (.tmp 120) (.tmp 132) rfl ⟨sp6, 1 + 32 + 32, cp6, [1] ++ T ++ o, P⟩ ⟨sp13, 1 + 32 + 32, cp13, [1] ++ P ++ cnt c, jn T o c⟩ (congrArg Value.agg hAE.out.symm) rfl hP32 (jn_len _ _ _) ?_)
                refine hK.out _ _ ⟨A21.bel H20, C21.bel H20, D21.bel H20, F17.a8.bel H20⟩ (fun hHeld => ?_)
                clear hK K
                try simp only [Act.put, List.setIfInBounds_toArray, List.set_cons_zero, List.set_cons_succ]
                have E20 := EX7.below H20
                have okE : ∀ e ∈ [(⟨sp6, 1 + 32 + 32, cp6, [1] ++ T ++ o, P⟩ : En), ⟨sp13, 1 + 32 + 32, cp13, [1] ++ P ++ cnt c, jn T o c⟩], EnOK (w19.alloc (.cells (flatE [⟨sp6, 1 + 32 + 32, cp6, [1] ++ T ++ o, P⟩, ⟨sp13, 1 + 32 + 32, cp13, [1] ++ P ++ cnt c, jn T o c⟩]).toArray 77)).heap.size (w19.alloc (.cells (flatE [⟨sp6, 1 + 32 + 32, cp6, [1] ++ T ++ o, P⟩, ⟨sp13, 1 + 32 + 32, cp13, [1] ++ P ++ cnt c, jn T o c⟩]).toArray 77)) e := by
                  intro e he
                  simp only [List.mem_cons, List.not_mem_nil, or_false] at he
                  rcases he with rfl | rfl
                  · exact ⟨(SE.below (a20.mono (by omega))).mono (by omega), hP32⟩
                  · exact ⟨(SF.below (a20.mono (by omega))).mono (by omega), jn_len _ _ _⟩
                have apE : ∀ e ∈ [(⟨sp6, 1 + 32 + 32, cp6, [1] ++ T ++ o, P⟩ : En), ⟨sp13, 1 + 32 + 32, cp13, [1] ++ P ++ cnt c, jn T o c⟩], ∀ b off, e.sp = some ⟨b, off, none⟩ → xb + 1 ≤ b ∧ b < (w19.alloc (.cells (flatE [⟨sp6, 1 + 32 + 32, cp6, [1] ++ T ++ o, P⟩, ⟨sp13, 1 + 32 + 32, cp13, [1] ++ P ++ cnt c, jn T o c⟩]).toArray 77)).heap.size ∧ some b ≠ vx1.ownBlock ∧ b ≠ xb := by
                  intro e he b off q'
                  simp only [List.mem_cons, List.not_mem_nil, or_false] at he
                  rcases he with rfl | rfl
                  · exact apart (base := xb + 1) (ax := xb) (v := vx1) SE (by omega) (M := Q.heap.size) (fun g off e => (hsp6.out g off e).1) (fun k hk => own_lt EX7.own hk) (by omega) (by omega) (K := (w19.alloc (.cells (flatE [⟨sp6, 1 + 32 + 32, cp6, [1] ++ T ++ o, P⟩, ⟨sp13, 1 + 32 + 32, cp13, [1] ++ P ++ cnt c, jn T o c⟩]).toArray 77)).heap.size) (by omega) b off q'
                  · exact apart (base := xb + 1) (ax := xb) (v := vx1) SF (by omega) (M := Q.heap.size) (fun g off e => (hsp13.out g off e).1) (fun k hk => own_lt EX7.own hk) (by omega) (by omega) (K := (w19.alloc (.cells (flatE [⟨sp6, 1 + 32 + 32, cp6, [1] ++ T ++ o, P⟩, ⟨sp13, 1 + 32 + 32, cp13, [1] ++ P ++ cnt c, jn T o c⟩]).toArray 77)).heap.size) (by omega) b off q'
                refine wpAnyH_ready (rs := [22]) (by kernel_rfl) (by simp) ?_
                refine AllReadyH.cons (o := ⟨_, _, _, _, _, _⟩) rfl (fun K hK => ?_) (AllReadyH.nil)
                refine step_want rfl (wp_appEs (.tmp 112) (.tmp 133) rfl (xb + 1) xb vx1 (xs ++ [e1]) [⟨sp6, 1 + 32 + 32, cp6, [1] ++ T ++ o, P⟩, ⟨sp13, 1 + 32 + 32, cp13, [1] ++ P ++ cnt c, jn T o c⟩] rfl E20 w19.heap.size 0 2 2 rfl rfl L20 okE apE (by rw [List.length_append, hxl]; simp) (by omega) (by have := H20.size; omega) ?_)
                intro v22 u22 E22 g22 h22
                have T22 : Arr u22 g16 24 (h8 T) ∧ Arr u22 g18 24 (h8 P) ∧ Arr u22 g19 24 (h8 (cnt c)) ∧ Arr u22 b8 44 (wtA wsp 5 wcap o c) := ⟨(A21.bel H20).grown g22 (fun e => own_arr_ne E20.own (A21.bel H20) (by decide) e.symm), (C21.bel H20).grown g22 (fun e => own_arr_ne E20.own (C21.bel H20) (by decide) e.symm), (D21.bel H20).grown g22 (fun e => own_arr_ne E20.own (D21.bel H20) (by decide) e.symm), (F17.a8.bel H20).grown g22 (fun e => own_arr_ne E20.own (F17.a8.bel H20) (by decide) e.symm)⟩
                refine hK.out _ _ T22 (fun hHeld => ?_)
                clear hK K
                try simp only [Act.put, List.setIfInBounds_toArray, List.set_cons_zero, List.set_cons_succ]
                refine wpAnyH_take (i := 23) (oi := ⟨_, _, _, _, _, _⟩) (v := ?_) rfl (by kernel_rfl) (by kernel_rfl) (by kernel_rfl) (fun _ _ _ h => h) (Or.inl ⟨by rfl, ?_⟩) (by assumption) ?_
                rotate_left
                · intro u hSw
                  go_simp
                  try (with_reducible rfl)
                try simp only [Act.put, List.setIfInBounds_toArray, List.set_cons_zero, List.set_cons_succ]
                refine wpAnyH_done (by kernel_rfl) ?_ _
                go_wp2_with fail
                go_meet
                exact ⟨v22, _, ⟨sp6, 1 + 32 + 32, cp6, [1] ++ T ++ o, P⟩, ⟨sp13, 1 + 32 + 32, cp13, [1] ++ P ++ cnt c, jn T o c⟩, rfl, H20, g22, E22, hEF.out sp6 cp6 sp13 cp13⟩
            · have hs1 : Q.drew.heap.size = Q.heap.size := by simp
              have H1 := H0.alloc H0.size (.cells #[.int .u8 1] 5)
              have ow9_1 : (Q.drew.alloc (.cells #[.int .u8 1] 5)).ownsRow Q.heap.size 5 1 (.slice (some ⟨Q.heap.size, 0, none⟩) 1 1) 1 (by8 [1]) := by rw [← hs1]; exact World.ownsRow_lit _ _ _ H0.size (by unfold maxLen; omega) rfl
              refine step_want rfl ?_
              go_simp
              go_wp2_with fail
              refine hK.out _ _ ⟨A21.bel H1, C21.bel H1, D21.bel H1, F17.a8.bel H1⟩ (fun hHeld => ?_)
              clear hK K
              try simp only [Act.put, List.setIfInBounds_toArray, List.set_cons_zero, List.set_cons_succ]
              refine wpAnyH_ready (rs := [1]) (by kernel_rfl) (by simp) ?_
              refine AllReadyH.cons (o := ⟨_, _, _, _, _, _⟩) rfl (fun K hK => ?_) (AllReadyH.nil)
              have hs2 : (Q.drew.alloc (.cells #[.int .u8 1] 5)).heap.size = Q.heap.size + 1 := by simp
              have H2 := H1.alloc H1.size (.cells #[.int .u8 1] 5)
              have ow1_2 : ((Q.drew.alloc (.cells #[.int .u8 1] 5)).alloc (.cells #[.int .u8 1] 5)).ownsRow Q.heap.size 5 1 (.slice (some ⟨Q.heap.size + 1, 0, none⟩) 1 1) 1 (by8 [1]) := by rw [← hs2]; exact World.ownsRow_lit _ _ _ H1.size (by unfold maxLen; omega) rfl
              have ow9_1_2 := ow9_1.alloc (.cells #[.int .u8 1] 5)
              have dd2 : ∀ k, (Value.slice (some ⟨Q.heap.size + 1, 0, none⟩) 1 1).ownBlock = some k → ((.slice (some ⟨Q.heap.size, 0, none⟩) 1 1) : Value).ownBlock ≠ some k := fun k hk q => by have e1 : Q.heap.size + 1 = k := Option.some.inj hk; have e2 := own_lt ow9_1 q; omega
              refine step_want rfl ?_
              go_simp
              go_wp2_with fail
              refine hK.out _ _ ⟨A21.bel H2, C21.bel H2, D21.bel H2, F17.a8.bel H2⟩ (fun hHeld => ?_)
              clear hK K
              try simp only [Act.put, List.setIfInBounds_toArray, List.set_cons_zero, List.set_cons_succ]
              refine wpAnyH_ready (rs := [3]) (by kernel_rfl) (by simp) ?_
              refine AllReadyH.cons (o := ⟨_, _, _, _, _, _⟩) rfl (fun K hK => ?_) (AllReadyH.nil)
              refine step_want rfl (wp_apB (.tmp 113) (.tmp 114) rfl Q.heap.size (1) (.slice (some ⟨Q.heap.size + 1, 0, none⟩) 1 1) ([1]) T rfl ow1_2 g16 0 32 rfl (A21.bel H2).range hT32 (by omega) H2.size ?_)
              intro v3 x3 ow3_3 gg3 h53
              have H3 := H2.grown gg3 H2.size (fun k e => own_ge ow1_2 k e)
              have zz3 := gg3.size
              have ow9_1_2_3 := own_same ow9_1_2 (fun k hk => gg3.block k (own_lt ow9_1_2 hk) (fun e => dd2 k e.symm hk))
              have dd3 := apart_grow ow9_1_2 h53 dd2
              refine hK.out _ _ ⟨A21.bel H3, C21.bel H3, D21.bel H3, F17.a8.bel H3⟩ (fun hHeld => ?_)
              clear hK K
              try simp only [Act.put, List.setIfInBounds_toArray, List.set_cons_zero, List.set_cons_succ]
              refine wpAnyH_ready (rs := [6]) (by kernel_rfl) (by simp) ?_
              refine AllReadyH.cons (o := ⟨_, _, _, _, _, _⟩) rfl (fun K hK => ?_) (AllReadyH.nil)
              refine step_want rfl (wp_apB (.tmp 115) (.tmp 117) rfl Q.heap.size (1 + 32) v3 ([1] ++ T) o rfl ow3_3 b8 (0 + 1) 32 rfl (wt_o (F17.a8.bel H3).wt) ho32 (by omega) H3.size ?_)
              intro v6 x4 ow6_4 gg4 h54
              have H4 := H3.grown gg4 H3.size (fun k e => own_ge ow3_3 k e)
              have zz4 := gg4.size
              have ow9_1_2_3_4 := own_same ow9_1_2_3 (fun k hk => gg4.block k (own_lt ow9_1_2_3 hk) (fun e => dd3 k e.symm hk))
              have dd4 := apart_grow ow9_1_2_3 h54 dd3
              obtain ⟨sp6, cp6, rfl, bs6, hsp6⟩ := own_bs ow6_4 hbE (by omega)
              replace hsp6 := Hid.mk' hsp6
              refine hK.out _ _ ⟨A21.bel H4, C21.bel H4, D21.bel H4, F17.a8.bel H4⟩ (fun hHeld => ?_)
              clear hK K
              try simp only [Act.put, List.setIfInBounds_toArray, List.set_cons_zero, List.set_cons_succ]
              refine wpAnyH_take (i := 8) (oi := ⟨_, _, _, _, _, _⟩) rfl (by kernel_rfl) (by kernel_rfl) (by kernel_rfl) (fun _ _ _ h => h) (y_bd (by rfl) 77 _ rfl (by rfl) (built54 sp6 (1 + 32 + 32) cp6 P hP32 ([1] ++ T ++ o))) (by assumption) ?_
              try simp only [Act.put, List.setIfInBounds_toArray, List.set_cons_zero, List.set_cons_succ]
              generalize hAE : En.arr ⟨sp6, 1 + 32 + 32, cp6, [1] ++ T ++ o, P⟩ = AE
              replace hAE := Hid.mk' hAE
              refine wpAnyH_ready (rs := [11]) (by kernel_rfl) (by simp) ?_
              refine AllReadyH.cons (o := ⟨_, _, _, _, _, _⟩) rfl (fun K hK => ?_) (AllReadyH.nil)
              refine step_want rfl (wp_apB (.tmp 121) (.tmp 122) rfl Q.heap.size (1) (.slice (some ⟨Q.heap.size, 0, none⟩) 1 1) ([1]) P rfl ow9_1_2_3_4 g18 0 32 rfl (C21.bel H4).range hP32 (by omega) H4.size ?_)
              intro v11 x5 ow11_5 gg5 h55
              have H5 := H4.grown gg5 H4.size (fun k e => own_ge ow9_1_2_3_4 k e)
              have zz5 := gg5.size
              have ow6_4_5 := own_same ow6_4 (fun k hk => gg5.block k (own_lt ow6_4 hk) (fun e => dd4 k hk e.symm))
              have bs_5 := (bs6.far gg5 (Nat.le_refl _) (fun b off q e => dd4 b (by rw [q]; rfl) e.symm)).mono zz5
              have dd5 := apart_grow2 ow6_4 h55 dd4
              refine hK.out _ _ ⟨A21.bel H5, C21.bel H5, D21.bel H5, F17.a8.bel H5⟩ (fun hHeld => ?_)
              clear hK K
              try simp only [Act.put, List.setIfInBounds_toArray, List.set_cons_zero, List.set_cons_succ]
              refine wpAnyH_ready (rs := [13]) (by kernel_rfl) (by simp) ?_
              refine AllReadyH.cons (o := ⟨_, _, _, _, _, _⟩) rfl (fun K hK => ?_) (AllReadyH.nil)
              refine step_want rfl (wp_apB (.tmp 123) (.tmp 124) rfl Q.heap.size (1 + 32) v11 ([1] ++ P) (cnt c) rfl ow11_5 g19 0 32 rfl (D21.bel H5).range (cnt_len c) (by omega) H5.size ?_)
              intro v13 x6 ow13_6 gg6 h56
              have H6 := H5.grown gg6 H5.size (fun k e => own_ge ow11_5 k e)
              have zz6 := gg6.size
              have ow6_4_5_6 := own_same ow6_4_5 (fun k hk => gg6.block k (own_lt ow6_4_5 hk) (fun e => dd5 k hk e.symm))
              have bs_6 := (bs_5.far gg6 (Nat.le_refl _) (fun b off q e => dd5 b (by rw [q]; rfl) e.symm)).mono zz6
              have dd6 := apart_grow2 ow6_4_5 h56 dd5
              obtain ⟨sp13, cp13, rfl, bs13, hsp13⟩ := own_bs ow13_6 hbF (by omega)
              replace hsp13 := Hid.mk' hsp13
              refine hK.out _ _ ⟨A21.bel H6, C21.bel H6, D21.bel H6, F17.a8.bel H6⟩ (fun hHeld => ?_)
              clear hK K
              try simp only [Act.put, List.setIfInBounds_toArray, List.set_cons_zero, List.set_cons_succ]
              refine wpAnyH_ready (rs := [19]) (by kernel_rfl) (by simp) ?_
              refine AllReadyH.cons (o := ⟨_, _, _, _, _, _⟩) rfl (fun K hK => ?_) (AllReadyH.nil)
              refine step_want rfl ?_
              go_simp
              refine (joined_any T o c _ hT32 ho32).mono ?_; rintro r w19 ⟨rfl, hb19⟩
              have H19 := H6.trans (hb19.mono H6.size)
              have SE := bs_6.below hb19
              have SF := bs13.below hb19
              have z19 := hb19.size
              go_wp2_with fail
              refine hK.out _ _ ⟨A21.bel H19, C21.bel H19, D21.bel H19, F17.a8.bel H19⟩ (fun hHeld => ?_)
              clear hK K
              try simp only [Act.put, List.setIfInBounds_toArray, List.set_cons_zero, List.set_cons_succ]
              refine wpAnyH_take (i := 20) (oi := ⟨_, _, _, _, _, _⟩) rfl (by kernel_rfl) (by kernel_rfl) (by kernel_rfl) (fun _ _ _ h => h) (y_bd (by rfl) 77 _ rfl (by rfl) (built54 sp13 (1 + 32 + 32) cp13 (jn T o c) (jn_len _ _ _) ([1] ++ P ++ cnt c))) (by assumption) ?_
              try simp only [Act.put, List.setIfInBounds_toArray, List.set_cons_zero, List.set_cons_succ]
              have H20 := H19.alloc H19.size (.cells (flatE [⟨sp6, 1 + 32 + 32, cp6, [1] ++ T ++ o, P⟩, ⟨sp13, 1 + 32 + 32, cp13, [1] ++ P ++ cnt c, jn T o c⟩]).toArray 77)
              have a20 := alloc_bel' w19 (.cells (flatE [⟨sp6, 1 + 32 + 32, cp6, [1] ++ T ++ o, P⟩, ⟨sp13, 1 + 32 + 32, cp13, [1] ++ P ++ cnt c, jn T o c⟩]).toArray 77)
              have L20 := lit2_range (Arr.new w19 77 (flatE [⟨sp6, 1 + 32 + 32, cp6, [1] ++ T ++ o, P⟩, ⟨sp13, 1 + 32 + 32, cp13, [1] ++ P ++ cnt c, jn T o c⟩]).toArray) hP32 (jn_len _ _ _)
              have z20 : (w19.alloc (.cells (flatE [⟨sp6, 1 + 32 + 32, cp6, [1] ++ T ++ o, P⟩, ⟨sp13, 1 + 32 + 32, cp13, [1] ++ P ++ cnt c, jn T o c⟩]).toArray 77)).heap.size = w19.heap.size + 1 := by simp
              refine wpAnyH_ready (rs := [21]) (by kernel_rfl) (by simp) ?_
              refine AllReadyH.cons (o := ⟨_, _, _, _, _, _⟩) rfl (fun K hK => ?_) AllReadyH.nil
              refine step_want rfl (wp_bldE2 (.tmp 120) (.tmp 132) rfl ⟨sp6, 1 + 32 + 32, cp6, [1] ++ T ++ o, P⟩ ⟨sp13, 1 + 32 + 32, cp13, [1] ++ P ++ cnt c, jn T o c⟩ (congrArg Value.agg hAE.out.symm) rfl hP32 (jn_len _ _ _) ?_)
              refine hK.out _ _ ⟨A21.bel H20, C21.bel H20, D21.bel H20, F17.a8.bel H20⟩ (fun hHeld => ?_)
              clear hK K
              try simp only [Act.put, List.setIfInBounds_toArray, List.set_cons_zero, List.set_cons_succ]
              have E20 := EX7.below H20
              have okE : ∀ e ∈ [(⟨sp6, 1 + 32 + 32, cp6, [1] ++ T ++ o, P⟩ : En), ⟨sp13, 1 + 32 + 32, cp13, [1] ++ P ++ cnt c, jn T o c⟩], EnOK (w19.alloc (.cells (flatE [⟨sp6, 1 + 32 + 32, cp6, [1] ++ T ++ o, P⟩, ⟨sp13, 1 + 32 + 32, cp13, [1] ++ P ++ cnt c, jn T o c⟩]).toArray 77)).heap.size (w19.alloc (.cells (flatE [⟨sp6, 1 + 32 + 32, cp6, [1] ++ T ++ o, P⟩, ⟨sp13, 1 + 32 + 32, cp13, [1] ++ P ++ cnt c, jn T o c⟩]).toArray 77)) e := by
                intro e he
                simp only [List.mem_cons, List.not_mem_nil, or_false] at he
                rcases he with rfl | rfl
                · exact ⟨(SE.below (a20.mono (by omega))).mono (by omega), hP32⟩
                · exact ⟨(SF.below (a20.mono (by omega))).mono (by omega), jn_len _ _ _⟩
              have apE : ∀ e ∈ [(⟨sp6, 1 + 32 + 32, cp6, [1] ++ T ++ o, P⟩ : En), ⟨sp13, 1 + 32 + 32, cp13, [1] ++ P ++ cnt c, jn T o c⟩], ∀ b off, e.sp = some ⟨b, off, none⟩ → xb + 1 ≤ b ∧ b < (w19.alloc (.cells (flatE [⟨sp6, 1 + 32 + 32, cp6, [1] ++ T ++ o, P⟩, ⟨sp13, 1 + 32 + 32, cp13, [1] ++ P ++ cnt c, jn T o c⟩]).toArray 77)).heap.size ∧ some b ≠ vx1.ownBlock ∧ b ≠ xb := by
                intro e he b off q'
                simp only [List.mem_cons, List.not_mem_nil, or_false] at he
                rcases he with rfl | rfl
                · exact apart (base := xb + 1) (ax := xb) (v := vx1) SE (by omega) (M := Q.heap.size) (fun g off e => (hsp6.out g off e).1) (fun k hk => own_lt EX7.own hk) (by omega) (by omega) (K := (w19.alloc (.cells (flatE [⟨sp6, 1 + 32 + 32, cp6, [1] ++ T ++ o, P⟩, ⟨sp13, 1 + 32 + 32, cp13, [1] ++ P ++ cnt c, jn T o c⟩]).toArray 77)).heap.size) (by omega) b off q'
                · exact apart (base := xb + 1) (ax := xb) (v := vx1) SF (by omega) (M := Q.heap.size) (fun g off e => (hsp13.out g off e).1) (fun k hk => own_lt EX7.own hk) (by omega) (by omega) (K := (w19.alloc (.cells (flatE [⟨sp6, 1 + 32 + 32, cp6, [1] ++ T ++ o, P⟩, ⟨sp13, 1 + 32 + 32, cp13, [1] ++ P ++ cnt c, jn T o c⟩]).toArray 77)).heap.size) (by omega) b off q'
              refine wpAnyH_ready (rs := [22]) (by kernel_rfl) (by simp) ?_
              refine AllReadyH.cons (o := ⟨_, _, _, _, _, _⟩) rfl (fun K hK => ?_) (AllReadyH.nil)
              refine step_want rfl (wp_appEs (.tmp 112) (.tmp 133) rfl (xb + 1) xb vx1 (xs ++ [e1]) [⟨sp6, 1 + 32 + 32, cp6, [1] ++ T ++ o, P⟩, ⟨sp13, 1 + 32 + 32, cp13, [1] ++ P ++ cnt c, jn T o c⟩] rfl E20 w19.heap.size 0 2 2 rfl rfl L20 okE apE (by rw [List.length_append, hxl]; simp) (by omega) (by have := H20.size; omega) ?_)
              intro v22 u22 E22 g22 h22
              have T22 : Arr u22 g16 24 (h8 T) ∧ Arr u22 g18 24 (h8 P) ∧ Arr u22 g19 24 (h8 (cnt c)) ∧ Arr u22 b8 44 (wtA wsp 5 wcap o c) := ⟨(A21.bel H20).grown g22 (fun e => own_arr_ne E20.own (A21.bel H20) (by decide) e.symm), (C21.bel H20).grown g22 (fun e => own_arr_ne E20.own (C21.bel H20) (by decide) e.symm), (D21.bel H20).grown g22 (fun e => own_arr_ne E20.own (D21.bel H20) (by decide) e.symm), (F17.a8.bel H20).grown g22 (fun e => own_arr_ne E20.own (F17.a8.bel H20) (by decide) e.symm)⟩
              refine hK.out _ _ T22 (fun hHeld => ?_)
              clear hK K
              try simp only [Act.put, List.setIfInBounds_toArray, List.set_cons_zero, List.set_cons_succ]
              refine wpAnyH_take (i := 23) (oi := ⟨_, _, _, _, _, _⟩) (v := ?_) rfl (by kernel_rfl) (by kernel_rfl) (by kernel_rfl) (fun _ _ _ h => h) (Or.inl ⟨by rfl, ?_⟩) (by assumption) ?_
              rotate_left
              · intro u hSw
                go_simp
                try (with_reducible rfl)
              try simp only [Act.put, List.setIfInBounds_toArray, List.set_cons_zero, List.set_cons_succ]
              refine wpAnyH_done (by kernel_rfl) ?_ _
              go_wp2_with fail
              go_meet
              exact ⟨v22, _, ⟨sp6, 1 + 32 + 32, cp6, [1] ++ T ++ o, P⟩, ⟨sp13, 1 + 32 + 32, cp13, [1] ++ P ++ cnt c, jn T o c⟩, rfl, H20, g22, E22, hEF.out sp6 cp6 sp13 cp13⟩
          case' rest =>
            obtain ⟨vx2, u5, e2, e3, rfl, hb5, g5, EX8, he2⟩ := hcut
            have F18 := (F17.below hb5).grown (EX7.below hb5).own (by omega) g5
            have EK8 := (EK7.below hb5).farN iK g5 (fun k hk => .inr (by have := own_ge EX7.own k hk; omega))
            have hz5q := g5.size
            clear F17 EK7 EX7 A21 C21 D21 g5 hb5
          have hl8 : (xs ++ [e1] ++ [e2, e3]).length = 8 := by simp [hxl]
          obtain ⟨gx, cx, rfl, hgx, hgx2, hRx⟩ := EX8.sl1 (by omega)
          rw [hl8]
          have HL8 := Hid.mk' hl8
          clear hl8
          have apx := EX8.apN (base := kbase + 1) (ax := kbase) (v := vk) (es := ks) (by omega) (by omega) (fun k hk => .inl (by have := iK.out.1 k hk; omega))
          obtain ⟨ys, hys⟩ : ∃ ys, ys = xs ++ [e1] ++ [e2, e3] := ⟨_, rfl⟩
          rw [← hys] at EX8 hRx apx HL8
          have hYb : Hid (ys.map En.bs = clS i a ls o c) := Hid.mk' (by
            rw [hys, List.map_append, List.map_append, hxb.out]
            simp only [List.map_cons, List.map_nil, he1.out.1, he2.out.1, he2.out.2.1]
            unfold clS pr
            rw [hT.out, hP.out])
          have hYs : Hid (∀ e ∈ ys, e.sm = shl e.bs) := Hid.mk' (fun e he => by
            rw [hys] at he
            rcases List.mem_append.1 he with he | he
            · rcases List.mem_append.1 he with he | he
              · exact hxs.out e he
              · simp only [List.mem_singleton] at he; subst he; exact he1.out.2
            · simp only [List.mem_cons, List.not_mem_nil, or_false] at he
              rcases he with rfl | rfl
              · exact he2.out.2.2.1
              · exact he2.out.2.2.2)
          have hfind : Hid (∀ x y z, Fnd (ks ++ ys) x y z → z = true) := Hid.mk' (fun x y z h => by
            obtain ⟨u, v, hu, hv, hsh, hnuv⟩ := state_binds (os := os) h1 hok.out ha HB.out hl5 hWp.l32 ho32 (by rw [hT.out]; exact hjn.out) hne.out
            rw [← hKb.out, ← hYb.out, ← List.map_append] at hu hv
            exact find_true hu hv hsh hnuv (fun e he => (List.mem_append.1 he).elim (hks.out e) (hYs.out e)) h)
          clear hys hYb hYs hKb hxb he1 he2 hxs hjn hT hP hEF
          have hF18z := F18.bel.size
          go_upto_region 16 with (first
            | (refine atA (.tmp 136) (.tmp 137) ?_; go_must (refine appEs (by rfl) (.tmp 136) (.tmp 137) (by rfl) (kbase + 1) kbase _ ks ys (by rfl) EK8 gx 0 8 cx HL8.out.symm (by rfl) hRx (fun e he => EX8.ok e he) apx (by omega) (by omega) (by omega) ?_; intro vz z1 EZ gz hz; have BZ := F18.bel.grown gz F18.bel.size (fun k e => by have := own_ge EK8.own k e; omega); obtain ⟨zs, hzs⟩ : ∃ zs, zs = ks ++ ys := ⟨_, rfl⟩; rw [← hzs] at EZ; have Hzs := Hid.mk' hzs; clear hzs; obtain ⟨sz, cz, rfl, ESz⟩ := EZ.es (by rw [Hzs.out, List.length_append, HL8.out]; omega)))
            | (go_at_call 41; go_must (refine (refFind_any sz _ cz zs _ _ ESz).mono ?_; rintro r z2 ⟨fx, fy, fz, rfl, hfz, hbz⟩; have BZ2 := BZ.trans (hbz.mono BZ.size); have hz1 := hfind.out fx fy fz (by rw [← Hzs.out]; exact hfz); subst hz1)))
          go_wp2_with (go_at_call 22; go_must (refine (anchored_any _).mono ?_; rintro e z3 ⟨rfl, hbz3⟩; have BZ3 := BZ2.trans (hbz3.mono BZ2.size)))
          go_ret
          exact ⟨rfl, BZ3⟩
        · go_wp2_with (go_at_call 22; go_must (refine (anchored_any _).mono ?_; rintro e w5 ⟨rfl, hb5⟩; have F5 := (F4.below (Below.refl V.heap.size V).drew).below hb5))
          go_ret
          exact ⟨rfl, F5.bel⟩
end Go.Proofs.Ytlebojbfcolkhaa
