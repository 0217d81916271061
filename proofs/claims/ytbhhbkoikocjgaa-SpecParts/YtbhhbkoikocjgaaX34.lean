/- Layer spec: the law SpecParts. -/
import Derived.Test.YtbhhbkoikocjgaaX33
import Derived.Test.YtbhhbkoikocjgaaX30
import Derived.Test.YtbhhbkoikocjgaaX25
namespace Go.Proofs.Ytbhhbkoikocjgaa
set_option linter.unusedSectionVars false
set_option maxHeartbeats 1000000
open Go.RowKit Go.Shelf
set_option maxRecDepth 100000
set_option linter.unusedVariables false
set_option linter.unusedSimpArgs false


variable [DecidableEq Ac] [DecidableEq Ou] [DecidableEq Mg]
theorem tmod_nat (a b : Nat) : Int.tmod (a : Int) (b : Int) = ((a % b : Nat) : Int) := rfl
set_option maxHeartbeats 4000000 in
theorem parts_walk (ps : List Ac) (sp : Option Addr) (n cap : Nat) (os : List Ou) (sl : Option Addr) (nl cl : Nat) (es : List Bz) (m : Int) (w : World) (hS : SS w.heap.size w ps sp n cap os) (hL : BL w.heap.size w sl nl cl es) (hm0 : 0 ≤ m ∧ m < 256) :
    Calls Try.prog 6 #[.agg (stA ps sp n cap), .slice sl nl cl, .int .u8 m] w fun e w' => e = .returned (.bool true) ∧ Below w.heap.size w w' := by
  have h1 := hS.a32.out
  have h2 := hS.l32
  have hnn := hS.outs.len
  have hns := hS.outs.small
  have hz30 := zeroValue30
  have hzsz : (stA zs none 0 0).size = 1089 := stA_size zs_len zs_l32
  generalize stA zs none 0 0 = Z at hz30 hzsz
  have A0 := Arr.new w 30 (stA ps sp n cap)
  have B0 := alloc_bel' w (.cells (stA ps sp n cap) 30)
  have hrok := rnA_ok (Ls := bzs es) h1 hS.ok.out hS.outs.ok hL.bts
  obtain ⟨mm, rfl⟩ : ∃ mm : Nat, m = (mm : Int) := ⟨m.toNat, by omega⟩
  have hmm : mm < 256 := by omega
  have hk0 : mm % (nl + 1) ≤ nl := by have := Nat.mod_lt mm (show 0 < nl + 1 by omega); omega
  have hrem : Int.tmod (mm : Int) ((nl : Int) + 1) = ((mm % (nl + 1) : Nat) : Int) := by exact_mod_cast tmod_nat mm (nl + 1)
  have hsm := hL.small
  have hnlI : (nl : Int) ≤ 9223372036854775000 := by omega
  have hne0 : ¬ ((nl : Int) + 1 = 0) := by omega
  generalize mm % (nl + 1) = k at hk0 hrem
  have hkI : (k : Int) ≤ 9223372036854775000 := by omega
  have hLk := hL.take (c := k) hk0 (Nat.le_refl _) (Nat.le_trans hk0 hL.le) (fun e => by have := hL.nil e; omega)
  have hLr := hL.rest hk0
  have hcu3 := Hid.mk' (fun u => run_cut3 sl nl cl k u hk0 hL.le)
  have hrst := Hid.mk' (fun u => run_rest sl nl cl k u hk0 hL.le)
  have hR8 := Hid.mk' (fun u (hb : Below w.heap.size w u) => run_any ps w.heap.size sp n cap os sl nl cl w.heap.size es u (hS.below hb) (hL.below hb) hb.size)
  have hRa := Hid.mk' (fun u (hb : Below w.heap.size w u) => run_any ps w.heap.size sp n cap os sl k k w.heap.size (es.take k) u (hS.below hb) (hLk.below hb) hb.size)
  have hR13 := Hid.mk' (fun u (hb : Below w.heap.size w u) => flow_any ps w.heap.size sp n cap os sl nl cl w.heap.size es u (hS.below hb) (hL.below hb) hb.size)
  have hmay := fun u => refMay_any ps sp n cap u h1 hS.ok.out hns
  have eT : rnA ps os (bzs (es.take k)) k = rnA ps os (bzs es) k := by rw [bzs_take, rnA_take ps os (bzs es) (Nat.le_refl k)]
  have eY : yR ps os (bzs (es.take k)) k = yR ps os (bzs es) k := by unfold yR; rw [eT]
  rw [eY] at hRa
  clear eY eT
  obtain ⟨hp1, hp3, hp4⟩ := yR_ok (hrok nl)
  have hp2 : ∀ a ∈ (yR ps os (bzs es) nl).P, a.lk.length = 32 := fun a ha => (hp3 a ha).l32
  obtain ⟨hq1, hq3, hq4⟩ := yR_ok (hrok k)
  have hq2 : ∀ a ∈ (yR ps os (bzs es) k).P, a.lk.length = 32 := fun a ha => (hq3 a ha).l32
  unfold RunPost at hR8 hRa
  cases hm : may ps n with
  | false =>
    rw [hm] at hmay
    have hm' : may ps os.length = false := by rw [← hnn.out]; exact hm
    have hE : xE ps os = 2 := by unfold xE; rw [hm']; rfl
    rw [hE] at hR8 hRa
    clear hR13 hrst hLr hp3 hp4 hq3 hq4 hrok
    generalize yR ps os (bzs es) nl = R at *
    generalize yR ps os (bzs es) k = R1 at *
    go_enter Try.func6, Try.ntmps6
    go_upto_region 3 with (first
      | (refine atL 30 (.tmp 3) ?_; refine ld30 (by rfl) _ (by rfl) w.heap.size 30 (by rfl) ps sp n cap h1 h2 A0 ?_)
      | (go_at_call 8; go_must (refine (hR8.out _ B0).mono ?_; rintro r w1 ⟨s0, n0, c0, sd0, k0, cd0, rfl, hst0, -, -, hb1⟩))
      | (refine atS 30 (.tmp 8) (.tmp 34) ?_; refine st30n (by rfl) _ _ (by rfl) w1 w1.heap.size rfl hzsz R.P s0 n0 c0 (by rfl) (by rfl) hp1 hp2 ?_))
    have A1 := (A0.below hb1 A0.lt).alloc (.cells (stA R.P s0 n0 c0) 30)
    have B1 := (B0.trans (hb1.mono B0.size)).alloc (Nat.le_trans B0.size hb1.size) (.cells (stA R.P s0 n0 c0) 30)
    generalize w1.alloc (.cells (stA R.P s0 n0 c0) 30) = V at *
    generalize w1.heap.size = G1 at *
    clear hb1 hst0 A0 B0 hR8
    go_cut [11, 12, 13] from 24 to 115 (fun x y z wc => ∃ gt s1 n1 c1, (x = .pointer (some ⟨gt, 0, none⟩) ∧ (∃ sd kk cd, y = .slice sd kk cd) ∧ z = .int .i64 2 ∧ n1 ≤ 33) ∧ V.heap.size ≤ gt ∧ Arr wc gt 30 (stA R1.P s1 n1 c1) ∧ Hid (n1 = R1.O.length) ∧ wc.ownsRow V.heap.size 66 2 (.slice s1 n1 c1) n1 (ouF R1.O) ∧ Below V.heap.size V wc)
    case first =>
      refine wp_region_held_drew (S := fun u => Below V.heap.size V u) (by kernel_rfl) ((Below.refl _ _).drew) (fun hHeld => ?_)
      refine wpAnyH_take (i := 0) (oi := ⟨_, _, _, _, _, _⟩) rfl (by kernel_rfl) (by kernel_rfl) (by kernel_rfl) (fun _ _ _ h => h) (y30 (by rfl) (.tmp 3) rfl w.heap.size 30 rfl ps sp n cap h1 h2 (fun u hu => A1.below hu A1.lt)) (by assumption) ?_
      try simp only [Act.put, List.setIfInBounds_toArray, List.set_cons_zero, List.set_cons_succ]
      refine wpAnyH_take (i := 1) (oi := ⟨_, _, _, _, _, _⟩) (v := ?_) rfl (by kernel_rfl) (by kernel_rfl) (by kernel_rfl) (fun _ _ _ h => h) (Or.inl ⟨by rfl, ?_⟩) (by assumption) ?_
      rotate_left
      · intro u hSw
        go_simp
        try (with_reducible rfl)
      try simp only [Act.put, List.setIfInBounds_toArray, List.set_cons_zero, List.set_cons_succ]
      refine wpAnyH_take (i := 2) (oi := ⟨_, _, _, _, _, _⟩) (v := ?_) rfl (by kernel_rfl) (by kernel_rfl) (by kernel_rfl) (fun _ _ _ h => h) (Or.inl ⟨by rfl, ?_⟩) (by assumption) ?_
      rotate_left
      · intro u hSw
        go_simp
        try (with_reducible rfl)
      try simp only [Act.put, List.setIfInBounds_toArray, List.set_cons_zero, List.set_cons_succ]
      refine wpAnyH_take (i := 3) (oi := ⟨_, _, _, _, _, _⟩) (v := ?_) rfl (by kernel_rfl) (by kernel_rfl) (by kernel_rfl) (fun _ _ _ h => h) (Or.inl ⟨by rfl, ?_⟩) (by assumption) ?_
      rotate_left
      · intro u hSw
        go_simp
        try (with_reducible rfl)
      try simp only [Act.put, List.setIfInBounds_toArray, List.set_cons_zero, List.set_cons_succ]
      refine wpAnyH_take (i := 4) (oi := ⟨_, _, _, _, _, _⟩) (v := .slice sl k k) rfl (by kernel_rfl) (by kernel_rfl) (by kernel_rfl) (fun _ _ _ h => h) (Or.inl ⟨by rfl, fun u hSw => by simp [execOp, Act.eval, hcu3.out]⟩) (by assumption) ?_
      try simp only [Act.put, List.setIfInBounds_toArray, List.set_cons_zero, List.set_cons_succ]
      refine wpAnyH_ready (rs := [5, 10]) (by kernel_rfl) (by simp) ?_
      refine AllReadyH.cons (o := ⟨_, _, _, _, _, _⟩) rfl (fun K hK => ?_) (AllReadyH.cons (o := ⟨_, _, _, _, _, _⟩) rfl (fun K hK => ?_) AllReadyH.nil)
      · go_simp
        have hB0 : Below V.heap.size V V.drew := (Below.refl _ _).drew
        refine (hRa.out V.drew (B1.trans (hB0.mono B1.size))).mono ?_
        rintro r u1 ⟨s1, n1, c1, sd, kk, cd, rfl, hst1, -, -, hb1⟩
        have hn1 := hst1.len
        have hle1 := hst1.le
        have own1 := hst1.own
        have hB1 := hB0.trans (hb1.mono hB0.size)
        go_wp2_with fail
        refine hK.out _ _ hB1 (fun hHeld => ?_)
        clear hK K
        try simp only [Act.put, List.setIfInBounds_toArray, List.set_cons_zero, List.set_cons_succ]
        refine wpAnyH_take (i := 6) (oi := ⟨_, _, _, _, _, _⟩) (v := ?_) rfl (by kernel_rfl) (by kernel_rfl) (by kernel_rfl) (fun _ _ _ h => h) (Or.inl ⟨by rfl, ?_⟩) (by assumption) ?_
        rotate_left
        · intro u hSw
          go_simp
          try (with_reducible rfl)
        try simp only [Act.put, List.setIfInBounds_toArray, List.set_cons_zero, List.set_cons_succ]
        refine wpAnyH_take (i := 7) (oi := ⟨_, _, _, _, _, _⟩) (v := ?_) rfl (by kernel_rfl) (by kernel_rfl) (by kernel_rfl) (fun _ _ _ h => h) (Or.inl ⟨by rfl, ?_⟩) (by assumption) ?_
        rotate_left
        · intro u hSw
          go_simp
          try (with_reducible rfl)
        try simp only [Act.put, List.setIfInBounds_toArray, List.set_cons_zero, List.set_cons_succ]
        refine wpAnyH_take (i := 8) (oi := ⟨_, _, _, _, _, _⟩) (v := ?_) rfl (by kernel_rfl) (by kernel_rfl) (by kernel_rfl) (fun _ _ _ h => h) (Or.inl ⟨by rfl, ?_⟩) (by assumption) ?_
        rotate_left
        · intro u hSw
          go_simp
          try (with_reducible rfl)
        try simp only [Act.put, List.setIfInBounds_toArray, List.set_cons_zero, List.set_cons_succ]
        refine wpAnyH_take (i := 9) (oi := ⟨_, _, _, _, _, _⟩) (v := ?_) rfl (by kernel_rfl) (by kernel_rfl) (by kernel_rfl) (fun _ _ _ h => h) (Or.inl ⟨by rfl, ?_⟩) (by assumption) ?_
        rotate_left
        · intro u hSw
          go_simp
          try (with_reducible rfl)
        try simp only [Act.put, List.setIfInBounds_toArray, List.set_cons_zero, List.set_cons_succ]
        refine wpAnyH_ready (rs := [10]) (by kernel_rfl) (by simp) ?_
        refine AllReadyH.cons (o := ⟨_, _, _, _, _, _⟩) rfl (fun K hK => ?_) AllReadyH.nil
        have hB2 := hB1.alloc hB1.size (.cells Z 30)
        have hA2 := Arr.new u1 30 Z
        have hw2 := own1.alloc (.cells Z 30)
        go_simp
        go_wp2_with fail
        refine hK.out _ _ hB2 (fun hHeld => ?_)
        clear hK K
        try simp only [Act.put, List.setIfInBounds_toArray, List.set_cons_zero, List.set_cons_succ]
        refine wpAnyH_ready (rs := [11]) (by kernel_rfl) (by simp) ?_
        refine AllReadyH.cons (o := ⟨_, _, _, _, _, _⟩) rfl (fun K hK => ?_) AllReadyH.nil
        refine step_want rfl (wp_store_row 30 (.tmp 11) (.tmp 44) rfl u1.heap.size (stA R1.P s1 n1 c1) rfl rfl 30 _ hA2 (by rw [stA_size hq1 hq2]; exact size30) (by rw [hzsz, stA_size hq1 hq2]) (stA_one _ _ _ _) ?_)
        have hB3 := below_setRow hB2 hB1.size (stA R1.P s1 n1 c1)
        have hA3 := hA2.setRow (stA R1.P s1 n1 c1)
        have hw3 := own_same hw2 (w' := (u1.alloc (.cells Z 30)).setRow u1.heap.size (stA R1.P s1 n1 c1)) (fun b hb => setRow_other _ _ _ _ (by have := own_lt own1 hb; omega))
        refine hK.out _ _ hB3 (fun hHeld => ?_)
        clear hK K
        try simp only [Act.put, List.setIfInBounds_toArray, List.set_cons_zero, List.set_cons_succ]
        refine wpAnyH_take (i := 12) (oi := ⟨_, _, _, _, _, _⟩) (v := ?_) rfl (by kernel_rfl) (by kernel_rfl) (by kernel_rfl) (fun _ _ _ h => h) (Or.inl ⟨by rfl, ?_⟩) (by assumption) ?_
        rotate_left
        · intro u hSw
          go_simp
          try (with_reducible rfl)
        try simp only [Act.put, List.setIfInBounds_toArray, List.set_cons_zero, List.set_cons_succ]
        refine wpAnyH_take (i := 13) (oi := ⟨_, _, _, _, _, _⟩) (v := ?_) rfl (by kernel_rfl) (by kernel_rfl) (by kernel_rfl) (fun _ _ _ h => h) (Or.inl ⟨by rfl, ?_⟩) (by assumption) ?_
        rotate_left
        · intro u hSw
          go_simp
          try (with_reducible rfl)
        try simp only [Act.put, List.setIfInBounds_toArray, List.set_cons_zero, List.set_cons_succ]
        refine wpAnyH_done (by kernel_rfl) ?_ _
        go_wp2_with fail
        go_meet
        exact ⟨_, s1, n1, c1, ⟨rfl, ⟨_, _, _, rfl⟩, rfl, hle1⟩, hB1.size, hA3, hn1, own_mono hw3 hB0.size, hB3⟩
      · go_simp
        go_wp2_with fail
        have hB0 : Below V.heap.size V (V.drew.alloc (.cells Z 30)) := ((Below.refl V.heap.size V).drew).alloc (by simp) _
        have hA0 : Arr (V.drew.alloc (.cells Z 30)) V.heap.size 30 Z := Arr.new V.drew 30 Z
        refine hK.out _ _ hB0 (fun hHeld => ?_)
        clear hK K
        try simp only [Act.put, List.setIfInBounds_toArray, List.set_cons_zero, List.set_cons_succ]
        refine wpAnyH_ready (rs := [5]) (by kernel_rfl) (by simp) ?_
        refine AllReadyH.cons (o := ⟨_, _, _, _, _, _⟩) rfl (fun K hK => ?_) AllReadyH.nil
        go_simp
        refine (hRa.out (V.drew.alloc (.cells Z 30)) (B1.trans (hB0.mono B1.size))).mono ?_
        rintro r u1 ⟨s1, n1, c1, sd, kk, cd, rfl, hst1, -, -, hb1⟩
        have hn1 := hst1.len
        have hle1 := hst1.le
        have own1 := hst1.own
        have hB1 := hB0.trans (hb1.mono hB0.size)
        have hA1 := hA0.below hb1 hA0.lt
        have hgV : V.heap.size < (V.drew.alloc (.cells Z 30)).heap.size := by simp
        go_wp2_with fail
        refine hK.out _ _ hB1 (fun hHeld => ?_)
        clear hK K
        try simp only [Act.put, List.setIfInBounds_toArray, List.set_cons_zero, List.set_cons_succ]
        refine wpAnyH_take (i := 6) (oi := ⟨_, _, _, _, _, _⟩) (v := ?_) rfl (by kernel_rfl) (by kernel_rfl) (by kernel_rfl) (fun _ _ _ h => h) (Or.inl ⟨by rfl, ?_⟩) (by assumption) ?_
        rotate_left
        · intro u hSw
          go_simp
          try (with_reducible rfl)
        try simp only [Act.put, List.setIfInBounds_toArray, List.set_cons_zero, List.set_cons_succ]
        refine wpAnyH_take (i := 7) (oi := ⟨_, _, _, _, _, _⟩) (v := ?_) rfl (by kernel_rfl) (by kernel_rfl) (by kernel_rfl) (fun _ _ _ h => h) (Or.inl ⟨by rfl, ?_⟩) (by assumption) ?_
        rotate_left
        · intro u hSw
          go_simp
          try (with_reducible rfl)
        try simp only [Act.put, List.setIfInBounds_toArray, List.set_cons_zero, List.set_cons_succ]
        refine wpAnyH_take (i := 8) (oi := ⟨_, _, _, _, _, _⟩) (v := ?_) rfl (by kernel_rfl) (by kernel_rfl) (by kernel_rfl) (fun _ _ _ h => h) (Or.inl ⟨by rfl, ?_⟩) (by assumption) ?_
        rotate_left
        · intro u hSw
          go_simp
          try (with_reducible rfl)
        try simp only [Act.put, List.setIfInBounds_toArray, List.set_cons_zero, List.set_cons_succ]
        refine wpAnyH_take (i := 9) (oi := ⟨_, _, _, _, _, _⟩) (v := ?_) rfl (by kernel_rfl) (by kernel_rfl) (by kernel_rfl) (fun _ _ _ h => h) (Or.inl ⟨by rfl, ?_⟩) (by assumption) ?_
        rotate_left
        · intro u hSw
          go_simp
          try (with_reducible rfl)
        try simp only [Act.put, List.setIfInBounds_toArray, List.set_cons_zero, List.set_cons_succ]
        refine wpAnyH_ready (rs := [11]) (by kernel_rfl) (by simp) ?_
        refine AllReadyH.cons (o := ⟨_, _, _, _, _, _⟩) rfl (fun K hK => ?_) AllReadyH.nil
        refine step_want rfl (wp_store_row 30 (.tmp 11) (.tmp 44) rfl V.heap.size (stA R1.P s1 n1 c1) rfl rfl 30 _ hA1 (by rw [stA_size hq1 hq2]; exact size30) (by rw [hzsz, stA_size hq1 hq2]) (stA_one _ _ _ _) ?_)
        have hB3 := below_setRow hB1 (Nat.le_refl _) (stA R1.P s1 n1 c1)
        have hA3 := hA1.setRow (stA R1.P s1 n1 c1)
        have hw3 := own_same own1 (w' := u1.setRow V.heap.size (stA R1.P s1 n1 c1)) (fun b hb => setRow_other _ _ _ _ (by have := own_ge own1 b hb; omega))
        refine hK.out _ _ hB3 (fun hHeld => ?_)
        clear hK K
        try simp only [Act.put, List.setIfInBounds_toArray, List.set_cons_zero, List.set_cons_succ]
        refine wpAnyH_take (i := 12) (oi := ⟨_, _, _, _, _, _⟩) (v := ?_) rfl (by kernel_rfl) (by kernel_rfl) (by kernel_rfl) (fun _ _ _ h => h) (Or.inl ⟨by rfl, ?_⟩) (by assumption) ?_
        rotate_left
        · intro u hSw
          go_simp
          try (with_reducible rfl)
        try simp only [Act.put, List.setIfInBounds_toArray, List.set_cons_zero, List.set_cons_succ]
        refine wpAnyH_take (i := 13) (oi := ⟨_, _, _, _, _, _⟩) (v := ?_) rfl (by kernel_rfl) (by kernel_rfl) (by kernel_rfl) (fun _ _ _ h => h) (Or.inl ⟨by rfl, ?_⟩) (by assumption) ?_
        rotate_left
        · intro u hSw
          go_simp
          try (with_reducible rfl)
        try simp only [Act.put, List.setIfInBounds_toArray, List.set_cons_zero, List.set_cons_succ]
        refine wpAnyH_done (by kernel_rfl) ?_ _
        go_wp2_with fail
        go_meet
        exact ⟨_, s1, n1, c1, ⟨rfl, ⟨_, _, _, rfl⟩, rfl, hle1⟩, Nat.le_refl _, hA3, hn1, own_mono hw3 hB0.size, hB3⟩
    case rest =>
      obtain ⟨gt, s1, n1, c1, ⟨rfl, ⟨sd, kk, cd, rfl⟩, rfl, hle1⟩, hgt, T1, hn1, own1, hbc⟩ := hcut
      have A2 := A1.below hbc A1.lt
      have B2 := B1.trans (hbc.mono B1.size)
      go_wp2_with (first
        | (refine atL 30 (.tmp 3) ?_; refine ld30 (by rfl) _ (by rfl) w.heap.size 30 (by rfl) ps sp n cap h1 h2 A2 ?_)
        | (go_at_call 19; go_must (refine (hmay _).mono ?_; rintro r w3 ⟨rfl, hb3⟩; have B3 := B2.trans (hb3.mono B2.size)))
        | (go_at_call 15; go_must (refine (anchored_any _).mono ?_; rintro r w4 ⟨rfl, hb4⟩; have B4 := B3.trans (hb4.mono B3.size))))
      go_ret
      exact ⟨rfl, B4⟩
  | true =>
    rw [hm] at hmay
    have hm' : may ps os.length = true := by rw [← hnn.out]; exact hm
    have hmK := rnA_may (Ls := bzs es) h1 hS.ok.out hS.outs.ok hL.bts hm' k
    have hmN := rnA_may (Ls := bzs es) h1 hS.ok.out hS.outs.ok hL.bts hm' nl
    rw [yR_yes hm'] at hp1 hp2 hp3 hp4
    rw [yR_yes hm'] at hq1 hq2 hq3 hq4
    rw [yR_yes hm', xE_yes hm'] at hR8 hRa hR13
    have hdr := rnA_drop ps os (bzs es) k (nl - k)
    rw [show k + (nl - k) = nl by omega] at hdr
    have hRb := Hid.mk' (fun (V0 : World) s1 n1 c1 (hV0 : Below w.heap.size w V0) (S1 : SS V0.heap.size V0 (rnA ps os (bzs es) k).P s1 n1 c1 (rnA ps os (bzs es) k).O) u (hb : Below V0.heap.size V0 u) => run_any (rnA ps os (bzs es) k).P V0.heap.size s1 n1 c1 (rnA ps os (bzs es) k).O (restP sl cl k) (nl - k) (cl - k) w.heap.size (es.drop k) u (S1.below hb) (hLr.below (hV0.trans (hb.mono hV0.size))) (Nat.le_trans hV0.size hb.size))
    unfold RunPost at hRb
    rw [yR_yes hmK.1, xE_yes hmK.1, bzs_drop] at hRb
    simp only [hdr.1, hdr.2] at hRb
    have hT0 := fun u => refTotal_any ps sp n cap u h1 hS.ok.out
    have hT1 := Hid.mk' (fun s n c u => refTotal_any (rnA ps os (bzs es) nl).P s n c u hp1 hp3)
    rw [ttV_sum hS.ok.out hm] at hT0
    rw [ttV_sum hp3 hmN.1] at hT1
    have heq := Hid.mk' hmN.2
    have hsR := Hid.mk' (smB_self (rnA ps os (bzs es) nl).P (rnA ps os (bzs es) nl).O)
    have hwr : ∀ x : Int, IntKind.u64.wrap x = x % 18446744073709551616 := wrapB
    generalize ttE ps = te0 at *
    generalize ttE (rnA ps os (bzs es) nl).P = te1 at *
    generalize sm ps = x0 at *
    generalize sm (rnA ps os (bzs es) nl).P = x1 at *
    clear hmN hmK hdr hrok hLr hLk
    generalize rnA ps os (bzs es) nl = R at *
    generalize rnA ps os (bzs es) k = R1 at *
    have hbe : ((x1 + R.U) % 18446744073709551616 == (x0 + R.I) % 18446744073709551616) = true := by rw [heq.out]; simp
    generalize R.I = ri at *
    generalize R.U = ru at *
    replace hp3 := Hid.mk' hp3
    replace hq3 := Hid.mk' hq3
    go_enter Try.func6, Try.ntmps6
    go_upto_region 3 with (first
      | (refine atL 30 (.tmp 3) ?_; refine ld30 (by rfl) _ (by rfl) w.heap.size 30 (by rfl) ps sp n cap h1 h2 A0 ?_)
      | (go_at_call 8; go_must (refine (hR8.out _ B0).mono ?_; rintro r w1 ⟨s0, n0, c0, sd0, k0, cd0, rfl, hst0, -, -, hb1⟩))
      | (refine atS 30 (.tmp 8) (.tmp 34) ?_; refine st30n (by rfl) _ _ (by rfl) w1 w1.heap.size rfl hzsz R.P s0 n0 c0 (by rfl) (by rfl) hp1 hp2 ?_))
    have bb := alloc_bel' w1 (.cells (stA R.P s0 n0 c0) 30)
    have A1 := (A0.below hb1 A0.lt).alloc (.cells (stA R.P s0 n0 c0) 30)
    have B1 := (B0.trans (hb1.mono B0.size)).alloc (Nat.le_trans B0.size hb1.size) (.cells (stA R.P s0 n0 c0) 30)
    have T0 := Arr.new w1 30 (stA R.P s0 n0 c0)
    have S0 := (hst0.ss.below bb).here
    generalize w1.alloc (.cells (stA R.P s0 n0 c0) 30) = V at *
    generalize w1.heap.size = G1 at *
    clear hb1 hst0 A0 B0 hR8 bb
    go_cut [11, 12, 13] from 24 to 115 (fun x y z wc => ∃ gt s1 n1 c1, (x = .pointer (some ⟨gt, 0, none⟩) ∧ (∃ sd kk cd, y = .slice sd kk cd) ∧ z = .int .i64 0 ∧ n1 ≤ 33) ∧ V.heap.size ≤ gt ∧ Arr wc gt 30 (stA R1.P s1 n1 c1) ∧ Hid (n1 = R1.O.length) ∧ wc.ownsRow V.heap.size 66 2 (.slice s1 n1 c1) n1 (ouF R1.O) ∧ Below V.heap.size V wc)
    case first =>
      refine wp_region_held_drew (S := fun u => Below V.heap.size V u) (by kernel_rfl) ((Below.refl _ _).drew) (fun hHeld => ?_)
      refine wpAnyH_take (i := 0) (oi := ⟨_, _, _, _, _, _⟩) rfl (by kernel_rfl) (by kernel_rfl) (by kernel_rfl) (fun _ _ _ h => h) (y30 (by rfl) (.tmp 3) rfl w.heap.size 30 rfl ps sp n cap h1 h2 (fun u hu => A1.below hu A1.lt)) (by assumption) ?_
      try simp only [Act.put, List.setIfInBounds_toArray, List.set_cons_zero, List.set_cons_succ]
      refine wpAnyH_take (i := 1) (oi := ⟨_, _, _, _, _, _⟩) (v := ?_) rfl (by kernel_rfl) (by kernel_rfl) (by kernel_rfl) (fun _ _ _ h => h) (Or.inl ⟨by rfl, ?_⟩) (by assumption) ?_
      rotate_left
      · intro u hSw
        go_simp
        try (with_reducible rfl)
      try simp only [Act.put, List.setIfInBounds_toArray, List.set_cons_zero, List.set_cons_succ]
      refine wpAnyH_take (i := 2) (oi := ⟨_, _, _, _, _, _⟩) (v := ?_) rfl (by kernel_rfl) (by kernel_rfl) (by kernel_rfl) (fun _ _ _ h => h) (Or.inl ⟨by rfl, ?_⟩) (by assumption) ?_
      rotate_left
      · intro u hSw
        go_simp
        try (with_reducible rfl)
      try simp only [Act.put, List.setIfInBounds_toArray, List.set_cons_zero, List.set_cons_succ]
      refine wpAnyH_take (i := 3) (oi := ⟨_, _, _, _, _, _⟩) (v := ?_) rfl (by kernel_rfl) (by kernel_rfl) (by kernel_rfl) (fun _ _ _ h => h) (Or.inl ⟨by rfl, ?_⟩) (by assumption) ?_
      rotate_left
      · intro u hSw
        go_simp
        try (with_reducible rfl)
      try simp only [Act.put, List.setIfInBounds_toArray, List.set_cons_zero, List.set_cons_succ]
      refine wpAnyH_take (i := 4) (oi := ⟨_, _, _, _, _, _⟩) (v := .slice sl k k) rfl (by kernel_rfl) (by kernel_rfl) (by kernel_rfl) (fun _ _ _ h => h) (Or.inl ⟨by rfl, fun u hSw => by simp [execOp, Act.eval, hcu3.out]⟩) (by assumption) ?_
      try simp only [Act.put, List.setIfInBounds_toArray, List.set_cons_zero, List.set_cons_succ]
      refine wpAnyH_ready (rs := [5, 10]) (by kernel_rfl) (by simp) ?_
      refine AllReadyH.cons (o := ⟨_, _, _, _, _, _⟩) rfl (fun K hK => ?_) (AllReadyH.cons (o := ⟨_, _, _, _, _, _⟩) rfl (fun K hK => ?_) AllReadyH.nil)
      · go_simp
        have hB0 : Below V.heap.size V V.drew := (Below.refl _ _).drew
        refine (hRa.out V.drew (B1.trans (hB0.mono B1.size))).mono ?_
        rintro r u1 ⟨s1, n1, c1, sd, kk, cd, rfl, hst1, -, -, hb1⟩
        have hn1 := hst1.len
        have hle1 := hst1.le
        have own1 := hst1.own
        have hB1 := hB0.trans (hb1.mono hB0.size)
        go_wp2_with fail
        refine hK.out _ _ hB1 (fun hHeld => ?_)
        clear hK K
        try simp only [Act.put, List.setIfInBounds_toArray, List.set_cons_zero, List.set_cons_succ]
        refine wpAnyH_take (i := 6) (oi := ⟨_, _, _, _, _, _⟩) (v := ?_) rfl (by kernel_rfl) (by kernel_rfl) (by kernel_rfl) (fun _ _ _ h => h) (Or.inl ⟨by rfl, ?_⟩) (by assumption) ?_
        rotate_left
        · intro u hSw
          go_simp
          try (with_reducible rfl)
        try simp only [Act.put, List.setIfInBounds_toArray, List.set_cons_zero, List.set_cons_succ]
        refine wpAnyH_take (i := 7) (oi := ⟨_, _, _, _, _, _⟩) (v := ?_) rfl (by kernel_rfl) (by kernel_rfl) (by kernel_rfl) (fun _ _ _ h => h) (Or.inl ⟨by rfl, ?_⟩) (by assumption) ?_
        rotate_left
        · intro u hSw
          go_simp
          try (with_reducible rfl)
        try simp only [Act.put, List.setIfInBounds_toArray, List.set_cons_zero, List.set_cons_succ]
        refine wpAnyH_take (i := 8) (oi := ⟨_, _, _, _, _, _⟩) (v := ?_) rfl (by kernel_rfl) (by kernel_rfl) (by kernel_rfl) (fun _ _ _ h => h) (Or.inl ⟨by rfl, ?_⟩) (by assumption) ?_
        rotate_left
        · intro u hSw
          go_simp
          try (with_reducible rfl)
        try simp only [Act.put, List.setIfInBounds_toArray, List.set_cons_zero, List.set_cons_succ]
        refine wpAnyH_take (i := 9) (oi := ⟨_, _, _, _, _, _⟩) (v := ?_) rfl (by kernel_rfl) (by kernel_rfl) (by kernel_rfl) (fun _ _ _ h => h) (Or.inl ⟨by rfl, ?_⟩) (by assumption) ?_
        rotate_left
        · intro u hSw
          go_simp
          try (with_reducible rfl)
        try simp only [Act.put, List.setIfInBounds_toArray, List.set_cons_zero, List.set_cons_succ]
        refine wpAnyH_ready (rs := [10]) (by kernel_rfl) (by simp) ?_
        refine AllReadyH.cons (o := ⟨_, _, _, _, _, _⟩) rfl (fun K hK => ?_) AllReadyH.nil
        have hB2 := hB1.alloc hB1.size (.cells Z 30)
        have hA2 := Arr.new u1 30 Z
        have hw2 := own1.alloc (.cells Z 30)
        go_simp
        go_wp2_with fail
        refine hK.out _ _ hB2 (fun hHeld => ?_)
        clear hK K
        try simp only [Act.put, List.setIfInBounds_toArray, List.set_cons_zero, List.set_cons_succ]
        refine wpAnyH_ready (rs := [11]) (by kernel_rfl) (by simp) ?_
        refine AllReadyH.cons (o := ⟨_, _, _, _, _, _⟩) rfl (fun K hK => ?_) AllReadyH.nil
        refine step_want rfl (wp_store_row 30 (.tmp 11) (.tmp 44) rfl u1.heap.size (stA R1.P s1 n1 c1) rfl rfl 30 _ hA2 (by rw [stA_size hq1 hq2]; exact size30) (by rw [hzsz, stA_size hq1 hq2]) (stA_one _ _ _ _) ?_)
        have hB3 := below_setRow hB2 hB1.size (stA R1.P s1 n1 c1)
        have hA3 := hA2.setRow (stA R1.P s1 n1 c1)
        have hw3 := own_same hw2 (w' := (u1.alloc (.cells Z 30)).setRow u1.heap.size (stA R1.P s1 n1 c1)) (fun b hb => setRow_other _ _ _ _ (by have := own_lt own1 hb; omega))
        refine hK.out _ _ hB3 (fun hHeld => ?_)
        clear hK K
        try simp only [Act.put, List.setIfInBounds_toArray, List.set_cons_zero, List.set_cons_succ]
        refine wpAnyH_take (i := 12) (oi := ⟨_, _, _, _, _, _⟩) (v := ?_) rfl (by kernel_rfl) (by kernel_rfl) (by kernel_rfl) (fun _ _ _ h => h) (Or.inl ⟨by rfl, ?_⟩) (by assumption) ?_
        rotate_left
        · intro u hSw
          go_simp
          try (with_reducible rfl)
        try simp only [Act.put, List.setIfInBounds_toArray, List.set_cons_zero, List.set_cons_succ]
        refine wpAnyH_take (i := 13) (oi := ⟨_, _, _, _, _, _⟩) (v := ?_) rfl (by kernel_rfl) (by kernel_rfl) (by kernel_rfl) (fun _ _ _ h => h) (Or.inl ⟨by rfl, ?_⟩) (by assumption) ?_
        rotate_left
        · intro u hSw
          go_simp
          try (with_reducible rfl)
        try simp only [Act.put, List.setIfInBounds_toArray, List.set_cons_zero, List.set_cons_succ]
        refine wpAnyH_done (by kernel_rfl) ?_ _
        go_wp2_with fail
        go_meet
        exact ⟨_, s1, n1, c1, ⟨rfl, ⟨_, _, _, rfl⟩, rfl, hle1⟩, hB1.size, hA3, hn1, own_mono hw3 hB0.size, hB3⟩
      · go_simp
        go_wp2_with fail
        have hB0 : Below V.heap.size V (V.drew.alloc (.cells Z 30)) := ((Below.refl V.heap.size V).drew).alloc (by simp) _
        have hA0 : Arr (V.drew.alloc (.cells Z 30)) V.heap.size 30 Z := Arr.new V.drew 30 Z
        refine hK.out _ _ hB0 (fun hHeld => ?_)
        clear hK K
        try simp only [Act.put, List.setIfInBounds_toArray, List.set_cons_zero, List.set_cons_succ]
        refine wpAnyH_ready (rs := [5]) (by kernel_rfl) (by simp) ?_
        refine AllReadyH.cons (o := ⟨_, _, _, _, _, _⟩) rfl (fun K hK => ?_) AllReadyH.nil
        go_simp
        refine (hRa.out (V.drew.alloc (.cells Z 30)) (B1.trans (hB0.mono B1.size))).mono ?_
        rintro r u1 ⟨s1, n1, c1, sd, kk, cd, rfl, hst1, -, -, hb1⟩
        have hn1 := hst1.len
        have hle1 := hst1.le
        have own1 := hst1.own
        have hB1 := hB0.trans (hb1.mono hB0.size)
        have hA1 := hA0.below hb1 hA0.lt
        have hgV : V.heap.size < (V.drew.alloc (.cells Z 30)).heap.size := by simp
        go_wp2_with fail
        refine hK.out _ _ hB1 (fun hHeld => ?_)
        clear hK K
        try simp only [Act.put, List.setIfInBounds_toArray, List.set_cons_zero, List.set_cons_succ]
        refine wpAnyH_take (i := 6) (oi := ⟨_, _, _, _, _, _⟩) (v := ?_) rfl (by kernel_rfl) (by kernel_rfl) (by kernel_rfl) (fun _ _ _ h => h) (Or.inl ⟨by rfl, ?_⟩) (by assumption) ?_
        rotate_left
        · intro u hSw
          go_simp
          try (with_reducible rfl)
        try simp only [Act.put, List.setIfInBounds_toArray, List.set_cons_zero, List.set_cons_succ]
        refine wpAnyH_take (i := 7) (oi := ⟨_, _, _, _, _, _⟩) (v := ?_) rfl (by kernel_rfl) (by kernel_rfl) (by kernel_rfl) (fun _ _ _ h => h) (Or.inl ⟨by rfl, ?_⟩) (by assumption) ?_
        rotate_left
        · intro u hSw
          go_simp
          try (with_reducible rfl)
        try simp only [Act.put, List.setIfInBounds_toArray, List.set_cons_zero, List.set_cons_succ]
        refine wpAnyH_take (i := 8) (oi := ⟨_, _, _, _, _, _⟩) (v := ?_) rfl (by kernel_rfl) (by kernel_rfl) (by kernel_rfl) (fun _ _ _ h => h) (Or.inl ⟨by rfl, ?_⟩) (by assumption) ?_
        rotate_left
        · intro u hSw
          go_simp
          try (with_reducible rfl)
        try simp only [Act.put, List.setIfInBounds_toArray, List.set_cons_zero, List.set_cons_succ]
        refine wpAnyH_take (i := 9) (oi := ⟨_, _, _, _, _, _⟩) (v := ?_) rfl (by kernel_rfl) (by kernel_rfl) (by kernel_rfl) (fun _ _ _ h => h) (Or.inl ⟨by rfl, ?_⟩) (by assumption) ?_
        rotate_left
        · intro u hSw
          go_simp
          try (with_reducible rfl)
        try simp only [Act.put, List.setIfInBounds_toArray, List.set_cons_zero, List.set_cons_succ]
        refine wpAnyH_ready (rs := [11]) (by kernel_rfl) (by simp) ?_
        refine AllReadyH.cons (o := ⟨_, _, _, _, _, _⟩) rfl (fun K hK => ?_) AllReadyH.nil
        refine step_want rfl (wp_store_row 30 (.tmp 11) (.tmp 44) rfl V.heap.size (stA R1.P s1 n1 c1) rfl rfl 30 _ hA1 (by rw [stA_size hq1 hq2]; exact size30) (by rw [hzsz, stA_size hq1 hq2]) (stA_one _ _ _ _) ?_)
        have hB3 := below_setRow hB1 (Nat.le_refl _) (stA R1.P s1 n1 c1)
        have hA3 := hA1.setRow (stA R1.P s1 n1 c1)
        have hw3 := own_same own1 (w' := u1.setRow V.heap.size (stA R1.P s1 n1 c1)) (fun b hb => setRow_other _ _ _ _ (by have := own_ge own1 b hb; omega))
        refine hK.out _ _ hB3 (fun hHeld => ?_)
        clear hK K
        try simp only [Act.put, List.setIfInBounds_toArray, List.set_cons_zero, List.set_cons_succ]
        refine wpAnyH_take (i := 12) (oi := ⟨_, _, _, _, _, _⟩) (v := ?_) rfl (by kernel_rfl) (by kernel_rfl) (by kernel_rfl) (fun _ _ _ h => h) (Or.inl ⟨by rfl, ?_⟩) (by assumption) ?_
        rotate_left
        · intro u hSw
          go_simp
          try (with_reducible rfl)
        try simp only [Act.put, List.setIfInBounds_toArray, List.set_cons_zero, List.set_cons_succ]
        refine wpAnyH_take (i := 13) (oi := ⟨_, _, _, _, _, _⟩) (v := ?_) rfl (by kernel_rfl) (by kernel_rfl) (by kernel_rfl) (fun _ _ _ h => h) (Or.inl ⟨by rfl, ?_⟩) (by assumption) ?_
        rotate_left
        · intro u hSw
          go_simp
          try (with_reducible rfl)
        try simp only [Act.put, List.setIfInBounds_toArray, List.set_cons_zero, List.set_cons_succ]
        refine wpAnyH_done (by kernel_rfl) ?_ _
        go_wp2_with fail
        go_meet
        exact ⟨_, s1, n1, c1, ⟨rfl, ⟨_, _, _, rfl⟩, rfl, hle1⟩, Nat.le_refl _, hA3, hn1, own_mono hw3 hB0.size, hB3⟩
    case rest =>
      obtain ⟨gt, s1, n1, c1, ⟨rfl, ⟨sd, kk, cd, rfl⟩, rfl, hle1⟩, hgt, T1, hn1, own1, hbc⟩ := hcut
      have A2 := A1.below hbc A1.lt
      have B2 := B1.trans (hbc.mono B1.size)
      have T02 := T0.below hbc T0.lt
      have S02 := (S0.below hbc).mono hbc.size
      have S1 : SS wc.heap.size wc R1.P s1 n1 c1 R1.O := ⟨Hid.mk' hq1, hq3, os_own own1 hn1.out (by omega) hq4⟩
      clear A1 B1 T0 S0 own1 hbc hRa
      go_upto_region 6 with (first
        | (refine atL 30 (.tmp 3) ?_; refine ld30 (by rfl) _ (by rfl) w.heap.size 30 (by rfl) ps sp n cap h1 h2 A2 ?_)
        | (go_at_call 19; go_must (refine (hmay _).mono ?_; rintro r w3 ⟨rfl, hb3⟩)))
      have A3 := A2.below hb3 A2.lt
      have B3 := B2.trans (hb3.mono B2.size)
      have T03 := T02.below hb3 T02.lt
      have T13 := T1.below hb3 T1.lt
      have S03 := (S02.below hb3).mono hb3.size
      have S13 := (S1.below hb3).mono hb3.size
      clear A2 B2 T02 T1 S02 S1 hb3
      replace hRb := Hid.mk' (hRb.out w3 s1 n1 c1 B3 S13)
      have hu1 := hq1
      have hu2 := hq2
      clear hq1 hq2
      have hq1 := hp1
      have hq2 := hp2
      go_cut [14, 15, 16] from 24 to 115 (fun x y z wc => ∃ gt s1 n1 c1, (x = .pointer (some ⟨gt, 0, none⟩) ∧ (∃ sd kk cd, y = .slice sd kk cd) ∧ z = .int .i64 0 ∧ n1 ≤ 33) ∧ w3.heap.size ≤ gt ∧ Arr wc gt 30 (stA R.P s1 n1 c1) ∧ Hid (n1 = R.O.length) ∧ wc.ownsRow w3.heap.size 66 2 (.slice s1 n1 c1) n1 (ouF R.O) ∧ Below w3.heap.size w3 wc)
      case first =>
        refine wp_region_held_drew (S := fun u => Below w3.heap.size w3 u) (by kernel_rfl) ((Below.refl _ _).drew) (fun hHeld => ?_)
        refine wpAnyH_take (i := 0) (oi := ⟨_, _, _, _, _, _⟩) rfl (by kernel_rfl) (by kernel_rfl) (by kernel_rfl) (fun _ _ _ h => h) (y30 (by rfl) (.tmp 11) rfl gt 30 rfl R1.P s1 n1 c1 hu1 hu2 (fun u hu => T13.below hu T13.lt)) (by assumption) ?_
        try simp only [Act.put, List.setIfInBounds_toArray, List.set_cons_zero, List.set_cons_succ]
        refine wpAnyH_take (i := 1) (oi := ⟨_, _, _, _, _, _⟩) (v := ?_) rfl (by kernel_rfl) (by kernel_rfl) (by kernel_rfl) (fun _ _ _ h => h) (Or.inl ⟨by rfl, ?_⟩) (by assumption) ?_
        rotate_left
        · intro u hSw
          go_simp
          try (with_reducible rfl)
        try simp only [Act.put, List.setIfInBounds_toArray, List.set_cons_zero, List.set_cons_succ]
        refine wpAnyH_take (i := 2) (oi := ⟨_, _, _, _, _, _⟩) (v := ?_) rfl (by kernel_rfl) (by kernel_rfl) (by kernel_rfl) (fun _ _ _ h => h) (Or.inl ⟨by rfl, ?_⟩) (by assumption) ?_
        rotate_left
        · intro u hSw
          go_simp
          try (with_reducible rfl)
        try simp only [Act.put, List.setIfInBounds_toArray, List.set_cons_zero, List.set_cons_succ]
        refine wpAnyH_take (i := 3) (oi := ⟨_, _, _, _, _, _⟩) (v := .slice (restP sl cl k) (nl - k) (cl - k)) rfl (by kernel_rfl) (by kernel_rfl) (by kernel_rfl) (fun _ _ _ h => h) (Or.inl ⟨by rfl, fun u hSw => by simp [execOp, Act.eval, hrst.out]⟩) (by assumption) ?_
        try simp only [Act.put, List.setIfInBounds_toArray, List.set_cons_zero, List.set_cons_succ]
        refine wpAnyH_ready (rs := [4, 9]) (by kernel_rfl) (by simp) ?_
        refine AllReadyH.cons (o := ⟨_, _, _, _, _, _⟩) rfl (fun K hK => ?_) (AllReadyH.cons (o := ⟨_, _, _, _, _, _⟩) rfl (fun K hK => ?_) AllReadyH.nil)
        · go_simp
          have hB0 : Below w3.heap.size w3 w3.drew := (Below.refl _ _).drew
          refine (hRb.out w3.drew hB0).mono ?_
          rintro r u1 ⟨s1, n1, c1, sd, kk, cd, rfl, hst1, -, -, hb1⟩
          have hn1 := hst1.len
          have hle1 := hst1.le
          have own1 := hst1.own
          have hB1 := hB0.trans (hb1.mono hB0.size)
          go_wp2_with fail
          refine hK.out _ _ hB1 (fun hHeld => ?_)
          clear hK K
          try simp only [Act.put, List.setIfInBounds_toArray, List.set_cons_zero, List.set_cons_succ]
          refine wpAnyH_take (i := 5) (oi := ⟨_, _, _, _, _, _⟩) (v := ?_) rfl (by kernel_rfl) (by kernel_rfl) (by kernel_rfl) (fun _ _ _ h => h) (Or.inl ⟨by rfl, ?_⟩) (by assumption) ?_
          rotate_left
          · intro u hSw
            go_simp
            try (with_reducible rfl)
          try simp only [Act.put, List.setIfInBounds_toArray, List.set_cons_zero, List.set_cons_succ]
          refine wpAnyH_take (i := 6) (oi := ⟨_, _, _, _, _, _⟩) (v := ?_) rfl (by kernel_rfl) (by kernel_rfl) (by kernel_rfl) (fun _ _ _ h => h) (Or.inl ⟨by rfl, ?_⟩) (by assumption) ?_
          rotate_left
          · intro u hSw
            go_simp
            try (with_reducible rfl)
          try simp only [Act.put, List.setIfInBounds_toArray, List.set_cons_zero, List.set_cons_succ]
          refine wpAnyH_take (i := 7) (oi := ⟨_, _, _, _, _, _⟩) (v := ?_) rfl (by kernel_rfl) (by kernel_rfl) (by kernel_rfl) (fun _ _ _ h => h) (Or.inl ⟨by rfl, ?_⟩) (by assumption) ?_
          rotate_left
          · intro u hSw
            go_simp
            try (with_reducible rfl)
          try simp only [Act.put, List.setIfInBounds_toArray, List.set_cons_zero, List.set_cons_succ]
          refine wpAnyH_take (i := 8) (oi := ⟨_, _, _, _, _, _⟩) (v := ?_) rfl (by kernel_rfl) (by kernel_rfl) (by kernel_rfl) (fun _ _ _ h => h) (Or.inl ⟨by rfl, ?_⟩) (by assumption) ?_
          rotate_left
          · intro u hSw
            go_simp
            try (with_reducible rfl)
          try simp only [Act.put, List.setIfInBounds_toArray, List.set_cons_zero, List.set_cons_succ]
          refine wpAnyH_ready (rs := [9]) (by kernel_rfl) (by simp) ?_
          refine AllReadyH.cons (o := ⟨_, _, _, _, _, _⟩) rfl (fun K hK => ?_) AllReadyH.nil
          have hB2 := hB1.alloc hB1.size (.cells Z 30)
          have hA2 := Arr.new u1 30 Z
          have hw2 := own1.alloc (.cells Z 30)
          go_simp
          go_wp2_with fail
          refine hK.out _ _ hB2 (fun hHeld => ?_)
          clear hK K
          try simp only [Act.put, List.setIfInBounds_toArray, List.set_cons_zero, List.set_cons_succ]
          refine wpAnyH_ready (rs := [10]) (by kernel_rfl) (by simp) ?_
          refine AllReadyH.cons (o := ⟨_, _, _, _, _, _⟩) rfl (fun K hK => ?_) AllReadyH.nil
          refine step_want rfl (wp_store_row 30 (.tmp 14) (.tmp 65) rfl u1.heap.size (stA R.P s1 n1 c1) rfl rfl 30 _ hA2 (by rw [stA_size hq1 hq2]; exact size30) (by rw [hzsz, stA_size hq1 hq2]) (stA_one _ _ _ _) ?_)
          have hB3 := below_setRow hB2 hB1.size (stA R.P s1 n1 c1)
          have hA3 := hA2.setRow (stA R.P s1 n1 c1)
          have hw3 := own_same hw2 (w' := (u1.alloc (.cells Z 30)).setRow u1.heap.size (stA R.P s1 n1 c1)) (fun b hb => setRow_other _ _ _ _ (by have := own_lt own1 hb; omega))
          refine hK.out _ _ hB3 (fun hHeld => ?_)
          clear hK K
          try simp only [Act.put, List.setIfInBounds_toArray, List.set_cons_zero, List.set_cons_succ]
          refine wpAnyH_take (i := 11) (oi := ⟨_, _, _, _, _, _⟩) (v := ?_) rfl (by kernel_rfl) (by kernel_rfl) (by kernel_rfl) (fun _ _ _ h => h) (Or.inl ⟨by rfl, ?_⟩) (by assumption) ?_
          rotate_left
          · intro u hSw
            go_simp
            try (with_reducible rfl)
          try simp only [Act.put, List.setIfInBounds_toArray, List.set_cons_zero, List.set_cons_succ]
          refine wpAnyH_take (i := 12) (oi := ⟨_, _, _, _, _, _⟩) (v := ?_) rfl (by kernel_rfl) (by kernel_rfl) (by kernel_rfl) (fun _ _ _ h => h) (Or.inl ⟨by rfl, ?_⟩) (by assumption) ?_
          rotate_left
          · intro u hSw
            go_simp
            try (with_reducible rfl)
          try simp only [Act.put, List.setIfInBounds_toArray, List.set_cons_zero, List.set_cons_succ]
          refine wpAnyH_done (by kernel_rfl) ?_ _
          go_wp2_with fail
          go_meet
          exact ⟨_, s1, n1, c1, ⟨rfl, ⟨_, _, _, rfl⟩, rfl, hle1⟩, hB1.size, hA3, hn1, own_mono hw3 hB0.size, hB3⟩
        · go_simp
          go_wp2_with fail
          have hB0 : Below w3.heap.size w3 (w3.drew.alloc (.cells Z 30)) := ((Below.refl w3.heap.size w3).drew).alloc (by simp) _
          have hA0 : Arr (w3.drew.alloc (.cells Z 30)) w3.heap.size 30 Z := Arr.new w3.drew 30 Z
          refine hK.out _ _ hB0 (fun hHeld => ?_)
          clear hK K
          try simp only [Act.put, List.setIfInBounds_toArray, List.set_cons_zero, List.set_cons_succ]
          refine wpAnyH_ready (rs := [4]) (by kernel_rfl) (by simp) ?_
          refine AllReadyH.cons (o := ⟨_, _, _, _, _, _⟩) rfl (fun K hK => ?_) AllReadyH.nil
          go_simp
          refine (hRb.out (w3.drew.alloc (.cells Z 30)) hB0).mono ?_
          rintro r u1 ⟨s1, n1, c1, sd, kk, cd, rfl, hst1, -, -, hb1⟩
          have hn1 := hst1.len
          have hle1 := hst1.le
          have own1 := hst1.own
          have hB1 := hB0.trans (hb1.mono hB0.size)
          have hA1 := hA0.below hb1 hA0.lt
          have hgV : w3.heap.size < (w3.drew.alloc (.cells Z 30)).heap.size := by simp
          go_wp2_with fail
          refine hK.out _ _ hB1 (fun hHeld => ?_)
          clear hK K
          try simp only [Act.put, List.setIfInBounds_toArray, List.set_cons_zero, List.set_cons_succ]
          refine wpAnyH_take (i := 5) (oi := ⟨_, _, _, _, _, _⟩) (v := ?_) rfl (by kernel_rfl) (by kernel_rfl) (by kernel_rfl) (fun _ _ _ h => h) (Or.inl ⟨by rfl, ?_⟩) (by assumption) ?_
          rotate_left
          · intro u hSw
            go_simp
            try (with_reducible rfl)
          try simp only [Act.put, List.setIfInBounds_toArray, List.set_cons_zero, List.set_cons_succ]
          refine wpAnyH_take (i := 6) (oi := ⟨_, _, _, _, _, _⟩) (v := ?_) rfl (by kernel_rfl) (by kernel_rfl) (by kernel_rfl) (fun _ _ _ h => h) (Or.inl ⟨by rfl, ?_⟩) (by assumption) ?_
          rotate_left
          · intro u hSw
            go_simp
            try (with_reducible rfl)
          try simp only [Act.put, List.setIfInBounds_toArray, List.set_cons_zero, List.set_cons_succ]
          refine wpAnyH_take (i := 7) (oi := ⟨_, _, _, _, _, _⟩) (v := ?_) rfl (by kernel_rfl) (by kernel_rfl) (by kernel_rfl) (fun _ _ _ h => h) (Or.inl ⟨by rfl, ?_⟩) (by assumption) ?_
          rotate_left
          · intro u hSw
            go_simp
            try (with_reducible rfl)
          try simp only [Act.put, List.setIfInBounds_toArray, List.set_cons_zero, List.set_cons_succ]
          refine wpAnyH_take (i := 8) (oi := ⟨_, _, _, _, _, _⟩) (v := ?_) rfl (by kernel_rfl) (by kernel_rfl) (by kernel_rfl) (fun _ _ _ h => h) (Or.inl ⟨by rfl, ?_⟩) (by assumption) ?_
          rotate_left
          · intro u hSw
            go_simp
            try (with_reducible rfl)
          try simp only [Act.put, List.setIfInBounds_toArray, List.set_cons_zero, List.set_cons_succ]
          refine wpAnyH_ready (rs := [10]) (by kernel_rfl) (by simp) ?_
          refine AllReadyH.cons (o := ⟨_, _, _, _, _, _⟩) rfl (fun K hK => ?_) AllReadyH.nil
          refine step_want rfl (wp_store_row 30 (.tmp 14) (.tmp 65) rfl w3.heap.size (stA R.P s1 n1 c1) rfl rfl 30 _ hA1 (by rw [stA_size hq1 hq2]; exact size30) (by rw [hzsz, stA_size hq1 hq2]) (stA_one _ _ _ _) ?_)
          have hB3 := below_setRow hB1 (Nat.le_refl _) (stA R.P s1 n1 c1)
          have hA3 := hA1.setRow (stA R.P s1 n1 c1)
          have hw3 := own_same own1 (w' := u1.setRow w3.heap.size (stA R.P s1 n1 c1)) (fun b hb => setRow_other _ _ _ _ (by have := own_ge own1 b hb; omega))
          refine hK.out _ _ hB3 (fun hHeld => ?_)
          clear hK K
          try simp only [Act.put, List.setIfInBounds_toArray, List.set_cons_zero, List.set_cons_succ]
          refine wpAnyH_take (i := 11) (oi := ⟨_, _, _, _, _, _⟩) (v := ?_) rfl (by kernel_rfl) (by kernel_rfl) (by kernel_rfl) (fun _ _ _ h => h) (Or.inl ⟨by rfl, ?_⟩) (by assumption) ?_
          rotate_left
          · intro u hSw
            go_simp
            try (with_reducible rfl)
          try simp only [Act.put, List.setIfInBounds_toArray, List.set_cons_zero, List.set_cons_succ]
          refine wpAnyH_take (i := 12) (oi := ⟨_, _, _, _, _, _⟩) (v := ?_) rfl (by kernel_rfl) (by kernel_rfl) (by kernel_rfl) (fun _ _ _ h => h) (Or.inl ⟨by rfl, ?_⟩) (by assumption) ?_
          rotate_left
          · intro u hSw
            go_simp
            try (with_reducible rfl)
          try simp only [Act.put, List.setIfInBounds_toArray, List.set_cons_zero, List.set_cons_succ]
          refine wpAnyH_done (by kernel_rfl) ?_ _
          go_wp2_with fail
          go_meet
          exact ⟨_, s1, n1, c1, ⟨rfl, ⟨_, _, _, rfl⟩, rfl, hle1⟩, Nat.le_refl _, hA3, hn1, own_mono hw3 hB0.size, hB3⟩
      case rest =>
        obtain ⟨gu, s5, n5, c5, ⟨rfl, ⟨sd5, kk5, cd5, rfl⟩, rfl, hle5⟩, hgu, T5, hn5, own5, hbc⟩ := hcut
        have A5 := A3.below hbc A3.lt
        have B5 := B3.trans (hbc.mono B3.size)
        have T05 := T03.below hbc T03.lt
        have S05 := (S03.below hbc).mono hbc.size
        have S5 : SS wc.heap.size wc R.P s5 n5 c5 R.O := ⟨Hid.mk' hp1, hp3, os_own own5 hn5.out (by omega) hp4⟩
        clear A3 B3 T03 T13 S03 S13 own5 hbc hRb
        go_upto_region 8 with (first
          | (refine atL 30 (.tmp 3) ?_; refine ld30 (by rfl) _ (by rfl) w.heap.size 30 (by rfl) ps sp n cap h1 h2 A5 ?_)
          | (go_at_call 20; go_must (refine (hT0 _).mono ?_; rintro r w6 ⟨rfl, hb6⟩)))
        have A6 := A5.below hb6 A5.lt
        have B6 := B5.trans (hb6.mono B5.size)
        have T06 := T05.below hb6 T05.lt
        have T56 := T5.below hb6 T5.lt
        have S06 := (S05.below hb6).mono hb6.size
        have S56 := (S5.below hb6).mono hb6.size
        clear A5 B5 T05 T5 S05 S5 hb6
        go_upto_region 9 with (first
          | (refine atL 30 (.tmp 8) ?_; refine ld30 (by rfl) _ (by rfl) G1 30 (by rfl) R.P s0 n0 c0 hp1 hp2 T06 ?_)
          | (go_at_call 20; go_must (refine (hT1.out _ _ _ _).mono ?_; rintro r w7 ⟨rfl, hb7⟩)))
        have A7 := A6.below hb7 A6.lt
        have B7 := B6.trans (hb7.mono B6.size)
        have T07 := T06.below hb7 T06.lt
        have T57 := T56.below hb7 T56.lt
        have S07 := (S06.below hb7).mono hb7.size
        have S57 := (S56.below hb7).mono hb7.size
        clear A6 B6 T06 T56 S06 S56 hb7
        go_upto_region 10 with (first
          | (refine atL 30 (.tmp 3) ?_; refine ld30 (by rfl) _ (by rfl) w.heap.size 30 (by rfl) ps sp n cap h1 h2 A7 ?_)
          | (go_at_call 13; go_must (refine (hR13.out _ B7).mono ?_; rintro r w8 ⟨rfl, hb8⟩)))
        have B8 := B7.trans (hb8.mono B7.size)
        have T08 := T07.below hb8 T07.lt
        have T58 := T57.below hb8 T57.lt
        have S08 := (S07.below hb8).mono hb8.size
        have S58 := (S57.below hb8).mono hb8.size
        clear A7 B7 T07 T57 S07 S57 hb8
        go_wp2_with (first
          | (refine atL 30 (.tmp 8) ?_; refine ld30g (by rfl) _ (by rfl) G1 30 (by rfl) R.P s0 n0 c0 hp1 hp2 T09 ?_)
          | (refine atL 30 (.tmp 14) ?_; refine ld30g (by rfl) _ (by rfl) gu 30 (by rfl) R.P s5 n5 c5 hp1 hp2 T59 ?_)
          | (go_at_call 15; go_must (refine (anchored_any _).mono ?_; rintro r w9 ⟨rfl, hb9⟩; have B9 := B8.trans (hb9.mono B8.size); have T09 := T08.below hb9 T08.lt; have T59 := T58.below hb9 T58.lt; have S09 := (S08.below hb9).mono hb9.size; have S59 := (S58.below hb9).mono hb9.size))
          | (go_at_call 10; go_must (refine (refSsame_any R.P _ s0 n0 c0 R.O R.P _ s5 n5 c5 R.O _ S09 S59).mono ?_; rw [hsR.out]; rintro r w10 ⟨rfl, hb10⟩; have B10 := B9.trans (hb10.mono B9.size))))
        go_ret
        exact ⟨rfl, B10⟩
end Go.Proofs.Ytbhhbkoikocjgaa
