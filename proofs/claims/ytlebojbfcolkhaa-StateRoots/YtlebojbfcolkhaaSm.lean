/- Layer state: the law StateRoots. -/
import Derived.Test.YtlebojbfcolkhaaSl
import Derived.Test.YtlebojbfcolkhaaA26
import Derived.Test.YtlebojbfcolkhaaQi
import Derived.Test.YtlebojbfcolkhaaA30
namespace Go.Proofs.Ytlebojbfcolkhaa
set_option linter.unusedSectionVars false
set_option maxHeartbeats 1000000
open Go.RowKit
set_option maxRecDepth 100000
set_option linter.unusedVariables false
set_option linter.unusedSimpArgs false

variable [DecidableEq Ac] [DecidableEq Ou]
theorem same4_t (N N' : Nat) (sp sp' : Option Addr) (n n' cap cap' : Nat) (ls : List (List Int)) (w : World) (hS : HS N w sp n cap ls) (hS' : HS N' w sp' n' cap' ls) :
    Calls Try.prog 21 #[.slice sp n cap, .slice sp' n' cap'] w fun e w' => e = .returned (.bool true) ∧ Below w.heap.size w w' := by
  have h := same4_any N N' sp sp' n n' cap cap' ls ls w hS hS'
  rw [decide_eq_true rfl] at h
  exact h
theorem prove_both (ps : List Ac) (N : Nat) (sp : Option Addr) (n cap : Nat) (os : List Ou) (i : Int) : ∃ m path o k code, o.length = 32 ∧ ∀ w, SS N w ps sp n cap os →
    Calls Try.prog 17 #[.agg (stA ps sp n cap), .int .i64 i] w (WP m path o k code w) ∧ Calls Try.prog 18 #[.agg (stA ps sp n cap), .int .i64 i] w (WP m path o k code w) := by
  by_cases h : may ps n = true ∧ 0 ≤ i ∧ i < 32
  · obtain ⟨hm, h0, h1⟩ := h
    obtain ⟨j, rfl⟩ : ∃ j : Nat, i = j := ⟨i.toNat, by omega⟩
    exact ⟨5, pf 5 (al ps) j, tr 5 (ol os), n, 0, tr5_len (ol_32 os), fun w hS => ⟨prove_ok ps N sp n cap os j w hS hm (by omega), refProve_ok ps N sp n cap os j w hS hm (by omega)⟩⟩
  · have h' : may ps n = false ∨ i < 0 ∨ i ≥ 32 := by
      cases hm : may ps n with
      | false => exact .inl rfl
      | true =>
        right
        by_cases h0 : i < 0
        · exact .inl h0
        · right
          have : ¬ i < 32 := fun hb => h ⟨hm, by omega, hb⟩
          omega
    exact ⟨0, [], Z32, 0, 2, Z32_len, fun w hS => ⟨prove_no ps sp n cap i w hS.a32.out hS.ok.out hS.outs.small h', refProve_no ps sp n cap i w hS.a32.out hS.ok.out hS.outs.small h'⟩⟩
theorem proveOut_both (ps : List Ac) (N : Nat) (sp : Option Addr) (n cap : Nat) (os : List Ou) (i : Int) : ∃ m path o k code, o.length = 32 ∧ ∀ w, SS N w ps sp n cap os →
    Calls Try.prog 19 #[.agg (stA ps sp n cap), .int .i64 i] w (WP m path o k code w) ∧ Calls Try.prog 20 #[.agg (stA ps sp n cap), .int .i64 i] w (WP m path o k code w) := by
  by_cases h : may ps n = true ∧ 0 ≤ i ∧ i < n
  · obtain ⟨hm, h0, h1⟩ := h
    have hn := may_le hm
    obtain ⟨j, rfl⟩ : ∃ j : Nat, i = j := ⟨i.toNat, by omega⟩
    exact ⟨5, pf 5 (ol os) j, tr 5 (al ps), n, 0, tr5_len (al_32 ps), fun w hS => ⟨proveOut_ok ps N sp n cap os j w hS hm (by omega) (by omega), refProveOut_ok ps N sp n cap os j w hS hm (by omega) (by omega)⟩⟩
  · have h' : may ps n = false ∨ i < 0 ∨ i ≥ n := by
      cases hm : may ps n with
      | false => exact .inl rfl
      | true =>
        right
        by_cases h0 : i < 0
        · exact .inl h0
        · right
          have : ¬ i < n := fun hb => h ⟨hm, by omega, hb⟩
          omega
    exact ⟨0, [], Z32, 0, 2, Z32_len, fun w hS => ⟨proveOut_no ps sp n cap i w hS.a32.out hS.ok.out hS.outs.small h', refProveOut_no ps sp n cap i w hS.a32.out hS.ok.out hS.outs.small h'⟩⟩
set_option maxHeartbeats 4000000 in
theorem roots_walk (ps : List Ac) (sp : Option Addr) (n cap : Nat) (os : List Ou) (qs : List Ac) (sp' : Option Addr) (n' cap' : Nat) (us : List Ou) (i : Int) (w : World) (hS : SS w.heap.size w ps sp n cap os) (hT : SS w.heap.size w qs sp' n' cap' us) :
    Calls Try.prog 3 #[.agg (stA ps sp n cap), .agg (stA qs sp' n' cap'), .int .i64 i] w fun e w' => e = .returned (.bool true) ∧ Below w.heap.size w w' := by
  have h1 := hS.a32.out
  have h2 := hS.l32
  have q1 := hT.a32.out
  have q2 := hT.l32
  have hT1 := Hid.mk' (fun u => total_any ps sp n cap u h1 hS.ok.out)
  have hT2 := Hid.mk' (fun u => refTotal_any ps sp n cap u h1 hS.ok.out)
  have hR1 := Hid.mk' (fun u (hu : Below w.heap.size w u) => sroot_any ps _ sp n cap os u (hS.below hu))
  have hR2 := Hid.mk' (fun u (hu : Below w.heap.size w u) => refSroot_any ps _ sp n cap os u (hS.below hu))
  have hM1 := Hid.mk' (fun u (hu : Below w.heap.size w u) => may_any ps sp n cap u h1 hS.ok.out hS.outs.small)
  have hM2 := Hid.mk' (fun u (hu : Below w.heap.size w u) => refMay_any ps sp n cap u h1 hS.ok.out hS.outs.small)
  have hS1 := Hid.mk' (fun u (hu : Below w.heap.size w u) => ssame_any ps _ sp n cap os qs _ sp' n' cap' us u (hS.below hu) (hT.below hu))
  have hS2 := Hid.mk' (fun u (hu : Below w.heap.size w u) => refSsame_any ps _ sp n cap os qs _ sp' n' cap' us u (hS.below hu) (hT.below hu))
  obtain ⟨m1, p1, o1, k1, e1, ho1, hP1⟩ := prove_both ps w.heap.size sp n cap os i
  obtain ⟨m2, p2, o2, k2, e2, ho2, hP2⟩ := proveOut_both ps w.heap.size sp n cap os i
  replace hP1 := Hid.mk' hP1
  replace hP2 := Hid.mk' hP2
  have hV := rtV_len ps os
  generalize rtV ps os = V at *
  generalize rtE ps os = vE at *
  generalize ttV ps = tV at *
  generalize ttE ps = tE at *
  generalize may ps n = mB at *
  generalize smB ps os qs us = sB at *
  have hnV : ∀ w, (binOp .neq 24 (.agg (h8 V)) (.agg (h8 V))).run Try.prog w = .ok (.bool false) w := fun w => by
    have := run_neq24l hV hV w
    rwa [decide_eq_true rfl] at this
  have hq1 : ∀ w, (binOp .eql 24 (.agg (h8 o1)) (.agg (h8 o1))).run Try.prog w = .ok (.bool true) w := fun w => by
    have := run_eq24 ho1 ho1 w
    rwa [decide_eq_true rfl] at this
  have hq2 : ∀ w, (binOp .eql 24 (.agg (h8 o2)) (.agg (h8 o2))).run Try.prog w = .ok (.bool true) w := fun w => by
    have := run_eq24 ho2 ho2 w
    rwa [decide_eq_true rfl] at this
  have hSS := hS
  clear hS hT
  have AS := (Arr.new w 30 (stA ps sp n cap)).alloc (.cells (stA qs sp' n' cap') 30)
  have AT : Arr ((w.alloc (.cells (stA ps sp n cap) 30)).alloc (.cells (stA qs sp' n' cap') 30)) (w.heap.size + 1) 30 (stA qs sp' n' cap') := by simpa using Arr.new (w.alloc (.cells (stA ps sp n cap) 30)) 30 (stA qs sp' n' cap')
  have BW := (alloc_bel' w (.cells (stA ps sp n cap) 30)).alloc (by simp) (.cells (stA qs sp' n' cap') 30)
  go_enter Try.func3, Try.ntmps3
  go_upto_region 1 with fail
  generalize (w.alloc (.cells (stA ps sp n cap) 30)).alloc (.cells (stA qs sp' n' cap') 30) = W0 at *
  go_upto_region 2 with (first
    | (refine ld30 (by rfl) _ (by rfl) w.heap.size 30 (by rfl) ps sp n cap h1 h2 AS ?_)
    | (go_at_call 9; go_must (refine (hT1.out _).mono ?_; rintro e w1 ⟨rfl, hb1⟩)))
  replace BW := BW.trans (hb1.mono BW.size)
  replace AS := AS.below hb1 AS.lt
  replace AT := AT.below hb1 AT.lt
  go_upto_region 3 with (first
    | (refine ld30 (by rfl) _ (by rfl) w.heap.size 30 (by rfl) ps sp n cap h1 h2 AS ?_)
    | (go_at_call 10; go_must (refine (hT2.out _).mono ?_; rintro e w2 ⟨rfl, hb2⟩)))
  replace BW := BW.trans (hb2.mono BW.size)
  replace AS := AS.below hb2 AS.lt
  replace AT := AT.below hb2 AT.lt
  go_upto_region 4 with (first
    | (refine ld30 (by rfl) _ (by rfl) w.heap.size 30 (by rfl) ps sp n cap h1 h2 AS ?_)
    | (go_at_call 11; go_must (refine (hR1.out _ BW).mono ?_; rintro e w3 ⟨rfl, hb3⟩))
    | (refine st24n (by rfl) _ _ (by rfl) w3 w3.heap.size rfl (by rfl) V (by rfl) (by rfl) hV ?_))
  replace BW := (BW.trans (hb3.mono BW.size)).alloc (Nat.le_trans BW.size hb3.size) (.cells (h8 V) 24)
  replace AS := (AS.below hb3 AS.lt).alloc (.cells (h8 V) 24)
  replace AT := (AT.below hb3 AT.lt).alloc (.cells (h8 V) 24)
  have AX := Arr.new w3 24 (h8 V)
  obtain ⟨gx, hge⟩ : ∃ g, g = w3.heap.size := ⟨_, rfl⟩
  rw [← hge] at AX ⊢
  clear hge
  generalize w3.alloc (.cells (h8 V) 24) = W3 at *
  go_upto_region 5 with (first
    | (refine ld30 (by rfl) _ (by rfl) w.heap.size 30 (by rfl) ps sp n cap h1 h2 AS ?_)
    | (go_at_call 12; go_must (refine (hR2.out _ BW).mono ?_; rintro e w4 ⟨rfl, hb4⟩))
    | (refine st24n (by rfl) _ _ (by rfl) w4 w4.heap.size rfl (by rfl) V (by rfl) (by rfl) hV ?_))
  replace BW := (BW.trans (hb4.mono BW.size)).alloc (Nat.le_trans BW.size hb4.size) (.cells (h8 V) 24)
  replace AS := (AS.below hb4 AS.lt).alloc (.cells (h8 V) 24)
  replace AT := (AT.below hb4 AT.lt).alloc (.cells (h8 V) 24)
  replace AX := (AX.below hb4 AX.lt).alloc (.cells (h8 V) 24)
  have AY := Arr.new w4 24 (h8 V)
  obtain ⟨gy, hge⟩ : ∃ g, g = w4.heap.size := ⟨_, rfl⟩
  rw [← hge] at AY ⊢
  clear hge
  generalize w4.alloc (.cells (h8 V) 24) = W4 at *
  clear hb1 hb2 hb3 hb4 hR1 hR2 hT1 hT2
  replace hM1 := Hid.mk' (fun u (hu : Below W4.heap.size W4 u) => hM1.out u (BW.trans (hu.mono BW.size)))
  replace hM2 := Hid.mk' (fun u (hu : Below W4.heap.size W4 u) => hM2.out u (BW.trans (hu.mono BW.size)))
  replace hS1 := Hid.mk' (fun u (hu : Below W4.heap.size W4 u) => hS1.out u (BW.trans (hu.mono BW.size)))
  replace hS2 := Hid.mk' (fun u (hu : Below W4.heap.size W4 u) => hS2.out u (BW.trans (hu.mono BW.size)))
  have U0 := (Below.refl W4.heap.size W4).drew
  refine wp_region_held_drew (S := fun u => Below W4.heap.size W4 u) (by kernel_rfl) (U0) (fun hHeld => ?_)
  refine wpAnyH_take (i := 0) (oi := ⟨_, _, _, _, _, _⟩) rfl (by kernel_rfl) (by kernel_rfl) (by kernel_rfl) (fun _ _ _ h => h) (y30 (by rfl) (.tmp 3) rfl w.heap.size 30 rfl ps sp n cap h1 h2 (fun u hu => AS.below hu AS.lt)) (by assumption) ?_
  try simp only [Act.put, List.setIfInBounds_toArray, List.set_cons_zero, List.set_cons_succ]
  refine wpAnyH_take (i := 2) (oi := ⟨_, _, _, _, _, _⟩) rfl (by kernel_rfl) (by kernel_rfl) (by kernel_rfl) (fun _ _ _ h => h) (y30 (by rfl) (.tmp 3) rfl w.heap.size 30 rfl ps sp n cap h1 h2 (fun u hu => AS.below hu AS.lt)) (by assumption) ?_
  try simp only [Act.put, List.setIfInBounds_toArray, List.set_cons_zero, List.set_cons_succ]
  refine wpAnyH_ready (rs := [1]) (by kernel_rfl) (by simp) ?_
  refine AllReadyH.cons (o := ⟨_, _, _, _, _, _⟩) rfl (fun K hK => ?_) AllReadyH.nil
  go_simp
  refine (hM1.out _ U0).mono ?_; rintro e u1 ⟨rfl, hb1⟩; have U1 := U0.trans (hb1.mono U0.size)
  go_wp2_with fail
  refine hK.out _ _ U1 (fun hHeld => ?_)
  clear hK K
  try simp only [Act.put, List.setIfInBounds_toArray, List.set_cons_zero, List.set_cons_succ]
  refine wpAnyH_ready (rs := [3]) (by kernel_rfl) (by simp) ?_
  refine AllReadyH.cons (o := ⟨_, _, _, _, _, _⟩) rfl (fun K hK => ?_) AllReadyH.nil
  go_simp
  refine (hM2.out _ U1).mono ?_; rintro e u2 ⟨rfl, hb2⟩; have U2 := U1.trans (hb2.mono U1.size)
  go_wp2_with fail
  refine hK.out _ _ U2 (fun hHeld => ?_)
  clear hK K
  try simp only [Act.put, List.setIfInBounds_toArray, List.set_cons_zero, List.set_cons_succ]
  refine wpAnyH_take (i := 4) (oi := ⟨_, _, _, _, _, _⟩) (v := ?_) rfl (by kernel_rfl) (by kernel_rfl) (by kernel_rfl) (fun _ _ _ h => h) (Or.inl ⟨by rfl, ?_⟩) (by assumption) ?_
  rotate_left
  · intro u hSw
    go_simp
    try (with_reducible rfl)
  try simp only [Act.put, List.setIfInBounds_toArray, List.set_cons_zero, List.set_cons_succ]
  refine wpAnyH_take (i := 5) (oi := ⟨_, _, _, _, _, _⟩) (v := ?_) rfl (by kernel_rfl) (by kernel_rfl) (by kernel_rfl) (fun _ _ _ h => h) (Or.inl ⟨by rfl, ?_⟩) (by assumption) ?_
  rotate_left
  · intro u hSw
    go_simp
    try (with_reducible rfl)
  try simp only [Act.put, List.setIfInBounds_toArray, List.set_cons_zero, List.set_cons_succ]
  refine wpAnyH_take (i := 6) (oi := ⟨_, _, _, _, _, _⟩) rfl (by kernel_rfl) (by kernel_rfl) (by kernel_rfl) (fun _ _ _ h => h) (y30 (by rfl) (.tmp 3) rfl w.heap.size 30 rfl ps sp n cap h1 h2 (fun u hu => AS.below hu AS.lt)) (by assumption) ?_
  try simp only [Act.put, List.setIfInBounds_toArray, List.set_cons_zero, List.set_cons_succ]
  refine wpAnyH_take (i := 7) (oi := ⟨_, _, _, _, _, _⟩) rfl (by kernel_rfl) (by kernel_rfl) (by kernel_rfl) (fun _ _ _ h => h) (y30 (by rfl) (.tmp 4) rfl (w.heap.size + 1) 30 rfl qs sp' n' cap' q1 q2 (fun u hu => AT.below hu AT.lt)) (by assumption) ?_
  try simp only [Act.put, List.setIfInBounds_toArray, List.set_cons_zero, List.set_cons_succ]
  refine wpAnyH_take (i := 9) (oi := ⟨_, _, _, _, _, _⟩) rfl (by kernel_rfl) (by kernel_rfl) (by kernel_rfl) (fun _ _ _ h => h) (y30 (by rfl) (.tmp 3) rfl w.heap.size 30 rfl ps sp n cap h1 h2 (fun u hu => AS.below hu AS.lt)) (by assumption) ?_
  try simp only [Act.put, List.setIfInBounds_toArray, List.set_cons_zero, List.set_cons_succ]
  refine wpAnyH_take (i := 10) (oi := ⟨_, _, _, _, _, _⟩) rfl (by kernel_rfl) (by kernel_rfl) (by kernel_rfl) (fun _ _ _ h => h) (y30 (by rfl) (.tmp 4) rfl (w.heap.size + 1) 30 rfl qs sp' n' cap' q1 q2 (fun u hu => AT.below hu AT.lt)) (by assumption) ?_
  try simp only [Act.put, List.setIfInBounds_toArray, List.set_cons_zero, List.set_cons_succ]
  refine wpAnyH_ready (rs := [8]) (by kernel_rfl) (by simp) ?_
  refine AllReadyH.cons (o := ⟨_, _, _, _, _, _⟩) rfl (fun K hK => ?_) AllReadyH.nil
  go_simp
  refine (hS1.out _ U2).mono ?_; rintro e u3 ⟨rfl, hb3⟩; have U3 := U2.trans (hb3.mono U2.size)
  go_wp2_with fail
  refine hK.out _ _ U3 (fun hHeld => ?_)
  clear hK K
  try simp only [Act.put, List.setIfInBounds_toArray, List.set_cons_zero, List.set_cons_succ]
  refine wpAnyH_ready (rs := [11]) (by kernel_rfl) (by simp) ?_
  refine AllReadyH.cons (o := ⟨_, _, _, _, _, _⟩) rfl (fun K hK => ?_) AllReadyH.nil
  go_simp
  refine (hS2.out _ U3).mono ?_; rintro e u4 ⟨rfl, hb4⟩; have U4 := U3.trans (hb4.mono U3.size)
  go_wp2_with fail
  refine hK.out _ _ U4 (fun hHeld => ?_)
  clear hK K
  try simp only [Act.put, List.setIfInBounds_toArray, List.set_cons_zero, List.set_cons_succ]
  refine wpAnyH_take (i := 12) (oi := ⟨_, _, _, _, _, _⟩) (v := ?_) rfl (by kernel_rfl) (by kernel_rfl) (by kernel_rfl) (fun _ _ _ h => h) (Or.inl ⟨by rfl, ?_⟩) (by assumption) ?_
  rotate_left
  · intro u hSw
    go_simp
    try (with_reducible rfl)
  try simp only [Act.put, List.setIfInBounds_toArray, List.set_cons_zero, List.set_cons_succ]
  refine wpAnyH_take (i := 13) (oi := ⟨_, _, _, _, _, _⟩) (v := ?_) rfl (by kernel_rfl) (by kernel_rfl) (by kernel_rfl) (fun _ _ _ h => h) (Or.inl ⟨by rfl, ?_⟩) (by assumption) ?_
  rotate_left
  · intro u hSw
    go_simp
    try (with_reducible rfl)
  try simp only [Act.put, List.setIfInBounds_toArray, List.set_cons_zero, List.set_cons_succ]
  refine wpAnyH_take (i := 14) (oi := ⟨_, _, _, _, _, _⟩) (v := ?_) rfl (by kernel_rfl) (by kernel_rfl) (by kernel_rfl) (fun _ _ _ h => h) (Or.inl ⟨by rfl, ?_⟩) (by assumption) ?_
  rotate_left
  · intro u hSw
    go_simp
    try (with_reducible rfl)
  try simp only [Act.put, List.setIfInBounds_toArray, List.set_cons_zero, List.set_cons_succ]
  refine wpAnyH_take (i := 15) (oi := ⟨_, _, _, _, _, _⟩) (v := ?_) rfl (by kernel_rfl) (by kernel_rfl) (by kernel_rfl) (fun _ _ _ h => h) (Or.inl ⟨by rfl, ?_⟩) (by assumption) ?_
  rotate_left
  · intro u hSw
    go_simp
    try (with_reducible rfl)
  try simp only [Act.put, List.setIfInBounds_toArray, List.set_cons_zero, List.set_cons_succ]
  refine wpAnyH_take (i := 16) (oi := ⟨_, _, _, _, _, _⟩) (v := ?_) rfl (by kernel_rfl) (by kernel_rfl) (by kernel_rfl) (fun _ _ _ h => h) (Or.inl ⟨by rfl, ?_⟩) (by assumption) ?_
  rotate_left
  · intro u hSw
    go_simp
    try (with_reducible rfl)
  try simp only [Act.put, List.setIfInBounds_toArray, List.set_cons_zero, List.set_cons_succ]
  refine wpAnyH_take (i := 17) (oi := ⟨_, _, _, _, _, _⟩) (v := ?_) rfl (by kernel_rfl) (by kernel_rfl) (by kernel_rfl) (fun _ _ _ h => h) (Or.inl ⟨by rfl, ?_⟩) (by assumption) ?_
  rotate_left
  · intro u hSw
    go_simp
    try (with_reducible rfl)
  try simp only [Act.put, List.setIfInBounds_toArray, List.set_cons_zero, List.set_cons_succ]
  refine wpAnyH_take (i := 18) (oi := ⟨_, _, _, _, _, _⟩) (v := ?_) rfl (by kernel_rfl) (by kernel_rfl) (by kernel_rfl) (fun _ _ _ h => h) (Or.inl ⟨by rfl, ?_⟩) (by assumption) ?_
  rotate_left
  · intro u hSw
    go_simp
    try (with_reducible rfl)
  try simp only [Act.put, List.setIfInBounds_toArray, List.set_cons_zero, List.set_cons_succ]
  refine wpAnyH_take (i := 19) (oi := ⟨_, _, _, _, _, _⟩) (v := ?_) rfl (by kernel_rfl) (by kernel_rfl) (by kernel_rfl) (fun _ _ _ h => h) (Or.inl ⟨by rfl, ?_⟩) (by assumption) ?_
  rotate_left
  · intro u hSw
    go_simp
    try (with_reducible rfl)
  try simp only [Act.put, List.setIfInBounds_toArray, List.set_cons_zero, List.set_cons_succ]
  refine wpAnyH_take (i := 20) (oi := ⟨_, _, _, _, _, _⟩) (v := ?_) rfl (by kernel_rfl) (by kernel_rfl) (by kernel_rfl) (fun _ _ _ h => h) (Or.inl ⟨by rfl, ?_⟩) (by assumption) ?_
  rotate_left
  · intro u hSw
    go_simp
    try (with_reducible rfl)
  try simp only [Act.put, List.setIfInBounds_toArray, List.set_cons_zero, List.set_cons_succ]
  refine wpAnyH_take (i := 21) (oi := ⟨_, _, _, _, _, _⟩) (v := ?_) rfl (by kernel_rfl) (by kernel_rfl) (by kernel_rfl) (fun _ _ _ h => h) (Or.inl ⟨by rfl, ?_⟩) (by assumption) ?_
  rotate_left
  · intro u hSw
    go_simp
    try (with_reducible rfl)
  try simp only [Act.put, List.setIfInBounds_toArray, List.set_cons_zero, List.set_cons_succ]
  refine wpAnyH_take (i := 22) (oi := ⟨_, _, _, _, _, _⟩) (v := ?_) rfl (by kernel_rfl) (by kernel_rfl) (by kernel_rfl) (fun _ _ _ h => h) (Or.inl ⟨by rfl, ?_⟩) (by assumption) ?_
  rotate_left
  · intro u hSw
    go_simp
    try (with_reducible rfl)
  try simp only [Act.put, List.setIfInBounds_toArray, List.set_cons_zero, List.set_cons_succ]
  refine wpAnyH_take (i := 23) (oi := ⟨_, _, _, _, _, _⟩) (v := ?_) rfl (by kernel_rfl) (by kernel_rfl) (by kernel_rfl) (fun _ _ _ h => h) (Or.inl ⟨by rfl, ?_⟩) (by assumption) ?_
  rotate_left
  · intro u hSw
    go_simp
    try (with_reducible rfl)
  try simp only [Act.put, List.setIfInBounds_toArray, List.set_cons_zero, List.set_cons_succ]
  refine wpAnyH_take (i := 24) (oi := ⟨_, _, _, _, _, _⟩) (v := ?_) rfl (by kernel_rfl) (by kernel_rfl) (by kernel_rfl) (fun _ _ _ h => h) (Or.inl ⟨by rfl, ?_⟩) (by assumption) ?_
  rotate_left
  · intro u hSw
    go_simp
    try (with_reducible rfl)
  try simp only [Act.put, List.setIfInBounds_toArray, List.set_cons_zero, List.set_cons_succ]
  refine wpAnyH_take (i := 25) (oi := ⟨_, _, _, _, _, _⟩) rfl (by kernel_rfl) (by kernel_rfl) (by kernel_rfl) (fun _ _ _ h => h) (y24c (by rfl) (.tmp 11) rfl gx 0 rfl V hV (fun u hu => range_below AX.range hu AX.lt)) (by assumption) ?_
  try simp only [Act.put, List.setIfInBounds_toArray, List.set_cons_zero, List.set_cons_succ]
  refine wpAnyH_take (i := 26) (oi := ⟨_, _, _, _, _, _⟩) rfl (by kernel_rfl) (by kernel_rfl) (by kernel_rfl) (fun _ _ _ h => h) (y24c (by rfl) (.tmp 13) rfl gy 0 rfl V hV (fun u hu => range_below AY.range hu AY.lt)) (by assumption) ?_
  try simp only [Act.put, List.setIfInBounds_toArray, List.set_cons_zero, List.set_cons_succ]
  refine wpAnyH_take (i := 27) (oi := ⟨_, _, _, _, _, _⟩) (v := ?_) rfl (by kernel_rfl) (by kernel_rfl) (by kernel_rfl) (fun _ _ _ h => h) (Or.inl ⟨by rfl, ?_⟩) (by assumption) ?_
  rotate_left
  · intro u hSw
    go_simp
    try (with_reducible rfl)
  try simp only [Act.put, List.setIfInBounds_toArray, List.set_cons_zero, List.set_cons_succ]
  refine wpAnyH_take (i := 28) (oi := ⟨_, _, _, _, _, _⟩) (v := ?_) rfl (by kernel_rfl) (by kernel_rfl) (by kernel_rfl) (fun _ _ _ h => h) (Or.inl ⟨by rfl, ?_⟩) (by assumption) ?_
  rotate_left
  · intro u hSw
    go_simp
    try (with_reducible rfl)
  try simp only [Act.put, List.setIfInBounds_toArray, List.set_cons_zero, List.set_cons_succ]
  refine wpAnyH_take (i := 29) (oi := ⟨_, _, _, _, _, _⟩) (v := ?_) rfl (by kernel_rfl) (by kernel_rfl) (by kernel_rfl) (fun _ _ _ h => h) (Or.inl ⟨by rfl, ?_⟩) (by assumption) ?_
  rotate_left
  · intro u hSw
    go_simp
    try (with_reducible rfl)
  try simp only [Act.put, List.setIfInBounds_toArray, List.set_cons_zero, List.set_cons_succ]
  refine wpAnyH_take (i := 30) (oi := ⟨_, _, _, _, _, _⟩) (v := ?_) rfl (by kernel_rfl) (by kernel_rfl) (by kernel_rfl) (fun _ _ _ h => h) (Or.inl ⟨by rfl, ?_⟩) (by assumption) ?_
  rotate_left
  · intro u hSw
    go_simp
    try (with_reducible rfl)
  try simp only [Act.put, List.setIfInBounds_toArray, List.set_cons_zero, List.set_cons_succ]
  refine wpAnyH_take (i := 31) (oi := ⟨_, _, _, _, _, _⟩) (v := ?_) rfl (by kernel_rfl) (by kernel_rfl) (by kernel_rfl) (fun _ _ _ h => h) (Or.inl ⟨by rfl, ?_⟩) (by assumption) ?_
  rotate_left
  · intro u hSw
    go_simp
    try (with_reducible rfl)
  try simp only [Act.put, List.setIfInBounds_toArray, List.set_cons_zero, List.set_cons_succ]
  refine wpAnyH_take (i := 32) (oi := ⟨_, _, _, _, _, _⟩) (v := ?_) rfl (by kernel_rfl) (by kernel_rfl) (by kernel_rfl) (fun _ _ _ h => h) (Or.inl ⟨by rfl, ?_⟩) (by assumption) ?_
  rotate_left
  · intro u hSw
    go_simp
    try (with_reducible rfl)
  try simp only [Act.put, List.setIfInBounds_toArray, List.set_cons_zero, List.set_cons_succ]
  refine wpAnyH_take (i := 33) (oi := ⟨_, _, _, _, _, _⟩) (v := ?_) rfl (by kernel_rfl) (by kernel_rfl) (by kernel_rfl) (fun _ _ _ h => h) (Or.inl ⟨by rfl, ?_⟩) (by assumption) ?_
  rotate_left
  · intro u hSw
    go_simp
    try (with_reducible rfl)
  try simp only [Act.put, List.setIfInBounds_toArray, List.set_cons_zero, List.set_cons_succ]
  refine wpAnyH_done (by kernel_rfl) ?_ _

  replace BW := BW.trans (U4.mono BW.size)
  replace AS := AS.below U4 AS.lt
  clear AT AX AY hM1 hM2 hS1 hS2 hb1 hb2 hb3 hb4 U0 U1 U2 U3 U4
  go_upto_region 7 with fail
  go_upto_region 8 with (first
    | (refine ld30 (by rfl) _ (by rfl) w.heap.size 30 (by rfl) ps sp n cap h1 h2 AS ?_)
    | (go_at_call 17; go_must (refine ((hP1.out _ (hSS.below BW)).1).mono ?_; rintro e w6 ⟨s6, c6, rfl, hH6, -, hb6⟩))
    | (refine st44n (by rfl) _ _ (by rfl) w6 w6.heap.size rfl (by rfl) s6 m1 c6 o1 k1 (by rfl) (by rfl) ho1 ?_))
  replace BW := (BW.trans (hb6.mono BW.size)).alloc (Nat.le_trans BW.size hb6.size) (.cells (wtA s6 m1 c6 o1 k1) 44)
  replace AS := (AS.below hb6 AS.lt).alloc (.cells (wtA s6 m1 c6 o1 k1) 44)
  have P6 := Arr.new w6 44 (wtA s6 m1 c6 o1 k1)
  replace hH6 := (hH6.below (alloc_bel' w6 (.cells (wtA s6 m1 c6 o1 k1) 44))).mono (show w6.heap.size ≤ (w6.alloc (.cells (wtA s6 m1 c6 o1 k1) 44)).heap.size by simp)
  obtain ⟨g6, hge⟩ : ∃ g, g = w6.heap.size := ⟨_, rfl⟩
  rw [← hge] at P6 ⊢
  clear hge
  generalize w6.alloc (.cells (wtA s6 m1 c6 o1 k1) 44) = V6 at *
  go_upto_region 9 with (first
    | (refine ld30 (by rfl) _ (by rfl) w.heap.size 30 (by rfl) ps sp n cap h1 h2 AS ?_)
    | (go_at_call 18; go_must (refine ((hP1.out _ (hSS.below BW)).2).mono ?_; rintro e w7 ⟨s7, c7, rfl, hH7, -, hb7⟩))
    | (refine st44n (by rfl) _ _ (by rfl) w7 w7.heap.size rfl (by rfl) s7 m1 c7 o1 k1 (by rfl) (by rfl) ho1 ?_))
  replace BW := (BW.trans (hb7.mono BW.size)).alloc (Nat.le_trans BW.size hb7.size) (.cells (wtA s7 m1 c7 o1 k1) 44)
  replace AS := (AS.below hb7 AS.lt).alloc (.cells (wtA s7 m1 c7 o1 k1) 44)
  replace P6 := (P6.below hb7 P6.lt).alloc (.cells (wtA s7 m1 c7 o1 k1) 44)
  replace hH6 := ((hH6.below hb7).here.below (alloc_bel' w7 (.cells (wtA s7 m1 c7 o1 k1) 44))).mono (show w7.heap.size ≤ (w7.alloc (.cells (wtA s7 m1 c7 o1 k1) 44)).heap.size by simp)
  have P7 := Arr.new w7 44 (wtA s7 m1 c7 o1 k1)
  replace hH7 := (hH7.below (alloc_bel' w7 (.cells (wtA s7 m1 c7 o1 k1) 44))).mono (show w7.heap.size ≤ (w7.alloc (.cells (wtA s7 m1 c7 o1 k1) 44)).heap.size by simp)
  obtain ⟨g7, hge⟩ : ∃ g, g = w7.heap.size := ⟨_, rfl⟩
  rw [← hge] at P7 ⊢
  clear hge
  generalize w7.alloc (.cells (wtA s7 m1 c7 o1 k1) 44) = V7 at *
  go_upto_region 10 with (first
    | (refine ld30 (by rfl) _ (by rfl) w.heap.size 30 (by rfl) ps sp n cap h1 h2 AS ?_)
    | (go_at_call 19; go_must (refine ((hP2.out _ (hSS.below BW)).1).mono ?_; rintro e w8 ⟨s8, c8, rfl, hH8, -, hb8⟩))
    | (refine st44n (by rfl) _ _ (by rfl) w8 w8.heap.size rfl (by rfl) s8 m2 c8 o2 k2 (by rfl) (by rfl) ho2 ?_))
  replace BW := (BW.trans (hb8.mono BW.size)).alloc (Nat.le_trans BW.size hb8.size) (.cells (wtA s8 m2 c8 o2 k2) 44)
  replace AS := (AS.below hb8 AS.lt).alloc (.cells (wtA s8 m2 c8 o2 k2) 44)
  replace P6 := (P6.below hb8 P6.lt).alloc (.cells (wtA s8 m2 c8 o2 k2) 44)
  replace hH6 := ((hH6.below hb8).here.below (alloc_bel' w8 (.cells (wtA s8 m2 c8 o2 k2) 44))).mono (show w8.heap.size ≤ (w8.alloc (.cells (wtA s8 m2 c8 o2 k2) 44)).heap.size by simp)
  replace P7 := (P7.below hb8 P7.lt).alloc (.cells (wtA s8 m2 c8 o2 k2) 44)
  replace hH7 := ((hH7.below hb8).here.below (alloc_bel' w8 (.cells (wtA s8 m2 c8 o2 k2) 44))).mono (show w8.heap.size ≤ (w8.alloc (.cells (wtA s8 m2 c8 o2 k2) 44)).heap.size by simp)
  have P8 := Arr.new w8 44 (wtA s8 m2 c8 o2 k2)
  replace hH8 := (hH8.below (alloc_bel' w8 (.cells (wtA s8 m2 c8 o2 k2) 44))).mono (show w8.heap.size ≤ (w8.alloc (.cells (wtA s8 m2 c8 o2 k2) 44)).heap.size by simp)
  obtain ⟨g8, hge⟩ : ∃ g, g = w8.heap.size := ⟨_, rfl⟩
  rw [← hge] at P8 ⊢
  clear hge
  generalize w8.alloc (.cells (wtA s8 m2 c8 o2 k2) 44) = V8 at *
  go_upto_region 11 with (first
    | (refine ld30 (by rfl) _ (by rfl) w.heap.size 30 (by rfl) ps sp n cap h1 h2 AS ?_)
    | (go_at_call 20; go_must (refine ((hP2.out _ (hSS.below BW)).2).mono ?_; rintro e w9 ⟨s9, c9, rfl, hH9, -, hb9⟩))
    | (refine st44n (by rfl) _ _ (by rfl) w9 w9.heap.size rfl (by rfl) s9 m2 c9 o2 k2 (by rfl) (by rfl) ho2 ?_))
  replace BW := (BW.trans (hb9.mono BW.size)).alloc (Nat.le_trans BW.size hb9.size) (.cells (wtA s9 m2 c9 o2 k2) 44)
  replace AS := (AS.below hb9 AS.lt).alloc (.cells (wtA s9 m2 c9 o2 k2) 44)
  replace P6 := (P6.below hb9 P6.lt).alloc (.cells (wtA s9 m2 c9 o2 k2) 44)
  replace hH6 := ((hH6.below hb9).here.below (alloc_bel' w9 (.cells (wtA s9 m2 c9 o2 k2) 44))).mono (show w9.heap.size ≤ (w9.alloc (.cells (wtA s9 m2 c9 o2 k2) 44)).heap.size by simp)
  replace P7 := (P7.below hb9 P7.lt).alloc (.cells (wtA s9 m2 c9 o2 k2) 44)
  replace hH7 := ((hH7.below hb9).here.below (alloc_bel' w9 (.cells (wtA s9 m2 c9 o2 k2) 44))).mono (show w9.heap.size ≤ (w9.alloc (.cells (wtA s9 m2 c9 o2 k2) 44)).heap.size by simp)
  replace P8 := (P8.below hb9 P8.lt).alloc (.cells (wtA s9 m2 c9 o2 k2) 44)
  replace hH8 := ((hH8.below hb9).here.below (alloc_bel' w9 (.cells (wtA s9 m2 c9 o2 k2) 44))).mono (show w9.heap.size ≤ (w9.alloc (.cells (wtA s9 m2 c9 o2 k2) 44)).heap.size by simp)
  have P9 := Arr.new w9 44 (wtA s9 m2 c9 o2 k2)
  replace hH9 := (hH9.below (alloc_bel' w9 (.cells (wtA s9 m2 c9 o2 k2) 44))).mono (show w9.heap.size ≤ (w9.alloc (.cells (wtA s9 m2 c9 o2 k2) 44)).heap.size by simp)
  obtain ⟨g9, hge⟩ : ∃ g, g = w9.heap.size := ⟨_, rfl⟩
  rw [← hge] at P9 ⊢
  clear hge
  generalize w9.alloc (.cells (wtA s9 m2 c9 o2 k2) 44) = V9 at *
  have hZ1 := Hid.mk' (same4_t _ _ s6 s7 m1 m1 c6 c7 p1 V9 hH6 hH7)
  have hZ2 := Hid.mk' (fun u (hu : Below V9.heap.size V9 u) => same4_t _ _ s8 s9 m2 m2 c8 c9 p2 u (hH8.below hu) (hH9.below hu))
  have c60 := wt_c0 P6.wt
  have c70 := wt_c0 P7.wt
  clear hP1 hP2 hnV hH6 hH7 hH8 hH9 AS
  go_wp2_with (first
    | (go_at_call 21; have hz := hZ1; clear hZ1; go_must (refine hz.out.mono ?_; rintro e x1 ⟨rfl, hc1⟩; have r6 := wt_o (P6.below hc1 P6.lt).wt; have r7 := wt_o (P7.below hc1 P7.lt).wt; have d6 := wt_c' (P6.below hc1 P6.lt).wt ho1; have d7 := wt_c' (P7.below hc1 P7.lt).wt ho1; have c80 := wt_c0 (P8.below hc1 P8.lt).wt; have c90 := wt_c0 (P9.below hc1 P9.lt).wt))
    | (refine ld24g (by rfl) _ (by rfl) g6 (0 + 1) (by rfl) o1 ho1 r6 ?_)
    | (refine ld24g (by rfl) _ (by rfl) g7 (0 + 1) (by rfl) o1 ho1 r7 ?_)
    | (go_at_call 21; have hz := hZ2; clear hZ2; go_must (refine (hz.out _ hc1).mono ?_; rintro e x2 ⟨rfl, hc2⟩; have X2 := hc1.trans (hc2.mono hc1.size); have r8 := wt_o (P8.below X2 P8.lt).wt; have r9 := wt_o (P9.below X2 P9.lt).wt; have d8 := wt_c' (P8.below X2 P8.lt).wt ho2; have d9 := wt_c' (P9.below X2 P9.lt).wt ho2))
    | (refine ld24g (by rfl) _ (by rfl) g8 (0 + 1) (by rfl) o2 ho2 r8 ?_)
    | (refine ld24g (by rfl) _ (by rfl) g9 (0 + 1) (by rfl) o2 ho2 r9 ?_)
    | (go_at_call 22; go_must (refine (anchored_any _).mono ?_; rintro e x3 ⟨rfl, hc3⟩; have X3 := X2.trans (hc3.mono X2.size))))
  go_ret
  exact ⟨rfl, BW.trans (X3.mono BW.size)⟩
end Go.Proofs.Ytlebojbfcolkhaa
