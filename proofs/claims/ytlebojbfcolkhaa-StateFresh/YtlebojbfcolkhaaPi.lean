/- Layer state: Prove, ProveOut. -/
import Derived.Test.YtlebojbfcolkhaaA22
namespace Go.Proofs.Ytlebojbfcolkhaa
open Go.RowKit
set_option maxRecDepth 100000
set_option linter.unusedVariables false
set_option linter.unusedSimpArgs false

theorem zwt : (wtA none 0 0 Z32 0).size = 34 := wtA_size Z32_len
set_option maxHeartbeats 2000000 in
theorem prove_ok (ps : List Ac) (N : Nat) (sp : Option Addr) (n cap : Nat) (os : List Ou) (i : Nat) (w : World) (hS : SS N w ps sp n cap os) (hm : may ps n = true) (hi : i < 32) :
    Calls Try.prog 17 #[.agg (stA ps sp n cap), .int .i64 i] w (WP 5 (pf 5 (al ps) i) (tr 5 (ol os)) n 0 w) := by
  have h1 := hS.a32.out
  have h2 := hS.l32
  have hok := hS.ok.out
  have hn32 := may_le hm
  have hS := hS.here
  have A0 := (Arr.new w 30 (stA ps sp n cap)).alloc (.cells (wtA none 0 0 Z32 0) 44)
  have Z0 := Arr.new (w.alloc (.cells (stA ps sp n cap) 30)) 44 (wtA none 0 0 Z32 0)
  rw [World.size_alloc] at Z0
  have B0 := (alloc_bel' w (.cells (stA ps sp n cap) 30)).alloc (by simp) (.cells (wtA none 0 0 Z32 0) 44)
  have hM := may_any ps sp n cap ((w.alloc (.cells (stA ps sp n cap) 30)).alloc (.cells (wtA none 0 0 Z32 0) 44)) h1 hok (by omega)
  rw [hm] at hM
  have hT32 : (tr 5 (ol os)).length = 32 := tr5_len (ol_32 os)
  have hI0 : ¬ (i : Int) < 0 := by omega
  have hI1 : ¬ (i : Int) ≥ 32 := by omega
  replace hok := Hid.mk' hok
  replace hM := Hid.mk' hM
  go_enter Try.func17, Try.ntmps17
  go_upto_region 3 with (first
    | (refine ld30 (by rfl) _ (by rfl) w.heap.size 30 (by rfl) ps sp n cap h1 h2 A0 ?_)
    | (go_at_call 13; go_must (refine hM.out.mono ?_; rintro e w1 ⟨rfl, hbM⟩)))
  have hs1 : w.heap.size + 2 ≤ w1.heap.size := by have := hbM.size; simpa using this
  replace B0 := (B0.trans (hbM.mono B0.size)).drew
  replace A0 := (A0.below hbM A0.lt).drew
  replace Z0 := (Z0.below hbM Z0.lt).drew
  replace hok := hok.out
  clear hM
  refine wp_region_held_drew (S := fun u => Below w.heap.size w u ∧ Arr u w.heap.size 30 (stA ps sp n cap)) (by kernel_rfl) (⟨B0, A0⟩) (fun hHeld => ?_)
  refine wpAnyH_take (i := 0) (oi := ⟨_, _, _, _, _, _⟩) rfl (by kernel_rfl) (by kernel_rfl) (by kernel_rfl) (fun _ _ _ h => h) (y30 (by rfl) (.tmp 2) rfl w.heap.size 30 rfl ps sp n cap h1 h2 (fun u hu => hu.2)) (by assumption) ?_
  try simp only [Act.put, List.setIfInBounds_toArray, List.set_cons_zero, List.set_cons_succ]
  refine wpAnyH_take (i := 1) (oi := ⟨_, _, _, _, _, _⟩) rfl (by kernel_rfl) (by kernel_rfl) (by kernel_rfl) (fun _ _ _ h => h) (y30 (by rfl) (.tmp 2) rfl w.heap.size 30 rfl ps sp n cap h1 h2 (fun u hu => hu.2)) (by assumption) ?_
  try simp only [Act.put, List.setIfInBounds_toArray, List.set_cons_zero, List.set_cons_succ]
  refine wpAnyH_take (i := 3) (oi := ⟨_, _, _, _, _, _⟩) (v := ?_) rfl (by kernel_rfl) (by kernel_rfl) (by kernel_rfl) (fun _ _ _ h => h) (Or.inl ⟨by rfl, ?_⟩) (by assumption) ?_
  rotate_left
  · intro u hSw
    go_simp
    try (with_reducible rfl)
  try simp only [Act.put, List.setIfInBounds_toArray, List.set_cons_zero, List.set_cons_succ]
  refine wpAnyH_take (i := 4) (oi := ⟨_, _, _, _, _, _⟩) rfl (by kernel_rfl) (by kernel_rfl) (by kernel_rfl) (fun _ _ _ h => h) (y30 (by rfl) (.tmp 2) rfl w.heap.size 30 rfl ps sp n cap h1 h2 (fun u hu => hu.2)) (by assumption) ?_
  try simp only [Act.put, List.setIfInBounds_toArray, List.set_cons_zero, List.set_cons_succ]
  refine wpAnyH_ready (rs := [2]) (by kernel_rfl) (by simp) ?_
  refine AllReadyH.cons (o := ⟨_, _, _, _, _, _⟩) rfl (fun K hK => ?_) AllReadyH.nil
  go_simp
  refine (accs_any ps sp n cap _ h1 hok).mono ?_; rintro e u1 ⟨s1, c1, es1, rfl, hE1, hm1, -, hb1⟩; have B1 := B0.trans (hb1.mono B0.size); have A1 := A0.below hb1 A0.lt; have Z1 := Z0.below hb1 Z0.lt
  go_wp2_with fail
  refine hK.out _ _ ⟨B1, A1⟩ (fun hHeld => ?_)
  clear hK K
  try simp only [Act.put, List.setIfInBounds_toArray, List.set_cons_zero, List.set_cons_succ]
  refine wpAnyH_ready (rs := [5]) (by kernel_rfl) (by simp) ?_
  refine AllReadyH.cons (o := ⟨_, _, _, _, _, _⟩) rfl (fun K hK => ?_) AllReadyH.nil
  go_simp
  refine (outs_any ps _ sp n cap os _ (hS.below B1) hn32).mono ?_; rintro e u2 ⟨s2, c2, es2, rfl, hE2, hm2, -, hb2⟩; have B2 := B1.trans (hb2.mono B1.size); have A2 := A1.below hb2 A1.lt; have Z2 := Z1.below hb2 Z1.lt; have hE12 := (hE1.below hb2).mono hb2.size
  go_wp2_with fail
  refine hK.out _ _ ⟨B2, A2⟩ (fun hHeld => ?_)
  clear hK K
  try simp only [Act.put, List.setIfInBounds_toArray, List.set_cons_zero, List.set_cons_succ]
  refine wpAnyH_ready (rs := [6]) (by kernel_rfl) (by simp) ?_
  refine AllReadyH.cons (o := ⟨_, _, _, _, _, _⟩) rfl (fun K hK => ?_) AllReadyH.nil
  go_simp
  refine (witness_ok ps sp n cap s1 s2 32 c1 n c2 es1 es2 _ _ i _ _ h1 h2 (by omega) hE12 hm1 (by omega) hE2 hm2 hn32 hi).mono ?_; rintro e u3 ⟨s3, c3, rfl, hHp, hOp, hb3⟩; have B3 := B2.trans (hb3.mono B2.size); have A3 := A2.below hb3 A2.lt; have Z3 := Z2.below hb3 Z2.lt
  go_wp2_with fail
  refine hK.out _ _ ⟨B3, A3⟩ (fun hHeld => ?_)
  clear hK K
  try simp only [Act.put, List.setIfInBounds_toArray, List.set_cons_zero, List.set_cons_succ]
  refine wpAnyH_take (i := 7) (oi := ⟨_, _, _, _, _, _⟩) (v := ?_) rfl (by kernel_rfl) (by kernel_rfl) (by kernel_rfl) (fun _ _ _ h => h) (Or.inl ⟨by rfl, ?_⟩) (by assumption) ?_
  rotate_left
  · intro u hSw
    go_simp
    try (with_reducible rfl)
  try simp only [Act.put, List.setIfInBounds_toArray, List.set_cons_zero, List.set_cons_succ]
  refine wpAnyH_take (i := 8) (oi := ⟨_, _, _, _, _, _⟩) (v := ?_) rfl (by kernel_rfl) (by kernel_rfl) (by kernel_rfl) (fun _ _ _ h => h) (Or.inl ⟨by rfl, ?_⟩) (by assumption) ?_
  rotate_left
  · intro u hSw
    go_simp
    try (with_reducible rfl)
  try simp only [Act.put, List.setIfInBounds_toArray, List.set_cons_zero, List.set_cons_succ]
  refine wpAnyH_ready (rs := [9]) (by kernel_rfl) (by simp) ?_
  refine AllReadyH.cons (o := ⟨_, _, _, _, _, _⟩) rfl (fun K hK => ?_) AllReadyH.nil
  refine step_want rfl (wp_store_row 44 (.tmp 4) (.tmp 25) rfl (w.heap.size + 1) (wtA s3 5 c3 (tr 5 (ol os)) n) rfl rfl 44 _ Z3 (s44 hT32) (by rw [wtA_size hT32]; exact zwt) (wtA_one _ _ _ _ _) ?_)
  refine hK.out _ _ ⟨below_setRow B3 (by omega) _, A3.setRowOther (k := w.heap.size + 1) _ (by omega)⟩ (fun hHeld => ?_)
  clear hK K
  try simp only [Act.put, List.setIfInBounds_toArray, List.set_cons_zero, List.set_cons_succ]
  refine wpAnyH_take (i := 10) (oi := ⟨_, _, _, _, _, _⟩) (v := ?_) rfl (by kernel_rfl) (by kernel_rfl) (by kernel_rfl) (fun _ _ _ h => h) (Or.inl ⟨by rfl, ?_⟩) (by assumption) ?_
  rotate_left
  · intro u hSw
    go_simp
    try (with_reducible rfl)
  try simp only [Act.put, List.setIfInBounds_toArray, List.set_cons_zero, List.set_cons_succ]
  refine wpAnyH_done (by kernel_rfl) ?_ _

  go_wp2_with fail
  have hsd : w1.heap.size ≤ w1.drew.heap.size := (Below.refl w1.heap.size w1).drew.size
  have hsu := hb1.size
  have hsv := hb2.size
  refine bodyPost_ret (v := .tuple #[.agg (wtA s3 5 c3 (tr 5 (ol os)) n), .int .i64 0]) (res44 Try.results17 rfl rfl hT32 (Z3.setRow _)) rfl ⟨s3, c3, rfl, ?_, ?_, below_setRow B3 (by omega) _⟩
  · have := hs_row hHp (wtA s3 5 c3 (tr 5 (ol os)) n) (g := w.heap.size + 1) (fun b off e => by have := own_ge hOp b (by rw [e]; rfl); omega)
    exact this.mono (by simp)
  · refine own_mono (own_same hOp (fun k hk => ?_)) (by omega)
    have hk2 := own_ge hOp k hk
    exact setRow_other u3 (w.heap.size + 1) k _ (by omega)
set_option maxHeartbeats 2000000 in
theorem prove_no (ps : List Ac) (sp : Option Addr) (n cap : Nat) (i : Int) (w : World) (h1 : ps.length = 32) (hok : ∀ a ∈ ps, AcOK a) (hn : n ≤ 140737488355328) (h : may ps n = false ∨ i < 0 ∨ i ≥ 32) :
    Calls Try.prog 17 #[.agg (stA ps sp n cap), .int .i64 i] w (WP 0 [] Z32 0 2 w) := by
  have h2 : ∀ a ∈ ps, a.lk.length = 32 := fun a ha => (hok a ha).l32
  have A0 := (Arr.new w 30 (stA ps sp n cap)).alloc (.cells (wtA none 0 0 Z32 0) 44)
  have Z0 := Arr.new (w.alloc (.cells (stA ps sp n cap) 30)) 44 (wtA none 0 0 Z32 0)
  rw [World.size_alloc] at Z0
  have B0 := (alloc_bel' w (.cells (stA ps sp n cap) 30)).alloc (by simp) (.cells (wtA none 0 0 Z32 0) 44)
  have hM := may_any ps sp n cap ((w.alloc (.cells (stA ps sp n cap) 30)).alloc (.cells (wtA none 0 0 Z32 0) 44)) h1 hok hn
  have fin : ∀ (w1 : World), Below ((w.alloc (.cells (stA ps sp n cap) 30)).alloc (.cells (wtA none 0 0 Z32 0) 44)).heap.size ((w.alloc (.cells (stA ps sp n cap) 30)).alloc (.cells (wtA none 0 0 Z32 0) 44)) w1 → WP 0 [] Z32 0 2 w (.returned (.tuple #[.agg (wtA none 0 0 Z32 0), .int .i64 2])) (w1.setRow (w.heap.size + 1) (wtA none 0 0 Z32 0)) := fun w1 hb => ⟨none, 0, rfl, HS.nil0 _ _, World.ownsRow_nil _ _ _ _, below_setRow (B0.trans (hb.mono B0.size)) (by omega) _⟩
  replace fin := Hid.mk' fin
  have hbf : w.heap.size + 1 < ((w.alloc (.cells (stA ps sp n cap) 30)).alloc (.cells (wtA none 0 0 Z32 0) 44)).heap.size := by simp
  cases hm : may ps n with
  | false =>
    rw [hm] at hM
    clear h hm
    replace hM := Hid.mk' hM
    go_enter Try.func17, Try.ntmps17
    go_upto_region 1 with fail
    go_wp2_with (first
      | (refine ld30 (by rfl) _ (by rfl) w.heap.size 30 (by rfl) ps sp n cap h1 h2 A0 ?_)
      | (go_at_call 13; go_must (refine hM.out.mono ?_; rintro e w1 ⟨rfl, hbM⟩; have Z1 := Z0.below hbM hbf))
      | (refine bdT (by rfl) 44 _ (by rfl) (by rfl) built44z ?_)
      | (refine st44 (by rfl) _ _ (by rfl) (w.heap.size + 1) none 0 0 Z32 0 zwt (by rfl) (by rfl) Z32_len Z1 ?_))
    exact bodyPost_ret (v := .tuple #[.agg (wtA none 0 0 Z32 0), .int .i64 2]) (res44 Try.results17 rfl rfl Z32_len (Z1.setRow _)) rfl (fin.out w1 hbM)
  | true =>
    rw [hm] at hM
    replace h : i < 0 ∨ i ≥ 32 := by rcases h with h | h; (rw [hm] at h; cases h); exact h
    clear hm
    replace hM := Hid.mk' hM
    by_cases hI : i < 0
    · clear h
      go_enter Try.func17, Try.ntmps17
      go_upto_region 1 with fail
      go_wp2_with (first
        | (refine ld30 (by rfl) _ (by rfl) w.heap.size 30 (by rfl) ps sp n cap h1 h2 A0 ?_)
        | (go_at_call 13; go_must (refine hM.out.mono ?_; rintro e w1 ⟨rfl, hbM⟩; have Z1 := Z0.below hbM hbf))
        | (refine bdT (by rfl) 44 _ (by rfl) (by rfl) built44z ?_)
        | (refine st44 (by rfl) _ _ (by rfl) (w.heap.size + 1) none 0 0 Z32 0 zwt (by rfl) (by rfl) Z32_len Z1 ?_))
      exact bodyPost_ret (v := .tuple #[.agg (wtA none 0 0 Z32 0), .int .i64 2]) (res44 Try.results17 rfl rfl Z32_len (Z1.setRow _)) rfl (fin.out w1 hbM)
    · have hI1 : i ≥ 32 := by omega
      clear h
      go_enter Try.func17, Try.ntmps17
      go_upto_region 1 with fail
      go_wp2_with (first
        | (refine ld30 (by rfl) _ (by rfl) w.heap.size 30 (by rfl) ps sp n cap h1 h2 A0 ?_)
        | (go_at_call 13; go_must (refine hM.out.mono ?_; rintro e w1 ⟨rfl, hbM⟩; have Z1 := Z0.below hbM hbf; have cO := (A0.below hbM A0.lt).stOut h1 h2))
        | (refine bdT (by rfl) 44 _ (by rfl) (by rfl) built44z ?_)
        | (refine st44 (by rfl) _ _ (by rfl) (w.heap.size + 1) none 0 0 Z32 0 zwt (by rfl) (by rfl) Z32_len Z1 ?_))
      exact bodyPost_ret (v := .tuple #[.agg (wtA none 0 0 Z32 0), .int .i64 2]) (res44 Try.results17 rfl rfl Z32_len (Z1.setRow _)) rfl (fin.out w1 hbM)
set_option maxHeartbeats 2000000 in
theorem proveOut_ok (ps : List Ac) (N : Nat) (sp : Option Addr) (n cap : Nat) (os : List Ou) (i : Nat) (w : World) (hS : SS N w ps sp n cap os) (hm : may ps n = true) (hi : i < 32) (hin : i < n) :
    Calls Try.prog 19 #[.agg (stA ps sp n cap), .int .i64 i] w (WP 5 (pf 5 (ol os) i) (tr 5 (al ps)) n 0 w) := by
  have h1 := hS.a32.out
  have h2 := hS.l32
  have hok := hS.ok.out
  have hn32 := may_le hm
  have hS := hS.here
  have A0 := (Arr.new w 30 (stA ps sp n cap)).alloc (.cells (wtA none 0 0 Z32 0) 44)
  have Z0 := Arr.new (w.alloc (.cells (stA ps sp n cap) 30)) 44 (wtA none 0 0 Z32 0)
  rw [World.size_alloc] at Z0
  have B0 := (alloc_bel' w (.cells (stA ps sp n cap) 30)).alloc (by simp) (.cells (wtA none 0 0 Z32 0) 44)
  have hM := may_any ps sp n cap ((w.alloc (.cells (stA ps sp n cap) 30)).alloc (.cells (wtA none 0 0 Z32 0) 44)) h1 hok (by omega)
  rw [hm] at hM
  have hT32 : (tr 5 (al ps)).length = 32 := tr5_len (al_32 ps)
  have hI0 : ¬ (i : Int) < 0 := by omega
  have hI1 : ¬ (i : Int) ≥ n := by omega
  have hI2 : (i : Int) < n := by omega
  replace hok := Hid.mk' hok
  replace hM := Hid.mk' hM
  go_enter Try.func19, Try.ntmps19
  go_upto_region 3 with (first
    | (refine ld30 (by rfl) _ (by rfl) w.heap.size 30 (by rfl) ps sp n cap h1 h2 A0 ?_)
    | (go_at_call 13; go_must (refine hM.out.mono ?_; rintro e w1 ⟨rfl, hbM⟩; have cO := (A0.below hbM A0.lt).stOut h1 h2)))
  have hs1 : w.heap.size + 2 ≤ w1.heap.size := by have := hbM.size; simpa using this
  replace B0 := (B0.trans (hbM.mono B0.size)).drew
  replace A0 := (A0.below hbM A0.lt).drew
  replace Z0 := (Z0.below hbM Z0.lt).drew
  replace hok := hok.out
  clear hM
  refine wp_region_held_drew (S := fun u => Below w.heap.size w u ∧ Arr u w.heap.size 30 (stA ps sp n cap)) (by kernel_rfl) (⟨B0, A0⟩) (fun hHeld => ?_)
  refine wpAnyH_take (i := 0) (oi := ⟨_, _, _, _, _, _⟩) rfl (by kernel_rfl) (by kernel_rfl) (by kernel_rfl) (fun _ _ _ h => h) (y30 (by rfl) (.tmp 2) rfl w.heap.size 30 rfl ps sp n cap h1 h2 (fun u hu => hu.2)) (by assumption) ?_
  try simp only [Act.put, List.setIfInBounds_toArray, List.set_cons_zero, List.set_cons_succ]
  refine wpAnyH_take (i := 1) (oi := ⟨_, _, _, _, _, _⟩) rfl (by kernel_rfl) (by kernel_rfl) (by kernel_rfl) (fun _ _ _ h => h) (y30 (by rfl) (.tmp 2) rfl w.heap.size 30 rfl ps sp n cap h1 h2 (fun u hu => hu.2)) (by assumption) ?_
  try simp only [Act.put, List.setIfInBounds_toArray, List.set_cons_zero, List.set_cons_succ]
  refine wpAnyH_take (i := 3) (oi := ⟨_, _, _, _, _, _⟩) (v := ?_) rfl (by kernel_rfl) (by kernel_rfl) (by kernel_rfl) (fun _ _ _ h => h) (Or.inl ⟨by rfl, ?_⟩) (by assumption) ?_
  rotate_left
  · intro u hSw
    go_simp
    try (with_reducible rfl)
  try simp only [Act.put, List.setIfInBounds_toArray, List.set_cons_zero, List.set_cons_succ]
  refine wpAnyH_take (i := 4) (oi := ⟨_, _, _, _, _, _⟩) rfl (by kernel_rfl) (by kernel_rfl) (by kernel_rfl) (fun _ _ _ h => h) (y30 (by rfl) (.tmp 2) rfl w.heap.size 30 rfl ps sp n cap h1 h2 (fun u hu => hu.2)) (by assumption) ?_
  try simp only [Act.put, List.setIfInBounds_toArray, List.set_cons_zero, List.set_cons_succ]
  refine wpAnyH_ready (rs := [2]) (by kernel_rfl) (by simp) ?_
  refine AllReadyH.cons (o := ⟨_, _, _, _, _, _⟩) rfl (fun K hK => ?_) AllReadyH.nil
  go_simp
  refine (outs_any ps _ sp n cap os _ (hS.below B0) hn32).mono ?_; rintro e u1 ⟨s1, c1, es1, rfl, hE1, hm1, -, hb1⟩; have B1 := B0.trans (hb1.mono B0.size); have A1 := A0.below hb1 A0.lt; have Z1 := Z0.below hb1 Z0.lt
  go_wp2_with fail
  refine hK.out _ _ ⟨B1, A1⟩ (fun hHeld => ?_)
  clear hK K
  try simp only [Act.put, List.setIfInBounds_toArray, List.set_cons_zero, List.set_cons_succ]
  refine wpAnyH_ready (rs := [5]) (by kernel_rfl) (by simp) ?_
  refine AllReadyH.cons (o := ⟨_, _, _, _, _, _⟩) rfl (fun K hK => ?_) AllReadyH.nil
  go_simp
  refine (accs_any ps sp n cap _ h1 hok).mono ?_; rintro e u2 ⟨s2, c2, es2, rfl, hE2, hm2, -, hb2⟩; have B2 := B1.trans (hb2.mono B1.size); have A2 := A1.below hb2 A1.lt; have Z2 := Z1.below hb2 Z1.lt; have hE12 := (hE1.below hb2).mono hb2.size
  go_wp2_with fail
  refine hK.out _ _ ⟨B2, A2⟩ (fun hHeld => ?_)
  clear hK K
  try simp only [Act.put, List.setIfInBounds_toArray, List.set_cons_zero, List.set_cons_succ]
  refine wpAnyH_ready (rs := [6]) (by kernel_rfl) (by simp) ?_
  refine AllReadyH.cons (o := ⟨_, _, _, _, _, _⟩) rfl (fun K hK => ?_) AllReadyH.nil
  go_simp
  refine (witness_ok ps sp n cap s1 s2 n c1 32 c2 es1 es2 _ _ i _ _ h1 h2 (by omega) hE12 hm1 hn32 hE2 hm2 (by omega) hi).mono ?_; rintro e u3 ⟨s3, c3, rfl, hHp, hOp, hb3⟩; have B3 := B2.trans (hb3.mono B2.size); have A3 := A2.below hb3 A2.lt; have Z3 := Z2.below hb3 Z2.lt
  go_wp2_with fail
  refine hK.out _ _ ⟨B3, A3⟩ (fun hHeld => ?_)
  clear hK K
  try simp only [Act.put, List.setIfInBounds_toArray, List.set_cons_zero, List.set_cons_succ]
  refine wpAnyH_take (i := 7) (oi := ⟨_, _, _, _, _, _⟩) (v := ?_) rfl (by kernel_rfl) (by kernel_rfl) (by kernel_rfl) (fun _ _ _ h => h) (Or.inl ⟨by rfl, ?_⟩) (by assumption) ?_
  rotate_left
  · intro u hSw
    go_simp
    try (with_reducible rfl)
  try simp only [Act.put, List.setIfInBounds_toArray, List.set_cons_zero, List.set_cons_succ]
  refine wpAnyH_take (i := 8) (oi := ⟨_, _, _, _, _, _⟩) (v := ?_) rfl (by kernel_rfl) (by kernel_rfl) (by kernel_rfl) (fun _ _ _ h => h) (Or.inl ⟨by rfl, ?_⟩) (by assumption) ?_
  rotate_left
  · intro u hSw
    go_simp
    try (with_reducible rfl)
  try simp only [Act.put, List.setIfInBounds_toArray, List.set_cons_zero, List.set_cons_succ]
  refine wpAnyH_ready (rs := [9]) (by kernel_rfl) (by simp) ?_
  refine AllReadyH.cons (o := ⟨_, _, _, _, _, _⟩) rfl (fun K hK => ?_) AllReadyH.nil
  refine step_want rfl (wp_store_row 44 (.tmp 4) (.tmp 28) rfl (w.heap.size + 1) (wtA s3 5 c3 (tr 5 (al ps)) n) rfl rfl 44 _ Z3 (s44 hT32) (by rw [wtA_size hT32]; exact zwt) (wtA_one _ _ _ _ _) ?_)
  refine hK.out _ _ ⟨below_setRow B3 (by omega) _, A3.setRowOther (k := w.heap.size + 1) _ (by omega)⟩ (fun hHeld => ?_)
  clear hK K
  try simp only [Act.put, List.setIfInBounds_toArray, List.set_cons_zero, List.set_cons_succ]
  refine wpAnyH_take (i := 10) (oi := ⟨_, _, _, _, _, _⟩) (v := ?_) rfl (by kernel_rfl) (by kernel_rfl) (by kernel_rfl) (fun _ _ _ h => h) (Or.inl ⟨by rfl, ?_⟩) (by assumption) ?_
  rotate_left
  · intro u hSw
    go_simp
    try (with_reducible rfl)
  try simp only [Act.put, List.setIfInBounds_toArray, List.set_cons_zero, List.set_cons_succ]
  refine wpAnyH_done (by kernel_rfl) ?_ _

  go_wp2_with fail
  have hsd : w1.heap.size ≤ w1.drew.heap.size := (Below.refl w1.heap.size w1).drew.size
  have hsu := hb1.size
  have hsv := hb2.size
  refine bodyPost_ret (v := .tuple #[.agg (wtA s3 5 c3 (tr 5 (al ps)) n), .int .i64 0]) (res44 Try.results19 rfl rfl hT32 (Z3.setRow _)) rfl ⟨s3, c3, rfl, ?_, ?_, below_setRow B3 (by omega) _⟩
  · have := hs_row hHp (wtA s3 5 c3 (tr 5 (al ps)) n) (g := w.heap.size + 1) (fun b off e => by have := own_ge hOp b (by rw [e]; rfl); omega)
    exact this.mono (by simp)
  · refine own_mono (own_same hOp (fun k hk => ?_)) (by omega)
    have hk2 := own_ge hOp k hk
    exact setRow_other u3 (w.heap.size + 1) k _ (by omega)
set_option maxHeartbeats 2000000 in
theorem proveOut_no (ps : List Ac) (sp : Option Addr) (n cap : Nat) (i : Int) (w : World) (h1 : ps.length = 32) (hok : ∀ a ∈ ps, AcOK a) (hn : n ≤ 140737488355328) (h : may ps n = false ∨ i < 0 ∨ i ≥ n) :
    Calls Try.prog 19 #[.agg (stA ps sp n cap), .int .i64 i] w (WP 0 [] Z32 0 2 w) := by
  have h2 : ∀ a ∈ ps, a.lk.length = 32 := fun a ha => (hok a ha).l32
  have A0 := (Arr.new w 30 (stA ps sp n cap)).alloc (.cells (wtA none 0 0 Z32 0) 44)
  have Z0 := Arr.new (w.alloc (.cells (stA ps sp n cap) 30)) 44 (wtA none 0 0 Z32 0)
  rw [World.size_alloc] at Z0
  have B0 := (alloc_bel' w (.cells (stA ps sp n cap) 30)).alloc (by simp) (.cells (wtA none 0 0 Z32 0) 44)
  have hM := may_any ps sp n cap ((w.alloc (.cells (stA ps sp n cap) 30)).alloc (.cells (wtA none 0 0 Z32 0) 44)) h1 hok hn
  have fin : ∀ (w1 : World), Below ((w.alloc (.cells (stA ps sp n cap) 30)).alloc (.cells (wtA none 0 0 Z32 0) 44)).heap.size ((w.alloc (.cells (stA ps sp n cap) 30)).alloc (.cells (wtA none 0 0 Z32 0) 44)) w1 → WP 0 [] Z32 0 2 w (.returned (.tuple #[.agg (wtA none 0 0 Z32 0), .int .i64 2])) (w1.setRow (w.heap.size + 1) (wtA none 0 0 Z32 0)) := fun w1 hb => ⟨none, 0, rfl, HS.nil0 _ _, World.ownsRow_nil _ _ _ _, below_setRow (B0.trans (hb.mono B0.size)) (by omega) _⟩
  replace fin := Hid.mk' fin
  have hbf : w.heap.size + 1 < ((w.alloc (.cells (stA ps sp n cap) 30)).alloc (.cells (wtA none 0 0 Z32 0) 44)).heap.size := by simp
  cases hm : may ps n with
  | false =>
    rw [hm] at hM
    clear h hm
    replace hM := Hid.mk' hM
    go_enter Try.func19, Try.ntmps19
    go_upto_region 1 with fail
    go_wp2_with (first
      | (refine ld30 (by rfl) _ (by rfl) w.heap.size 30 (by rfl) ps sp n cap h1 h2 A0 ?_)
      | (go_at_call 13; go_must (refine hM.out.mono ?_; rintro e w1 ⟨rfl, hbM⟩; have Z1 := Z0.below hbM hbf))
      | (refine bdT (by rfl) 44 _ (by rfl) (by rfl) built44z ?_)
      | (refine st44 (by rfl) _ _ (by rfl) (w.heap.size + 1) none 0 0 Z32 0 zwt (by rfl) (by rfl) Z32_len Z1 ?_))
    exact bodyPost_ret (v := .tuple #[.agg (wtA none 0 0 Z32 0), .int .i64 2]) (res44 Try.results19 rfl rfl Z32_len (Z1.setRow _)) rfl (fin.out w1 hbM)
  | true =>
    rw [hm] at hM
    replace h : i < 0 ∨ i ≥ n := by rcases h with h | h; (rw [hm] at h; cases h); exact h
    clear hm
    replace hM := Hid.mk' hM
    by_cases hI : i < 0
    · clear h
      go_enter Try.func19, Try.ntmps19
      go_upto_region 1 with fail
      go_wp2_with (first
        | (refine ld30 (by rfl) _ (by rfl) w.heap.size 30 (by rfl) ps sp n cap h1 h2 A0 ?_)
        | (go_at_call 13; go_must (refine hM.out.mono ?_; rintro e w1 ⟨rfl, hbM⟩; have Z1 := Z0.below hbM hbf))
        | (refine bdT (by rfl) 44 _ (by rfl) (by rfl) built44z ?_)
        | (refine st44 (by rfl) _ _ (by rfl) (w.heap.size + 1) none 0 0 Z32 0 zwt (by rfl) (by rfl) Z32_len Z1 ?_))
      exact bodyPost_ret (v := .tuple #[.agg (wtA none 0 0 Z32 0), .int .i64 2]) (res44 Try.results19 rfl rfl Z32_len (Z1.setRow _)) rfl (fin.out w1 hbM)
    · have hI1 : i ≥ n := by omega
      clear h
      go_enter Try.func19, Try.ntmps19
      go_upto_region 1 with fail
      go_wp2_with (first
        | (refine ld30 (by rfl) _ (by rfl) w.heap.size 30 (by rfl) ps sp n cap h1 h2 A0 ?_)
        | (go_at_call 13; go_must (refine hM.out.mono ?_; rintro e w1 ⟨rfl, hbM⟩; have Z1 := Z0.below hbM hbf; have cO := (A0.below hbM A0.lt).stOut h1 h2))
        | (refine bdT (by rfl) 44 _ (by rfl) (by rfl) built44z ?_)
        | (refine st44 (by rfl) _ _ (by rfl) (w.heap.size + 1) none 0 0 Z32 0 zwt (by rfl) (by rfl) Z32_len Z1 ?_))
      exact bodyPost_ret (v := .tuple #[.agg (wtA none 0 0 Z32 0), .int .i64 2]) (res44 Try.results19 rfl rfl Z32_len (Z1.setRow _)) rfl (fin.out w1 hbM)
end Go.Proofs.Ytlebojbfcolkhaa
