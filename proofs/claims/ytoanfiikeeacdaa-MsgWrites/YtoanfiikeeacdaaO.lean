/- Layer msg: the law MsgWrites. -/
import Derived.Test.YtoanfiikeeacdaaN
namespace Go.Proofs.Ytoanfiikeeacdaa
set_option linter.unusedSectionVars false
set_option maxHeartbeats 1000000
open Go.RowKit
set_option maxRecDepth 100000
set_option linter.unusedVariables false
set_option linter.unusedSimpArgs false

variable [DecidableEq Mg]
set_option maxHeartbeats 4000000 in
theorem writes_walk (m : Mg) (w : World) (hm : MgOK m) : Calls Try.prog 3 #[.agg m.arr] w fun e w' => e = .returned (.bool true) ∧ Below w.heap.size w w' := by
  have A0 := Arr.new w 27 m.arr
  have hB0 := alloc_bel' w (.cells m.arr 27)
  obtain ⟨c, hc⟩ : ∃ c : Int, Hid ((if m.may then (0 : Int) else 2) = c) := ⟨_, rfl⟩
  obtain ⟨L, hL⟩ : ∃ L, Hid (wb m = L) := ⟨_, rfl⟩
  have WA : ∀ u : World, Calls Try.prog 6 #[.agg m.arr] u fun e w' => ∃ sp n cap, e = .returned (.tuple #[.slice sp n cap, .int .i64 c]) ∧ BS w'.heap.size w' sp n cap L ∧ Below u.heap.size u w' := fun u => by
    refine (write_any m u hm).mono ?_
    rintro e w' ⟨sp, n, cap, rfl, hS, hb⟩
    exact ⟨sp, n, cap, by rw [hc.out], by rw [← hL.out]; exact hS, hb⟩
  have WB : ∀ u : World, Calls Try.prog 7 #[.agg m.arr] u fun e w' => ∃ sp n cap, e = .returned (.tuple #[.slice sp n cap, .int .i64 c]) ∧ BS w'.heap.size w' sp n cap L ∧ Below u.heap.size u w' := fun u => by
    refine (refWrite_any m u hm).mono ?_
    rintro e w' ⟨sp, n, cap, rfl, hS, hb⟩
    exact ⟨sp, n, cap, by rw [hc.out], by rw [← hL.out]; exact hS, hb⟩
  have MA : ∀ u : World, Calls Try.prog 8 #[.agg m.arr] u fun e w' => e = .returned (.bool m.may) ∧ Below u.heap.size u w' := fun u => may_any m u hm
  have MB : ∀ u : World, Calls Try.prog 9 #[.agg m.arr] u fun e w' => e = .returned (.bool m.may) ∧ Below u.heap.size u w' := fun u => refMay_any m u hm
  generalize m.may = bm at MA MB
  go_enter Try.func3, Try.ntmps3
  go_upto_region 2 with (first
    | (refine atL 27 (.tmp 1) ?_; refine ld27 (by rfl) (.tmp 1) (by rfl) w.heap.size 27 (by rfl) m hm A0 ?_)
    | (go_at_call 6; go_must (refine (WA _).mono ?_; rintro e w1 ⟨sp, n, cap, rfl, S1, hb1⟩; have A1 := A0.bel hb1; have B1 := hB0.trans (hb1.mono (by simp)); clear A0)))
  go_upto_region 3 with (first
    | (refine atL 27 (.tmp 1) ?_; refine ld27 (by rfl) (.tmp 1) (by rfl) w.heap.size 27 (by rfl) m hm A1 ?_)
    | (go_at_call 7; go_must (refine (WB _).mono ?_; rintro e V ⟨sq, k, caq, rfl, S2, hb2⟩; have A2 := A1.bel hb2; have B2 := B1.trans (hb2.mono B1.size); have S1' := (S1.below hb2).here; clear A1)))
  clear WA WB
  refine wp_region_held_drew (S := fun u => Below V.heap.size V u) (by kernel_rfl) ((Below.refl _ _).drew) (fun hHeld => ?_)
  refine wpAnyH_take (i := 0) (oi := ⟨_, _, _, _, _, _⟩) rfl (by kernel_rfl) (by kernel_rfl) (by kernel_rfl) (fun _ _ _ h => h) (y27 (by rfl) (.tmp 1) rfl w.heap.size 27 rfl m hm (fun u hu => A2.below hu A2.lt)) (by assumption) ?_
  try simp only [Act.put, List.setIfInBounds_toArray, List.set_cons_zero, List.set_cons_succ]
  refine wpAnyH_take (i := 2) (oi := ⟨_, _, _, _, _, _⟩) rfl (by kernel_rfl) (by kernel_rfl) (by kernel_rfl) (fun _ _ _ h => h) (y27 (by rfl) (.tmp 1) rfl w.heap.size 27 rfl m hm (fun u hu => A2.below hu A2.lt)) (by assumption) ?_
  try simp only [Act.put, List.setIfInBounds_toArray, List.set_cons_zero, List.set_cons_succ]
  refine wpAnyH_ready (rs := [1]) (by kernel_rfl) (by simp) ?_
  refine AllReadyH.cons (o := ⟨_, _, _, _, _, _⟩) rfl (fun K hK => ?_) AllReadyH.nil
  go_simp
  refine (MA _).mono ?_; rintro e u1 ⟨rfl, hb1'⟩; have H1 := ((Below.refl V.heap.size V).drew).trans (hb1'.mono (by simp))
  go_wp2_with fail
  refine hK.out _ _ H1 (fun hHeld => ?_)
  clear hK K
  try simp only [Act.put, List.setIfInBounds_toArray, List.set_cons_zero, List.set_cons_succ]
  refine wpAnyH_ready (rs := [3]) (by kernel_rfl) (by simp) ?_
  refine AllReadyH.cons (o := ⟨_, _, _, _, _, _⟩) rfl (fun K hK => ?_) AllReadyH.nil
  go_simp
  refine (MB _).mono ?_; rintro e u2 ⟨rfl, hb2'⟩; have H2 := H1.trans (hb2'.mono H1.size)
  go_wp2_with fail
  refine hK.out _ _ H2 (fun hHeld => ?_)
  clear hK K
  try simp only [Act.put, List.setIfInBounds_toArray, List.set_cons_zero, List.set_cons_succ]
  refine wpAnyH_take (i := 4) (oi := ⟨_, _, _, _, _, _⟩) (v := ?_) rfl (by kernel_rfl) (by kernel_rfl) (by kernel_rfl) (fun _ _ _ h => h) (Or.inl ⟨by rfl, ?_⟩) (by assumption) ?_
  rotate_left
  · intro u hSw
    go_simp
    try (with_reducible rfl)
  try simp only [Act.put, List.setIfInBounds_toArray, List.set_cons_zero, List.set_cons_succ]
  try simp only [beq_self_eq_true]
  refine wpAnyH_take (i := 5) (oi := ⟨_, _, _, _, _, _⟩) (v := ?_) rfl (by kernel_rfl) (by kernel_rfl) (by kernel_rfl) (fun _ _ _ h => h) (Or.inl ⟨by rfl, ?_⟩) (by assumption) ?_
  rotate_left
  · intro u hSw
    go_simp
    try (with_reducible rfl)
  try simp only [Act.put, List.setIfInBounds_toArray, List.set_cons_zero, List.set_cons_succ]
  refine wpAnyH_take (i := 6) (oi := ⟨_, _, _, _, _, _⟩) (v := ?_) rfl (by kernel_rfl) (by kernel_rfl) (by kernel_rfl) (fun _ _ _ h => h) (Or.inl ⟨by rfl, ?_⟩) (by assumption) ?_
  rotate_left
  · intro u hSw
    go_simp
    try (with_reducible rfl)
  try simp only [Act.put, List.setIfInBounds_toArray, List.set_cons_zero, List.set_cons_succ]
  refine wpAnyH_take (i := 7) (oi := ⟨_, _, _, _, _, _⟩) (v := ?_) rfl (by kernel_rfl) (by kernel_rfl) (by kernel_rfl) (fun _ _ _ h => h) (Or.inl ⟨by rfl, ?_⟩) (by assumption) ?_
  rotate_left
  · intro u hSw
    go_simp
    try (with_reducible rfl)
  try simp only [Act.put, List.setIfInBounds_toArray, List.set_cons_zero, List.set_cons_succ]
  refine wpAnyH_ready (rs := [8]) (by kernel_rfl) (by simp) ?_
  refine AllReadyH.cons (o := ⟨_, _, _, _, _, _⟩) rfl (fun K hK => ?_) AllReadyH.nil
  go_simp
  refine (same01_any _ _ _ _ _ _ L L _ _ _ (S1'.below H2) (S2.below H2)).mono ?_; rintro e u3 ⟨rfl, rfl⟩; simp only [decide_true]
  go_wp2_with fail
  refine hK.out _ _ H2 (fun hHeld => ?_)
  clear hK K
  try simp only [Act.put, List.setIfInBounds_toArray, List.set_cons_zero, List.set_cons_succ]
  refine wpAnyH_take (i := 9) (oi := ⟨_, _, _, _, _, _⟩) (v := ?_) rfl (by kernel_rfl) (by kernel_rfl) (by kernel_rfl) (fun _ _ _ h => h) (Or.inl ⟨by rfl, ?_⟩) (by assumption) ?_
  rotate_left
  · intro u hSw
    go_simp
    try (with_reducible rfl)
  try simp only [Act.put, List.setIfInBounds_toArray, List.set_cons_zero, List.set_cons_succ]
  refine wpAnyH_take (i := 10) (oi := ⟨_, _, _, _, _, _⟩) (v := ?_) rfl (by kernel_rfl) (by kernel_rfl) (by kernel_rfl) (fun _ _ _ h => h) (Or.inl ⟨by rfl, ?_⟩) (by assumption) ?_
  rotate_left
  · intro u hSw
    go_simp
    try (with_reducible rfl)
  try simp only [Act.put, List.setIfInBounds_toArray, List.set_cons_zero, List.set_cons_succ]
  refine wpAnyH_take (i := 11) (oi := ⟨_, _, _, _, _, _⟩) (v := ?_) rfl (by kernel_rfl) (by kernel_rfl) (by kernel_rfl) (fun _ _ _ h => h) (Or.inl ⟨by rfl, ?_⟩) (by assumption) ?_
  rotate_left
  · intro u hSw
    go_simp
    try (with_reducible rfl)
  try simp only [Act.put, List.setIfInBounds_toArray, List.set_cons_zero, List.set_cons_succ]
  refine wpAnyH_take (i := 12) (oi := ⟨_, _, _, _, _, _⟩) (v := ?_) rfl (by kernel_rfl) (by kernel_rfl) (by kernel_rfl) (fun _ _ _ h => h) (Or.inl ⟨by rfl, ?_⟩) (by assumption) ?_
  rotate_left
  · intro u hSw
    go_simp
    try (with_reducible rfl)
  try simp only [Act.put, List.setIfInBounds_toArray, List.set_cons_zero, List.set_cons_succ]
  refine wpAnyH_take (i := 13) (oi := ⟨_, _, _, _, _, _⟩) (v := ?_) rfl (by kernel_rfl) (by kernel_rfl) (by kernel_rfl) (fun _ _ _ h => h) (Or.inl ⟨by rfl, ?_⟩) (by assumption) ?_
  rotate_left
  · intro u hSw
    go_simp
    try (with_reducible rfl)
  try simp only [Act.put, List.setIfInBounds_toArray, List.set_cons_zero, List.set_cons_succ]
  try simp only [beq_self_eq_true]
  refine wpAnyH_take (i := 14) (oi := ⟨_, _, _, _, _, _⟩) (v := ?_) rfl (by kernel_rfl) (by kernel_rfl) (by kernel_rfl) (fun _ _ _ h => h) (Or.inl ⟨by rfl, ?_⟩) (by assumption) ?_
  rotate_left
  · intro u hSw
    go_simp
    try (with_reducible rfl)
  try simp only [Act.put, List.setIfInBounds_toArray, List.set_cons_zero, List.set_cons_succ]
  refine wpAnyH_take (i := 15) (oi := ⟨_, _, _, _, _, _⟩) (v := ?_) rfl (by kernel_rfl) (by kernel_rfl) (by kernel_rfl) (fun _ _ _ h => h) (Or.inl ⟨by rfl, ?_⟩) (by assumption) ?_
  rotate_left
  · intro u hSw
    go_simp
    try (with_reducible rfl)
  try simp only [Act.put, List.setIfInBounds_toArray, List.set_cons_zero, List.set_cons_succ]
  refine wpAnyH_ready (rs := [16]) (by kernel_rfl) (by simp) ?_
  refine AllReadyH.cons (o := ⟨_, _, _, _, _, _⟩) rfl (fun K hK => ?_) AllReadyH.nil
  go_simp
  refine (anchored_any _).mono ?_; rintro e u5 ⟨rfl, hb5'⟩; have H5 := H2.trans (hb5'.mono H2.size)
  go_wp2_with fail
  refine hK.out _ _ H5 (fun hHeld => ?_)
  clear hK K
  try simp only [Act.put, List.setIfInBounds_toArray, List.set_cons_zero, List.set_cons_succ]
  refine wpAnyH_take (i := 17) (oi := ⟨_, _, _, _, _, _⟩) (v := ?_) rfl (by kernel_rfl) (by kernel_rfl) (by kernel_rfl) (fun _ _ _ h => h) (Or.inl ⟨by rfl, ?_⟩) (by assumption) ?_
  rotate_left
  · intro u hSw
    go_simp
    try (with_reducible rfl)
  try simp only [Act.put, List.setIfInBounds_toArray, List.set_cons_zero, List.set_cons_succ]
  refine wpAnyH_take (i := 18) (oi := ⟨_, _, _, _, _, _⟩) (v := ?_) rfl (by kernel_rfl) (by kernel_rfl) (by kernel_rfl) (fun _ _ _ h => h) (Or.inl ⟨by rfl, ?_⟩) (by assumption) ?_
  rotate_left
  · intro u hSw
    go_simp
    try (with_reducible rfl)
  try simp only [Act.put, List.setIfInBounds_toArray, List.set_cons_zero, List.set_cons_succ]
  refine wpAnyH_done (by kernel_rfl) ?_ _
  go_wp2_with fail
  go_ret
  exact ⟨rfl, B2.trans (H5.mono B2.size)⟩
end Go.Proofs.Ytoanfiikeeacdaa
