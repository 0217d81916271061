/- Layer merkle: the laws' anchor. -/
import Derived.Test.YthpinikdkfiagaaMp
namespace Go.Proofs.Ythpinikdkfiagaa
open Go.RowKit Go.Shelf
set_option linter.unusedVariables false
set_option linter.unusedSimpArgs false

theorem b1L {ops : Array Oper} {rest : List Oper} {o : Oper} {a : Act} {w : World} {Q : Exit → Act → World → Prop} (hgd : Region.wanted o (yielded ops a.tmps) = true) (x : Operand) (ho : o.op = .buildSlice 22 1 #[(0, x)]) (X : List Int) (hx : a.eval x = .agg (h8 X)) (hX : X.length = 32)
    (h : wpList Try.prog ops Q rest (a.put o.dst (.slice (some ⟨w.heap.size, 0, none⟩) 1 1)) (w.alloc (.cells (h8 X) 24))) : wpList Try.prog ops Q (o :: rest) a w :=
  wpList_want hgd fun _ hK => wp_bld1 x ho X hx hX (hK _ _ h)
theorem b2L {ops : Array Oper} {rest : List Oper} {o : Oper} {a : Act} {w : World} {Q : Exit → Act → World → Prop} (hgd : Region.wanted o (yielded ops a.tmps) = true) (x y : Operand) (ho : o.op = .buildSlice 22 2 #[(0, x), (1, y)]) (X Y : List Int) (hx : a.eval x = .agg (h8 X)) (hy : a.eval y = .agg (h8 Y)) (hX : X.length = 32) (hY : Y.length = 32)
    (h : wpList Try.prog ops Q rest (a.put o.dst (.slice (some ⟨w.heap.size, 0, none⟩) 2 2)) (w.alloc (.cells (flat32 [X, Y]).toArray 24))) : wpList Try.prog ops Q (o :: rest) a w :=
  wpList_want hgd fun _ hK => wp_bld2 x y ho X Y hx hy hX hY (hK _ _ h)
theorem all2 {A B : List Int} (hA : A.length = 32) (hB : B.length = 32) : ∀ x ∈ [A, B], x.length = 32 := by
  intro x hx
  simp only [List.mem_cons, List.not_mem_nil, or_false] at hx
  rcases hx with rfl | rfl
  · exact hA
  · exact hB
theorem rootAB {A B : List Int} (hA : A.length = 32) (hB : B.length = 32) (w : World) (g : Nat) (hg : g = w.heap.size) : Calls Try.prog 7 #[.int .i64 1, .slice (some ⟨g, 0, none⟩) 2 2] (w.alloc (.cells (flat32 [A, B]).toArray 24)) fun e w' => e = .returned (.tuple #[.agg (h8 (pr A B)), .int .i64 0]) ∧ Below w.heap.size w w' := by
  subst hg
  refine (root_any 1 _ _ 2 2 [A, B] _ (hs_lit (Arr.new w 24 _) (all2 hA hB) rfl (by omega))).mono ?_
  rintro e w' ⟨he, hb⟩
  refine ⟨?_, (alloc_bel' w _).trans (hb.mono (by simp))⟩
  rw [he]
  rfl
theorem proofAB {A B : List Int} (hA : A.length = 32) (hB : B.length = 32) (w : World) (g : Nat) (hg : g = w.heap.size) : Calls Try.prog 10 #[.int .i64 1, .slice (some ⟨g, 0, none⟩) 2 2, .int .i64 1] (w.alloc (.cells (flat32 [A, B]).toArray 24)) fun e w' => ∃ sp cap, e = .returned (.tuple #[.slice sp 1 cap, .int .i64 0]) ∧ Hid (HS w'.heap.size w' sp 1 cap [A]) ∧ Below w.heap.size w w' := by
  subst hg
  refine (proof_ok 1 1 _ _ 2 2 [A, B] _ (by omega) (by decide) (by decide) (hs_lit (Arr.new w 24 _) (all2 hA hB) rfl (by omega))).mono ?_
  rintro e w' ⟨v, he, hown, hb⟩
  obtain ⟨sp, cap, rfl, hH, -⟩ := own_hs hown (ls := [A]) (fun x hx => by simp only [List.mem_singleton] at hx; rw [hx]; exact hA) rfl (by omega)
  exact ⟨sp, cap, he, Hid.mk' hH, (alloc_bel' w _).trans (hb.mono (by simp))⟩
theorem checkAB {A B : List Int} (hA : A.length = 32) (hB : B.length = 32) (w : World) (g : Nat) (hg : g = w.heap.size) : Calls Try.prog 18 #[.agg (h8 (pr A B)), .int .i64 0, .agg (h8 A), .slice (some ⟨g, 0, none⟩) 1 1] (w.alloc (.cells (h8 B) 24)) fun e w' => e = .returned (.bool true) ∧ Below w.heap.size w w' := by
  subst hg
  have hl : Arr (w.alloc (.cells (h8 B) 24)) w.heap.size 24 (flat32 [B]).toArray := by
    have e : (flat32 [B]).toArray = h8 B := by simp [flat32, h8]
    rw [e]; exact Arr.new w 24 _
  refine (check_any (pr A B) 0 A _ _ 1 1 [B] _ (pr_len _ _) hA (hs_lit hl (fun x hx => by simp only [List.mem_singleton] at hx; rw [hx]; exact hB) rfl (by omega))).mono ?_
  rintro e w' ⟨he, hb⟩
  refine ⟨?_, (alloc_bel' w _).trans (hb.mono (by simp))⟩
  rw [he]
  have : ckB (pr A B) 0 A [B] = true := by
    unfold ckB
    apply decide_eq_true
    exact ⟨⟨by simp, by decide, by simp⟩, rfl⟩
  rw [this]
theorem step_want' {P : Program} {ops : Array Oper} {o : Oper} {a : Act} {w : World} {K : Act → World → Prop} {Q : Exit → Act → World → Prop} {E : Prop} (hg : Region.wanted o (yielded ops a.tmps) = true) (h : Oper.wp P o a w K Q) :
    if Region.wanted o (yielded ops a.tmps) = true then Oper.wp P o a w K Q else E := by
  rw [if_pos hg]; exact h
theorem sameA {A : List Int} {N : Nat} {sp : Option Addr} {cap : Nat} {w : World} (hH : HS N w sp 1 cap [A]) (hA : A.length = 32) (g : Nat) (hg : g = w.heap.size) : Calls Try.prog 12 #[.slice sp 1 cap, .slice (some ⟨g, 0, none⟩) 1 1] (w.alloc (.cells (h8 A) 24)) fun e w' => e = .returned (.bool true) ∧ Below w.heap.size w w' := by
  subst hg
  have hl : Arr (w.alloc (.cells (h8 A) 24)) w.heap.size 24 (flat32 [A]).toArray := by
    have e : (flat32 [A]).toArray = h8 A := by simp [flat32, h8]
    rw [e]; exact Arr.new w 24 _
  refine (same_true _ _ sp _ 1 cap 1 [A] _ (hH.here.below (alloc_bel' w _)) (hs_lit hl (fun x hx => by simp only [List.mem_singleton] at hx; rw [hx]; exact hA) rfl (by omega))).mono ?_
  rintro e w' ⟨he, hb⟩
  exact ⟨he, (alloc_bel' w _).trans (hb.mono (by simp))⟩
set_option maxRecDepth 100000 in
set_option maxHeartbeats 1000000 in
theorem anchored_any (w : World) : Calls Try.prog 13 #[] w fun e w' => e = .returned (.bool true) ∧ Below w.heap.size w w' := by
  obtain ⟨A, hA⟩ : ∃ A, A = shl [1] := ⟨_, rfl⟩
  obtain ⟨B, hB⟩ : ∃ B, B = shl [2] := ⟨_, rfl⟩
  have s1 := fun w g hg => sum1 1 w g hg
  have s2 := fun w g hg => sum1 2 w g hg
  have hA32 : A.length = 32 := by rw [hA]; exact shl_len _
  have hB32 : B.length = 32 := by rw [hB]; exact shl_len _
  rw [← hA] at s1
  rw [← hB] at s2
  clear hA hB
  replace s1 := Hid.mk' s1
  replace s2 := Hid.mk' s2
  have hP32 := pr_len A B
  have hroot := Hid.mk' (rootAB hA32 hB32)
  have hproof := Hid.mk' (proofAB hA32 hB32)
  have hcheck := Hid.mk' (checkAB hA32 hB32)
  have hrp := Hid.mk' (fun w => refPair_h A B w hA32 hB32)
  generalize pr A B = P at *
  have E := run_eq24 hP32 hP32
  rw [decide_eq_true rfl] at E
  go_enter Try.func13, Try.ntmps13
  go_upto_region 2 with (first
    | (go_at_call 20; go_must (first
      | (refine (s2.out w1 _ rfl).mono ?_; rintro e w2 ⟨rfl, hb2⟩; have hs2 := hb2.size; have C0 := (Arr.new w2 24 (h8 Z32)).alloc (.cells (h8 Z32) 24); have C1 := (show Arr ((w2.alloc (.cells (h8 Z32) 24)).alloc (.cells (h8 Z32) 24)) (w2.heap.size + 1) 24 (h8 Z32) from (by have h := Arr.new (w2.alloc (.cells (h8 Z32) 24)) 24 (h8 Z32); rwa [World.size_alloc] at h)).setRowOther (h8 A) (show w2.heap.size + 1 ≠ w2.heap.size by omega); have C0' := C0.setRow (h8 A))
      | (refine (s1.out w _ rfl).mono ?_; rintro e w1 ⟨rfl, hb1⟩; have hs1 := hb1.size)))
    | (refine st24 (by rfl) _ _ (by rfl) w2.heap.size A Z32 (by rfl) (by rfl) hA32 Z32_len C0 ?_)
    | (refine st24 (by rfl) _ _ (by rfl) (w2.heap.size + 1) B Z32 (by rfl) (by rfl) hB32 Z32_len C1 ?_))
  have D0 := C0'.setRowOther (h8 B) (show w2.heap.size ≠ w2.heap.size + 1 by omega)
  have D1 := C1.setRow (h8 B)
  have hbU : Below w.heap.size w ((((w2.alloc (.cells (h8 Z32) 24)).alloc (.cells (h8 Z32) 24)).setRow w2.heap.size (h8 A)).setRow (w2.heap.size + 1) (h8 B)) := below_setRow (below_setRow (((hb1.trans (hb2.mono hs1)).alloc (by omega) _).alloc (by simp; omega) _) (by omega) _) (by omega) _
  have hsU : ((((w2.alloc (.cells (h8 Z32) 24)).alloc (.cells (h8 Z32) 24)).setRow w2.heap.size (h8 A)).setRow (w2.heap.size + 1) (h8 B)).heap.size = w2.heap.size + 2 := by simp
  have hw2 : w.heap.size ≤ w2.heap.size := by omega
  rw [← h8_Z]
  generalize ((((w2.alloc (.cells (h8 Z32) 24)).alloc (.cells (h8 Z32) 24)).setRow w2.heap.size (h8 A)).setRow (w2.heap.size + 1) (h8 B)) = U at *
  clear C0 C1 C0' s1 s2 hb1 hs1 hb2 hs2
  generalize w2.heap.size = z at *
  have hzU : z + 1 < U.heap.size := by omega
  have hwU : w.heap.size ≤ U.heap.size := by omega
  clear hsU
  go_wp2_with (first
    | (refine ld24 (by rfl) _ (by rfl) z 0 (by rfl) A hA32 D0.range ?_)
    | (refine ld24 (by rfl) _ (by rfl) (z + 1) 0 (by rfl) B hB32 D1.range ?_)
    | (go_at_call 7; go_must (refine (hroot.out U _ rfl).mono ?_; rintro e w3 ⟨rfl, hb3⟩; have hs3 := hb3.size; have D0' := (D0.below hb3 (by omega)).alloc (.cells (h8 P) 24); have D1' := (D1.below hb3 (by omega)).alloc (.cells (h8 P) 24); have D2' := Arr.new w3 24 (h8 P); have hw3 := (hbU.trans (hb3.mono (by omega))).alloc (by omega) (.cells (h8 P) 24)))
    | (refine st24n (by rfl) _ _ (by rfl) w3 w3.heap.size rfl (by rfl) P (by rfl) (by rfl) hP32 ?_)
    | (refine b2L (by rfl) _ _ (by rfl) A B (by rfl) (by rfl) hA32 hB32 ?_)
    | (refine ld24 (by rfl) _ (by rfl) z 0 (by rfl) A hA32 D0'.range ?_)
    | (refine ld24 (by rfl) _ (by rfl) (z + 1) 0 (by rfl) B hB32 D1'.range ?_)
    | (go_at_call 10; go_must (refine (hproof.out (w3.alloc (.cells (h8 P) 24)) (w3.heap.size + 1) (by simp)).mono ?_; rintro e w4 ⟨sp4, cap4, rfl, hH4, hb4⟩; have hs4 := hb4.size; simp at hs4; have F0 := D0'.below hb4 (by simp; omega); have F1 := D1'.below hb4 (by simp; omega); have F2 := D2'.below hb4 (by simp); have hw4 := hw3.trans (hb4.mono (by simp; omega)))))
  replace hH4 := hH4
  have hz4 : z + 1 < w4.heap.size ∧ w3.heap.size < w4.heap.size ∧ w.heap.size ≤ w4.heap.size := by omega
  obtain ⟨hz4, hw34, hww4⟩ := hz4
  refine wp_region_held_drew (S := fun u => Below w4.heap.size w4 u) (by kernel_rfl) ((Below.refl _ _).drew) (fun hHeld => ?_)
  refine wpAnyH_take (i := 0) (oi := ⟨_, _, _, _, _, _⟩) (v := ?_) rfl (by kernel_rfl) (by kernel_rfl) (by kernel_rfl) (fun _ _ _ h => h) (Or.inl ⟨by rfl, ?_⟩) (by assumption) ?_
  rotate_left
  · intro u hSw
    go_simp
    try (with_reducible rfl)
  try simp only [Act.put, List.setIfInBounds_toArray, List.set_cons_zero, List.set_cons_succ]
  refine wpAnyH_take (i := 1) (oi := ⟨_, _, _, _, _, _⟩) (v := ?_) rfl (by kernel_rfl) (by kernel_rfl) (by kernel_rfl) (fun _ _ _ h => h) (Or.inl ⟨by rfl, ?_⟩) (by assumption) ?_
  rotate_left
  · intro u hSw
    go_simp
    try (with_reducible rfl)
  try simp only [Act.put, List.setIfInBounds_toArray, List.set_cons_zero, List.set_cons_succ]
  refine wpAnyH_take (i := 2) (oi := ⟨_, _, _, _, _, _⟩) (v := ?_) rfl (by kernel_rfl) (by kernel_rfl) (by kernel_rfl) (fun _ _ _ h => h) (Or.inl ⟨by rfl, ?_⟩) (by assumption) ?_
  rotate_left
  · intro u hSw
    go_simp
    try (with_reducible rfl)
  try simp only [Act.put, List.setIfInBounds_toArray, List.set_cons_zero, List.set_cons_succ]
  refine wpAnyH_take (i := 3) (oi := ⟨_, _, _, _, _, _⟩) (v := ?_) rfl (by kernel_rfl) (by kernel_rfl) (by kernel_rfl) (fun _ _ _ h => h) (Or.inl ⟨by rfl, ?_⟩) (by assumption) ?_
  rotate_left
  · intro u hSw
    go_simp
    try (with_reducible rfl)
  try simp only [Act.put, List.setIfInBounds_toArray, List.set_cons_zero, List.set_cons_succ]
  refine wpAnyH_take (i := 4) (oi := ⟨_, _, _, _, _, _⟩) (v := ?_) rfl (by kernel_rfl) (by kernel_rfl) (by kernel_rfl) (fun _ _ _ h => h) (Or.inl ⟨by rfl, ?_⟩) (by assumption) ?_
  rotate_left
  · intro u hSw
    go_simp
    try (with_reducible rfl)
  try simp only [Act.put, List.setIfInBounds_toArray, List.set_cons_zero, List.set_cons_succ]
  refine wpAnyH_take (i := 5) (oi := ⟨_, _, _, _, _, _⟩) (v := ?_) rfl (by kernel_rfl) (by kernel_rfl) (by kernel_rfl) (fun _ _ _ h => h) (Or.inl ⟨by rfl, ?_⟩) (by assumption) ?_
  rotate_left
  · intro u hSw
    go_simp
    try (with_reducible rfl)
  try simp only [Act.put, List.setIfInBounds_toArray, List.set_cons_zero, List.set_cons_succ]
  refine wpAnyH_take (i := 6) (oi := ⟨_, _, _, _, _, _⟩) (v := ?_) rfl (by kernel_rfl) (by kernel_rfl) (by kernel_rfl) (fun _ _ _ h => h) (Or.inl ⟨by rfl, ?_⟩) (by assumption) ?_
  rotate_left
  · intro u hSw
    go_simp
    try (with_reducible rfl)
  try simp only [Act.put, List.setIfInBounds_toArray, List.set_cons_zero, List.set_cons_succ]
  refine wpAnyH_take (i := 7) (oi := ⟨_, _, _, _, _, _⟩) rfl (by kernel_rfl) (by kernel_rfl) (by kernel_rfl) (fun _ _ _ h => h) (y24 (by rfl) (.tmp 3) rfl w3.heap.size 0 rfl P hP32 (fun u hu => (F2.below hu (by omega)).range)) (by assumption) ?_
  try simp only [Act.put, List.setIfInBounds_toArray, List.set_cons_zero, List.set_cons_succ]
  refine wpAnyH_take (i := 8) (oi := ⟨_, _, _, _, _, _⟩) rfl (by kernel_rfl) (by kernel_rfl) (by kernel_rfl) (fun _ _ _ h => h) (y24 (by rfl) (.tmp 1) rfl z 0 rfl A hA32 (fun u hu => (F0.below hu (by omega)).range)) (by assumption) ?_
  try simp only [Act.put, List.setIfInBounds_toArray, List.set_cons_zero, List.set_cons_succ]
  refine wpAnyH_take (i := 9) (oi := ⟨_, _, _, _, _, _⟩) rfl (by kernel_rfl) (by kernel_rfl) (by kernel_rfl) (fun _ _ _ h => h) (y24 (by rfl) (.tmp 2) rfl (z + 1) 0 rfl B hB32 (fun u hu => (F1.below hu (by omega)).range)) (by assumption) ?_
  try simp only [Act.put, List.setIfInBounds_toArray, List.set_cons_zero, List.set_cons_succ]
  refine wpAnyH_ready (rs := [10]) (by kernel_rfl) (by simp) ?_
  refine AllReadyH.cons (o := ⟨_, _, _, _, _, _⟩) rfl (fun K hK => ?_) AllReadyH.nil
  go_simp
  refine (hrp.out _).mono ?_; rintro e w5 ⟨rfl, hb5⟩; have hs5 := hb5.size; simp at hs5; have hH5 : Below w4.heap.size w4 w5 := ((Below.refl w4.heap.size w4).drew).trans (hb5.mono (by simp))
  go_wp2_with fail
  refine hK.out _ _ hH5 (fun hHeld => ?_)
  clear hK K
  try simp only [Act.put, List.setIfInBounds_toArray, List.set_cons_zero, List.set_cons_succ]
  refine wpAnyH_take (i := 11) (oi := ⟨_, _, _, _, _, _⟩) (v := ?_) rfl (by kernel_rfl) (by kernel_rfl) (by kernel_rfl) (fun _ _ _ h => h) (Or.inl ⟨by rfl, ?_⟩) (by assumption) ?_
  rotate_left
  · intro u hSw
    go_simp
    try (with_reducible rfl)
  try simp only [Act.put, List.setIfInBounds_toArray, List.set_cons_zero, List.set_cons_succ]
  refine wpAnyH_take (i := 12) (oi := ⟨_, _, _, _, _, _⟩) (v := ?_) rfl (by kernel_rfl) (by kernel_rfl) (by kernel_rfl) (fun _ _ _ h => h) (Or.inl ⟨by rfl, ?_⟩) (by assumption) ?_
  rotate_left
  · intro u hSw
    go_simp
    try (with_reducible rfl)
  try simp only [Act.put, List.setIfInBounds_toArray, List.set_cons_zero, List.set_cons_succ]
  refine wpAnyH_take (i := 13) (oi := ⟨_, _, _, _, _, _⟩) (v := ?_) rfl (by kernel_rfl) (by kernel_rfl) (by kernel_rfl) (fun _ _ _ h => h) (Or.inl ⟨by rfl, ?_⟩) (by assumption) ?_
  rotate_left
  · intro u hSw
    go_simp
    try (with_reducible rfl)
  try simp only [Act.put, List.setIfInBounds_toArray, List.set_cons_zero, List.set_cons_succ]
  refine wpAnyH_take (i := 14) (oi := ⟨_, _, _, _, _, _⟩) (v := ?_) rfl (by kernel_rfl) (by kernel_rfl) (by kernel_rfl) (fun _ _ _ h => h) (Or.inl ⟨by rfl, ?_⟩) (by assumption) ?_
  rotate_left
  · intro u hSw
    go_simp
    try (with_reducible rfl)
  try simp only [Act.put, List.setIfInBounds_toArray, List.set_cons_zero, List.set_cons_succ]
  refine wpAnyH_take (i := 15) (oi := ⟨_, _, _, _, _, _⟩) rfl (by kernel_rfl) (by kernel_rfl) (by kernel_rfl) (fun _ _ _ h => h) (y24 (by rfl) (.tmp 1) rfl z 0 rfl A hA32 (fun u hu => (F0.below hu (by omega)).range)) (by assumption) ?_
  try simp only [Act.put, List.setIfInBounds_toArray, List.set_cons_zero, List.set_cons_succ]
  refine wpAnyH_ready (rs := [16]) (by kernel_rfl) (by simp) ?_
  refine AllReadyH.cons (o := ⟨_, _, _, _, _, _⟩) rfl (fun K hK => ?_) AllReadyH.nil
  refine step_want' (by rfl) (wp_bld1 (.tmp 40) rfl A rfl hA32 ?_)
  refine hK.out _ _ (hH5.alloc hs5 _) (fun hHeld => ?_)
  clear hK K
  try simp only [Act.put, List.setIfInBounds_toArray, List.set_cons_zero, List.set_cons_succ]
  refine wpAnyH_ready (rs := [17]) (by kernel_rfl) (by simp) ?_
  refine AllReadyH.cons (o := ⟨_, _, _, _, _, _⟩) rfl (fun K hK => ?_) AllReadyH.nil
  go_simp
  refine (sameA (hH4.out.below hH5) hA32 _ rfl).mono ?_; rintro e w6 ⟨rfl, hb6⟩; have hs6 := hb6.size; have hH6 : Below w4.heap.size w4 w6 := hH5.trans (hb6.mono (by omega))
  go_wp2_with fail
  refine hK.out _ _ hH6 (fun hHeld => ?_)
  clear hK K
  try simp only [Act.put, List.setIfInBounds_toArray, List.set_cons_zero, List.set_cons_succ]
  refine wpAnyH_take (i := 18) (oi := ⟨_, _, _, _, _, _⟩) (v := ?_) rfl (by kernel_rfl) (by kernel_rfl) (by kernel_rfl) (fun _ _ _ h => h) (Or.inl ⟨by rfl, ?_⟩) (by assumption) ?_
  rotate_left
  · intro u hSw
    go_simp
    try (with_reducible rfl)
  try simp only [Act.put, List.setIfInBounds_toArray, List.set_cons_zero, List.set_cons_succ]
  refine wpAnyH_take (i := 19) (oi := ⟨_, _, _, _, _, _⟩) (v := ?_) rfl (by kernel_rfl) (by kernel_rfl) (by kernel_rfl) (fun _ _ _ h => h) (Or.inl ⟨by rfl, ?_⟩) (by assumption) ?_
  rotate_left
  · intro u hSw
    go_simp
    try (with_reducible rfl)
  try simp only [Act.put, List.setIfInBounds_toArray, List.set_cons_zero, List.set_cons_succ]
  refine wpAnyH_take (i := 20) (oi := ⟨_, _, _, _, _, _⟩) rfl (by kernel_rfl) (by kernel_rfl) (by kernel_rfl) (fun _ _ _ h => h) (y24 (by rfl) (.tmp 3) rfl w3.heap.size 0 rfl P hP32 (fun u hu => (F2.below hu (by omega)).range)) (by assumption) ?_
  try simp only [Act.put, List.setIfInBounds_toArray, List.set_cons_zero, List.set_cons_succ]
  refine wpAnyH_take (i := 21) (oi := ⟨_, _, _, _, _, _⟩) rfl (by kernel_rfl) (by kernel_rfl) (by kernel_rfl) (fun _ _ _ h => h) (y24 (by rfl) (.tmp 1) rfl z 0 rfl A hA32 (fun u hu => (F0.below hu (by omega)).range)) (by assumption) ?_
  try simp only [Act.put, List.setIfInBounds_toArray, List.set_cons_zero, List.set_cons_succ]
  refine wpAnyH_take (i := 22) (oi := ⟨_, _, _, _, _, _⟩) rfl (by kernel_rfl) (by kernel_rfl) (by kernel_rfl) (fun _ _ _ h => h) (y24 (by rfl) (.tmp 2) rfl (z + 1) 0 rfl B hB32 (fun u hu => (F1.below hu (by omega)).range)) (by assumption) ?_
  try simp only [Act.put, List.setIfInBounds_toArray, List.set_cons_zero, List.set_cons_succ]
  refine wpAnyH_ready (rs := [23]) (by kernel_rfl) (by simp) ?_
  refine AllReadyH.cons (o := ⟨_, _, _, _, _, _⟩) rfl (fun K hK => ?_) AllReadyH.nil
  refine step_want' (by rfl) (wp_bld1 (.tmp 47) rfl B rfl hB32 ?_)
  refine hK.out _ _ (hH6.alloc (by omega) _) (fun hHeld => ?_)
  clear hK K
  try simp only [Act.put, List.setIfInBounds_toArray, List.set_cons_zero, List.set_cons_succ]
  refine wpAnyH_ready (rs := [24]) (by kernel_rfl) (by simp) ?_
  refine AllReadyH.cons (o := ⟨_, _, _, _, _, _⟩) rfl (fun K hK => ?_) AllReadyH.nil
  go_simp
  refine (hcheck.out _ _ rfl).mono ?_; rintro e w7 ⟨rfl, hb7⟩; have hH7 : Below w4.heap.size w4 w7 := hH6.trans (hb7.mono (by omega))
  go_wp2_with fail
  refine hK.out _ _ hH7 (fun hHeld => ?_)
  clear hK K
  try simp only [Act.put, List.setIfInBounds_toArray, List.set_cons_zero, List.set_cons_succ]
  refine wpAnyH_take (i := 25) (oi := ⟨_, _, _, _, _, _⟩) (v := ?_) rfl (by kernel_rfl) (by kernel_rfl) (by kernel_rfl) (fun _ _ _ h => h) (Or.inl ⟨by rfl, ?_⟩) (by assumption) ?_
  rotate_left
  · intro u hSw
    go_simp
    try (with_reducible rfl)
  try simp only [Act.put, List.setIfInBounds_toArray, List.set_cons_zero, List.set_cons_succ]
  refine wpAnyH_take (i := 26) (oi := ⟨_, _, _, _, _, _⟩) (v := ?_) rfl (by kernel_rfl) (by kernel_rfl) (by kernel_rfl) (fun _ _ _ h => h) (Or.inl ⟨by rfl, ?_⟩) (by assumption) ?_
  rotate_left
  · intro u hSw
    go_simp
    try (with_reducible rfl)
  try simp only [Act.put, List.setIfInBounds_toArray, List.set_cons_zero, List.set_cons_succ]
  refine wpAnyH_done (by kernel_rfl) ?_ _
  go_wp2
  go_ret
  exact ⟨rfl, hw4.trans (hH7.mono (by omega))⟩
end Go.Proofs.Ythpinikdkfiagaa
