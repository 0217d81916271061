/- Layer merkle: the walk of MerkleFolds. -/
import Derived.Test.YthpinikdkfiagaaMq
namespace Go.Proofs.Ythpinikdkfiagaa
open Go.RowKit Go.Shelf
set_option linter.unusedVariables false
set_option linter.unusedSimpArgs false

theorem ck_self (i : Int) (X : List Int) (ls : List (List Int)) : ckB (foR i X ls) i X ls = (foE i ls == 0) := by
  unfold ckB foR foE
  by_cases h : FoOK i ls.length
  · rw [if_pos h, if_pos h]; exact (decide_eq_true ⟨h, rfl⟩).trans rfl
  · rw [if_neg h, if_neg h]; exact (decide_eq_false (fun q => h q.1)).trans rfl
theorem Arr.part32 {w : World} {g ty : Nat} {ls : List (List Int)} (h : Arr w g ty (flat32 ls).toArray) (hl : ∀ x ∈ ls, x.length = 32) {k : Nat} {X : List Int} (hX : ls[k]? = some X) : w.rangeAt g (k * 32) (by8 X) := fun j v hv => by
  rw [h.cell]
  simpa using flat32_at hl hX hv

set_option maxRecDepth 100000 in
set_option maxHeartbeats 1000000 in
theorem folds_walk (i : Int) (L X R : List Int) (sp : Option Addr) (n cap : Nat) (ls : List (List Int)) (w : World) (hL : L.length = 32) (hX : X.length = 32) (hR : R.length = 32) (hS : HS w.heap.size w sp n cap ls) :
    Calls Try.prog 4 #[.int .i64 i, .agg (flat32 [L, X, R]).toArray, .slice sp n cap] w fun e w' => e = .returned (.bool true) ∧ Below w.heap.size w w' := by
  have h3 : ∀ x ∈ [L, X, R], x.length = 32 := by
    intro x hx
    simp only [List.mem_cons, List.not_mem_nil, or_false] at hx
    rcases hx with rfl | rfl | rfl <;> assumption
  have T0 := Arr.new w 39 (flat32 [L, X, R]).toArray
  have hb0 := alloc_bel' w (.cells (flat32 [L, X, R]).toArray 39)
  have hF := Hid.mk' (fun w hS => fold_any i L w.heap.size sp n cap ls w hL hS)
  have hF' := Hid.mk' (fun w hS => refFold_any i L w.heap.size sp n cap ls w hL hS)
  have hW := Hid.mk' (fun w hS => swap_any R i L X w.heap.size sp n cap ls w hR hL hX hS)
  have hW' := Hid.mk' (fun w hS => refSwap_any R i L X w.heap.size sp n cap ls w hR hL hX hS)
  have hC := Hid.mk' (fun w hS => check_any R i L w.heap.size sp n cap ls w hR hL hS)
  have hC' := Hid.mk' (fun w hS => refCheck_any R i L w.heap.size sp n cap ls w hR hL hS)
  have hfl := foR_len (i := i) (ls := ls) hL
  have hwl := swR_len (R := R) (i := i) (X := L) (ls := ls) hX
  have hCa := Hid.mk' (fun w hS => check_any (foR i L ls) i L w.heap.size sp n cap ls w hfl hL hS)
  rw [ck_self] at hCa
  generalize foR i L ls = a at *
  generalize foE i ls = c at *
  generalize swR R i L X ls = s at *
  generalize ckB R i L ls = k at *
  go_enter Try.func4, Try.ntmps4
  have H0 := (hS.below hb0).mono (show w.heap.size ≤ (w.alloc (.cells (flat32 [L, X, R]).toArray 39)).heap.size by simp)
  go_wp2_with (first
    | (go_at_call 14; go_must (refine (hF.out _ H0).mono ?_; rintro e w1 ⟨rfl, hbw1⟩; have hsw1 := hbw1.size; simp at hsw1; have Tw1 := (T0.below hbw1 (by simp <;> omega)).alloc (.cells (h8 a) 24); have Vw1 := Arr.new w1 24 (h8 a); have bww1 := (hb0.trans (hbw1.mono (by simp <;> omega))).alloc (by omega) (.cells (h8 a) 24); have Hw1 := (hS.below bww1).mono (show w.heap.size ≤ (w1.alloc (.cells (h8 a) 24)).heap.size by simp; omega)))
    | (go_at_call 15; go_must (refine (hF'.out _ Hw1).mono ?_; rintro e w2 ⟨rfl, hbw2⟩; have hsw2 := hbw2.size; simp at hsw2; have Tw2 := (Tw1.below hbw2 (by simp <;> omega)).alloc (.cells (h8 a) 24); have Vw2 := Arr.new w2 24 (h8 a); have bww2 := (bww1.trans (hbw2.mono (by simp <;> omega))).alloc (by omega) (.cells (h8 a) 24); have Hw2 := (hS.below bww2).mono (show w.heap.size ≤ (w2.alloc (.cells (h8 a) 24)).heap.size by simp; omega); have P1 := (Vw1.below hbw2 (by simp)).alloc (.cells (h8 a) 24)))
    | (go_at_call 16; go_must (refine (hW.out _ Hw2).mono ?_; rintro e w3 ⟨rfl, hbw3⟩; have hsw3 := hbw3.size; simp at hsw3; have Tw3 := (Tw2.below hbw3 (by simp <;> omega)).alloc (.cells (h8 s) 24); have Vw3 := Arr.new w3 24 (h8 s); have bww3 := (bww2.trans (hbw3.mono (by simp <;> omega))).alloc (by omega) (.cells (h8 s) 24); have Hw3 := (hS.below bww3).mono (show w.heap.size ≤ (w3.alloc (.cells (h8 s) 24)).heap.size by simp; omega); have P2 := (P1.below hbw3 (by simp <;> omega)).alloc (.cells (h8 s) 24); have Q2 := (Vw2.below hbw3 (by simp)).alloc (.cells (h8 s) 24)))
    | (go_at_call 17; go_must (refine (hW'.out _ Hw3).mono ?_; rintro e w4 ⟨rfl, hbw4⟩; have hsw4 := hbw4.size; simp at hsw4; have Tw4 := (Tw3.below hbw4 (by simp <;> omega)).alloc (.cells (h8 s) 24); have Vw4 := Arr.new w4 24 (h8 s); have bww4 := (bww3.trans (hbw4.mono (by simp <;> omega))).alloc (by omega) (.cells (h8 s) 24); have Hw4 := (hS.below bww4).mono (show w.heap.size ≤ (w4.alloc (.cells (h8 s) 24)).heap.size by simp; omega); have P3 := (P2.below hbw4 (by simp <;> omega)).alloc (.cells (h8 s) 24); have Q3 := (Q2.below hbw4 (by simp <;> omega)).alloc (.cells (h8 s) 24); have R3 := (Vw3.below hbw4 (by simp)).alloc (.cells (h8 s) 24)))
    | (refine ld24 (by rfl) _ (by rfl) w.heap.size 0 (by rfl) L hL (Tw3.part32 h3 (k := 0) rfl) ?_)
    | (refine ld24 (by rfl) _ (by rfl) w.heap.size 32 (by rfl) X hX (Tw3.part32 h3 (k := 1) rfl) ?_)
    | (refine ld24 (by rfl) _ (by rfl) w.heap.size 64 (by rfl) R hR (Tw3.part32 h3 (k := 2) rfl) ?_)
    | (refine ld24 (by rfl) _ (by rfl) w.heap.size 0 (by rfl) L hL (Tw2.part32 h3 (k := 0) rfl) ?_)
    | (refine ld24 (by rfl) _ (by rfl) w.heap.size 32 (by rfl) X hX (Tw2.part32 h3 (k := 1) rfl) ?_)
    | (refine ld24 (by rfl) _ (by rfl) w.heap.size 64 (by rfl) R hR (Tw2.part32 h3 (k := 2) rfl) ?_)
    | (refine ld24 (by rfl) _ (by rfl) w.heap.size 0 (by rfl) L hL (Tw1.part32 h3 (k := 0) rfl) ?_)
    | (refine ld24 (by rfl) _ (by rfl) w.heap.size 32 (by rfl) X hX (Tw1.part32 h3 (k := 1) rfl) ?_)
    | (refine ld24 (by rfl) _ (by rfl) w.heap.size 64 (by rfl) R hR (Tw1.part32 h3 (k := 2) rfl) ?_)
    | (refine ld24 (by rfl) _ (by rfl) w.heap.size 0 (by rfl) L hL (T0.part32 h3 (k := 0) rfl) ?_)
    | (refine ld24 (by rfl) _ (by rfl) w.heap.size 32 (by rfl) X hX (T0.part32 h3 (k := 1) rfl) ?_)
    | (refine ld24 (by rfl) _ (by rfl) w.heap.size 64 (by rfl) R hR (T0.part32 h3 (k := 2) rfl) ?_)
    | (refine st24n (by rfl) _ _ (by rfl) w4 w4.heap.size rfl (by rfl) s (by rfl) (by rfl) hwl ?_)
    | (refine st24n (by rfl) _ _ (by rfl) w3 w3.heap.size rfl (by rfl) s (by rfl) (by rfl) hwl ?_)
    | (refine st24n (by rfl) _ _ (by rfl) w2 w2.heap.size rfl (by rfl) a (by rfl) (by rfl) hfl ?_)
    | (refine st24n (by rfl) _ _ (by rfl) w1 w1.heap.size rfl (by rfl) a (by rfl) (by rfl) hfl ?_))
  have hsV : w4.heap.size < (w4.alloc (.cells (h8 s) 24)).heap.size := by simp
  have hsW : w3.heap.size < w4.heap.size ∧ w2.heap.size < w3.heap.size ∧ w1.heap.size < w2.heap.size ∧ w.heap.size < w1.heap.size := by omega
  obtain ⟨hsa, hsb, hsc, hsd⟩ := hsW
  have E1 := run_eq24 hfl hfl
  have E2 := run_eq24 hwl hwl
  rw [decide_eq_true rfl] at E1 E2
  have hcc : (c == c) = true := by simp
  have hkk : (k == k) = true := by simp
  have hqq : ((c == 0) == (c == 0)) = true := by simp
  generalize w4.alloc (.cells (h8 s) 24) = V at *
  have HV0 := (hS.below bww4.drew).mono (show w.heap.size ≤ V.drew.heap.size by simp; omega)
  refine wp_region_held_drew (S := fun u => Below V.heap.size V u) (by kernel_rfl) ((Below.refl _ _).drew) (fun hHeld => ?_)
  refine wpAnyH_take (i := 0) (oi := ⟨_, _, _, _, _, _⟩) rfl (by kernel_rfl) (by kernel_rfl) (by kernel_rfl) (fun _ _ _ h => h) (y24 (by rfl) (.tmp 7) rfl w1.heap.size 0 rfl a hfl (fun u hu => (P3.below hu (by omega)).range)) (by assumption) ?_
  try simp only [Act.put, List.setIfInBounds_toArray, List.set_cons_zero, List.set_cons_succ]
  refine wpAnyH_take (i := 1) (oi := ⟨_, _, _, _, _, _⟩) rfl (by kernel_rfl) (by kernel_rfl) (by kernel_rfl) (fun _ _ _ h => h) (y24 (by rfl) (.tmp 9) rfl w2.heap.size 0 rfl a hfl (fun u hu => (Q3.below hu (by omega)).range)) (by assumption) ?_
  try simp only [Act.put, List.setIfInBounds_toArray, List.set_cons_zero, List.set_cons_succ]
  refine wpAnyH_take (i := 2) (oi := ⟨_, _, _, _, _, _⟩) (v := ?_) rfl (by kernel_rfl) (by kernel_rfl) (by kernel_rfl) (fun _ _ _ h => h) (Or.inl ⟨by rfl, ?_⟩) (by assumption) ?_
  rotate_left
  · intro u hSw
    go_simp
    try (with_reducible rfl)
  try simp only [Act.put, List.setIfInBounds_toArray, List.set_cons_zero, List.set_cons_succ]
  refine wpAnyH_take (i := 3) (oi := ⟨_, _, _, _, _, _⟩) (v := ?_) rfl (by kernel_rfl) (by kernel_rfl) (by kernel_rfl) (fun _ _ _ h => h) (Or.inl ⟨by rfl, ?_⟩) (by assumption) ?_
  rotate_left
  · intro u hSw
    go_simp
    try (with_reducible rfl)
  try simp only [Act.put, List.setIfInBounds_toArray, List.set_cons_zero, List.set_cons_succ]
  refine wpAnyH_take (i := 4) (oi := ⟨_, _, _, _, _, _⟩) (v := ?_) rfl (by kernel_rfl) (by kernel_rfl) (by kernel_rfl) (fun _ _ _ h => h) (Or.inl ⟨by rfl, ?_⟩) (by assumption) ?_
  rotate_left
  · intro u hSw
    go_simp
    try (with_reducible rfl)
  try simp only [Act.put, List.setIfInBounds_toArray, List.set_cons_zero, List.set_cons_succ]
  refine wpAnyH_take (i := 5) (oi := ⟨_, _, _, _, _, _⟩) (v := ?_) rfl (by kernel_rfl) (by kernel_rfl) (by kernel_rfl) (fun _ _ _ h => h) (Or.inl ⟨by rfl, ?_⟩) (by assumption) ?_
  rotate_left
  · intro u hSw
    go_simp
    try (with_reducible rfl)
  try simp only [Act.put, List.setIfInBounds_toArray, List.set_cons_zero, List.set_cons_succ]
  refine wpAnyH_take (i := 6) (oi := ⟨_, _, _, _, _, _⟩) (v := ?_) rfl (by kernel_rfl) (by kernel_rfl) (by kernel_rfl) (fun _ _ _ h => h) (Or.inl ⟨by rfl, ?_⟩) (by assumption) ?_
  rotate_left
  · intro u hSw
    go_simp
    try (with_reducible rfl)
  try simp only [Act.put, List.setIfInBounds_toArray, List.set_cons_zero, List.set_cons_succ]
  refine wpAnyH_take (i := 7) (oi := ⟨_, _, _, _, _, _⟩) (v := ?_) rfl (by kernel_rfl) (by kernel_rfl) (by kernel_rfl) (fun _ _ _ h => h) (Or.inl ⟨by rfl, ?_⟩) (by assumption) ?_
  rotate_left
  · intro u hSw
    go_simp
    try (with_reducible rfl)
  try simp only [Act.put, List.setIfInBounds_toArray, List.set_cons_zero, List.set_cons_succ]
  refine wpAnyH_take (i := 8) (oi := ⟨_, _, _, _, _, _⟩) (v := ?_) rfl (by kernel_rfl) (by kernel_rfl) (by kernel_rfl) (fun _ _ _ h => h) (Or.inl ⟨by rfl, ?_⟩) (by assumption) ?_
  rotate_left
  · intro u hSw
    go_simp
    try (with_reducible rfl)
  try simp only [Act.put, List.setIfInBounds_toArray, List.set_cons_zero, List.set_cons_succ]
  refine wpAnyH_take (i := 9) (oi := ⟨_, _, _, _, _, _⟩) rfl (by kernel_rfl) (by kernel_rfl) (by kernel_rfl) (fun _ _ _ h => h) (y24 (by rfl) (.tmp 11) rfl w3.heap.size 0 rfl s hwl (fun u hu => (R3.below hu (by omega)).range)) (by assumption) ?_
  try simp only [Act.put, List.setIfInBounds_toArray, List.set_cons_zero, List.set_cons_succ]
  refine wpAnyH_take (i := 10) (oi := ⟨_, _, _, _, _, _⟩) rfl (by kernel_rfl) (by kernel_rfl) (by kernel_rfl) (fun _ _ _ h => h) (y24 (by rfl) (.tmp 13) rfl w4.heap.size 0 rfl s hwl (fun u hu => (Vw4.below hu (by omega)).range)) (by assumption) ?_
  try simp only [Act.put, List.setIfInBounds_toArray, List.set_cons_zero, List.set_cons_succ]
  refine wpAnyH_take (i := 11) (oi := ⟨_, _, _, _, _, _⟩) (v := ?_) rfl (by kernel_rfl) (by kernel_rfl) (by kernel_rfl) (fun _ _ _ h => h) (Or.inl ⟨by rfl, ?_⟩) (by assumption) ?_
  rotate_left
  · intro u hSw
    go_simp
    try (with_reducible rfl)
  try simp only [Act.put, List.setIfInBounds_toArray, List.set_cons_zero, List.set_cons_succ]
  refine wpAnyH_take (i := 12) (oi := ⟨_, _, _, _, _, _⟩) (v := ?_) rfl (by kernel_rfl) (by kernel_rfl) (by kernel_rfl) (fun _ _ _ h => h) (Or.inl ⟨by rfl, ?_⟩) (by assumption) ?_
  rotate_left
  · intro u hSw
    go_simp
    try (with_reducible rfl)
  try simp only [Act.put, List.setIfInBounds_toArray, List.set_cons_zero, List.set_cons_succ]
  refine wpAnyH_take (i := 13) (oi := ⟨_, _, _, _, _, _⟩) (v := ?_) rfl (by kernel_rfl) (by kernel_rfl) (by kernel_rfl) (fun _ _ _ h => h) (Or.inl ⟨by rfl, ?_⟩) (by assumption) ?_
  rotate_left
  · intro u hSw
    go_simp
    try (with_reducible rfl)
  try simp only [Act.put, List.setIfInBounds_toArray, List.set_cons_zero, List.set_cons_succ]
  refine wpAnyH_take (i := 14) (oi := ⟨_, _, _, _, _, _⟩) (v := ?_) rfl (by kernel_rfl) (by kernel_rfl) (by kernel_rfl) (fun _ _ _ h => h) (Or.inl ⟨by rfl, ?_⟩) (by assumption) ?_
  rotate_left
  · intro u hSw
    go_simp
    try (with_reducible rfl)
  try simp only [Act.put, List.setIfInBounds_toArray, List.set_cons_zero, List.set_cons_succ]
  refine wpAnyH_take (i := 15) (oi := ⟨_, _, _, _, _, _⟩) (v := ?_) rfl (by kernel_rfl) (by kernel_rfl) (by kernel_rfl) (fun _ _ _ h => h) (Or.inl ⟨by rfl, ?_⟩) (by assumption) ?_
  rotate_left
  · intro u hSw
    go_simp
    try (with_reducible rfl)
  try simp only [Act.put, List.setIfInBounds_toArray, List.set_cons_zero, List.set_cons_succ]
  refine wpAnyH_take (i := 16) (oi := ⟨_, _, _, _, _, _⟩) (v := ?_) rfl (by kernel_rfl) (by kernel_rfl) (by kernel_rfl) (fun _ _ _ h => h) (Or.inl ⟨by rfl, ?_⟩) (by assumption) ?_
  rotate_left
  · intro u hSw
    go_simp
    try (with_reducible rfl)
  try simp only [Act.put, List.setIfInBounds_toArray, List.set_cons_zero, List.set_cons_succ]
  refine wpAnyH_take (i := 17) (oi := ⟨_, _, _, _, _, _⟩) (v := ?_) rfl (by kernel_rfl) (by kernel_rfl) (by kernel_rfl) (fun _ _ _ h => h) (Or.inl ⟨by rfl, ?_⟩) (by assumption) ?_
  rotate_left
  · intro u hSw
    go_simp
    try (with_reducible rfl)
  try simp only [Act.put, List.setIfInBounds_toArray, List.set_cons_zero, List.set_cons_succ]
  refine wpAnyH_take (i := 18) (oi := ⟨_, _, _, _, _, _⟩) (v := ?_) rfl (by kernel_rfl) (by kernel_rfl) (by kernel_rfl) (fun _ _ _ h => h) (Or.inl ⟨by rfl, ?_⟩) (by assumption) ?_
  rotate_left
  · intro u hSw
    go_simp
    try (with_reducible rfl)
  try simp only [Act.put, List.setIfInBounds_toArray, List.set_cons_zero, List.set_cons_succ]
  refine wpAnyH_take (i := 19) (oi := ⟨_, _, _, _, _, _⟩) (v := ?_) rfl (by kernel_rfl) (by kernel_rfl) (by kernel_rfl) (fun _ _ _ h => h) (Or.inl ⟨by rfl, ?_⟩) (by assumption) ?_
  rotate_left
  · intro u hSw
    go_simp
    try (with_reducible rfl)
  try simp only [Act.put, List.setIfInBounds_toArray, List.set_cons_zero, List.set_cons_succ]
  refine wpAnyH_take (i := 20) (oi := ⟨_, _, _, _, _, _⟩) rfl (by kernel_rfl) (by kernel_rfl) (by kernel_rfl) (fun _ _ _ h => h) (y24 (by rfl) (.tmp 74) rfl w.heap.size 64 rfl R hR (fun u hu => (Tw4.below hu (by omega)).part32 h3 (k := 2) rfl)) (by assumption) ?_
  try simp only [Act.put, List.setIfInBounds_toArray, List.set_cons_zero, List.set_cons_succ]
  refine wpAnyH_take (i := 21) (oi := ⟨_, _, _, _, _, _⟩) (v := ?_) rfl (by kernel_rfl) (by kernel_rfl) (by kernel_rfl) (fun _ _ _ h => h) (Or.inl ⟨by rfl, ?_⟩) (by assumption) ?_
  rotate_left
  · intro u hSw
    go_simp
    try (with_reducible rfl)
  try simp only [Act.put, List.setIfInBounds_toArray, List.set_cons_zero, List.set_cons_succ]
  refine wpAnyH_take (i := 22) (oi := ⟨_, _, _, _, _, _⟩) (v := ?_) rfl (by kernel_rfl) (by kernel_rfl) (by kernel_rfl) (fun _ _ _ h => h) (Or.inl ⟨by rfl, ?_⟩) (by assumption) ?_
  rotate_left
  · intro u hSw
    go_simp
    try (with_reducible rfl)
  try simp only [Act.put, List.setIfInBounds_toArray, List.set_cons_zero, List.set_cons_succ]
  refine wpAnyH_take (i := 23) (oi := ⟨_, _, _, _, _, _⟩) rfl (by kernel_rfl) (by kernel_rfl) (by kernel_rfl) (fun _ _ _ h => h) (y24 (by rfl) (.tmp 77) rfl w.heap.size 0 rfl L hL (fun u hu => (Tw4.below hu (by omega)).part32 h3 (k := 0) rfl)) (by assumption) ?_
  try simp only [Act.put, List.setIfInBounds_toArray, List.set_cons_zero, List.set_cons_succ]
  refine wpAnyH_take (i := 24) (oi := ⟨_, _, _, _, _, _⟩) (v := ?_) rfl (by kernel_rfl) (by kernel_rfl) (by kernel_rfl) (fun _ _ _ h => h) (Or.inl ⟨by rfl, ?_⟩) (by assumption) ?_
  rotate_left
  · intro u hSw
    go_simp
    try (with_reducible rfl)
  try simp only [Act.put, List.setIfInBounds_toArray, List.set_cons_zero, List.set_cons_succ]
  refine wpAnyH_take (i := 26) (oi := ⟨_, _, _, _, _, _⟩) (v := ?_) rfl (by kernel_rfl) (by kernel_rfl) (by kernel_rfl) (fun _ _ _ h => h) (Or.inl ⟨by rfl, ?_⟩) (by assumption) ?_
  rotate_left
  · intro u hSw
    go_simp
    try (with_reducible rfl)
  try simp only [Act.put, List.setIfInBounds_toArray, List.set_cons_zero, List.set_cons_succ]
  refine wpAnyH_take (i := 27) (oi := ⟨_, _, _, _, _, _⟩) rfl (by kernel_rfl) (by kernel_rfl) (by kernel_rfl) (fun _ _ _ h => h) (y24 (by rfl) (.tmp 81) rfl w.heap.size 64 rfl R hR (fun u hu => (Tw4.below hu (by omega)).part32 h3 (k := 2) rfl)) (by assumption) ?_
  try simp only [Act.put, List.setIfInBounds_toArray, List.set_cons_zero, List.set_cons_succ]
  refine wpAnyH_take (i := 28) (oi := ⟨_, _, _, _, _, _⟩) (v := ?_) rfl (by kernel_rfl) (by kernel_rfl) (by kernel_rfl) (fun _ _ _ h => h) (Or.inl ⟨by rfl, ?_⟩) (by assumption) ?_
  rotate_left
  · intro u hSw
    go_simp
    try (with_reducible rfl)
  try simp only [Act.put, List.setIfInBounds_toArray, List.set_cons_zero, List.set_cons_succ]
  refine wpAnyH_take (i := 29) (oi := ⟨_, _, _, _, _, _⟩) (v := ?_) rfl (by kernel_rfl) (by kernel_rfl) (by kernel_rfl) (fun _ _ _ h => h) (Or.inl ⟨by rfl, ?_⟩) (by assumption) ?_
  rotate_left
  · intro u hSw
    go_simp
    try (with_reducible rfl)
  try simp only [Act.put, List.setIfInBounds_toArray, List.set_cons_zero, List.set_cons_succ]
  refine wpAnyH_take (i := 30) (oi := ⟨_, _, _, _, _, _⟩) rfl (by kernel_rfl) (by kernel_rfl) (by kernel_rfl) (fun _ _ _ h => h) (y24 (by rfl) (.tmp 84) rfl w.heap.size 0 rfl L hL (fun u hu => (Tw4.below hu (by omega)).part32 h3 (k := 0) rfl)) (by assumption) ?_
  try simp only [Act.put, List.setIfInBounds_toArray, List.set_cons_zero, List.set_cons_succ]
  refine wpAnyH_take (i := 31) (oi := ⟨_, _, _, _, _, _⟩) (v := ?_) rfl (by kernel_rfl) (by kernel_rfl) (by kernel_rfl) (fun _ _ _ h => h) (Or.inl ⟨by rfl, ?_⟩) (by assumption) ?_
  rotate_left
  · intro u hSw
    go_simp
    try (with_reducible rfl)
  try simp only [Act.put, List.setIfInBounds_toArray, List.set_cons_zero, List.set_cons_succ]
  refine wpAnyH_ready (rs := [25]) (by kernel_rfl) (by simp) ?_
  refine AllReadyH.cons (o := ⟨_, _, _, _, _, _⟩) rfl (fun K hK => ?_) AllReadyH.nil
  go_simp
  refine (hC.out _ HV0).mono ?_; rintro e u1 ⟨rfl, hu1⟩; have hsu1 := hu1.size; simp at hsu1; have hH1 : Below V.heap.size V u1 := ((Below.refl V.heap.size V).drew).trans (hu1.mono (by simp)); have HV1 := (hS.below (bww4.trans (hH1.mono (by omega)))).mono (show w.heap.size ≤ u1.heap.size by omega)
  go_wp2_with fail
  refine hK.out _ _ hH1 (fun hHeld => ?_)
  clear hK K
  try simp only [Act.put, List.setIfInBounds_toArray, List.set_cons_zero, List.set_cons_succ]
  refine wpAnyH_ready (rs := [32]) (by kernel_rfl) (by simp) ?_
  refine AllReadyH.cons (o := ⟨_, _, _, _, _, _⟩) rfl (fun K hK => ?_) AllReadyH.nil
  go_simp
  refine (hC'.out _ HV1).mono ?_; rintro e u2 ⟨rfl, hu2⟩; have hsu2 := hu2.size; have hH2 : Below V.heap.size V u2 := hH1.trans (hu2.mono (by omega)); have HV2 := (hS.below (bww4.trans (hH2.mono (by omega)))).mono (show w.heap.size ≤ u2.heap.size by omega)
  go_wp2_with fail
  refine hK.out _ _ hH2 (fun hHeld => ?_)
  clear hK K
  try simp only [Act.put, List.setIfInBounds_toArray, List.set_cons_zero, List.set_cons_succ]
  refine wpAnyH_take (i := 33) (oi := ⟨_, _, _, _, _, _⟩) (v := ?_) rfl (by kernel_rfl) (by kernel_rfl) (by kernel_rfl) (fun _ _ _ h => h) (Or.inl ⟨by rfl, ?_⟩) (by assumption) ?_
  rotate_left
  · intro u hSw
    go_simp
    try (with_reducible rfl)
  try simp only [Act.put, List.setIfInBounds_toArray, List.set_cons_zero, List.set_cons_succ]
  refine wpAnyH_take (i := 34) (oi := ⟨_, _, _, _, _, _⟩) (v := ?_) rfl (by kernel_rfl) (by kernel_rfl) (by kernel_rfl) (fun _ _ _ h => h) (Or.inl ⟨by rfl, ?_⟩) (by assumption) ?_
  rotate_left
  · intro u hSw
    go_simp
    try (with_reducible rfl)
  try simp only [Act.put, List.setIfInBounds_toArray, List.set_cons_zero, List.set_cons_succ]
  refine wpAnyH_take (i := 35) (oi := ⟨_, _, _, _, _, _⟩) (v := ?_) rfl (by kernel_rfl) (by kernel_rfl) (by kernel_rfl) (fun _ _ _ h => h) (Or.inl ⟨by rfl, ?_⟩) (by assumption) ?_
  rotate_left
  · intro u hSw
    go_simp
    try (with_reducible rfl)
  try simp only [Act.put, List.setIfInBounds_toArray, List.set_cons_zero, List.set_cons_succ]
  refine wpAnyH_take (i := 36) (oi := ⟨_, _, _, _, _, _⟩) rfl (by kernel_rfl) (by kernel_rfl) (by kernel_rfl) (fun _ _ _ h => h) (y24 (by rfl) (.tmp 7) rfl w1.heap.size 0 rfl a hfl (fun u hu => (P3.below hu (by omega)).range)) (by assumption) ?_
  try simp only [Act.put, List.setIfInBounds_toArray, List.set_cons_zero, List.set_cons_succ]
  refine wpAnyH_take (i := 37) (oi := ⟨_, _, _, _, _, _⟩) (v := ?_) rfl (by kernel_rfl) (by kernel_rfl) (by kernel_rfl) (fun _ _ _ h => h) (Or.inl ⟨by rfl, ?_⟩) (by assumption) ?_
  rotate_left
  · intro u hSw
    go_simp
    try (with_reducible rfl)
  try simp only [Act.put, List.setIfInBounds_toArray, List.set_cons_zero, List.set_cons_succ]
  refine wpAnyH_take (i := 38) (oi := ⟨_, _, _, _, _, _⟩) (v := ?_) rfl (by kernel_rfl) (by kernel_rfl) (by kernel_rfl) (fun _ _ _ h => h) (Or.inl ⟨by rfl, ?_⟩) (by assumption) ?_
  rotate_left
  · intro u hSw
    go_simp
    try (with_reducible rfl)
  try simp only [Act.put, List.setIfInBounds_toArray, List.set_cons_zero, List.set_cons_succ]
  refine wpAnyH_take (i := 39) (oi := ⟨_, _, _, _, _, _⟩) rfl (by kernel_rfl) (by kernel_rfl) (by kernel_rfl) (fun _ _ _ h => h) (y24 (by rfl) (.tmp 93) rfl w.heap.size 0 rfl L hL (fun u hu => (Tw4.below hu (by omega)).part32 h3 (k := 0) rfl)) (by assumption) ?_
  try simp only [Act.put, List.setIfInBounds_toArray, List.set_cons_zero, List.set_cons_succ]
  refine wpAnyH_take (i := 40) (oi := ⟨_, _, _, _, _, _⟩) (v := ?_) rfl (by kernel_rfl) (by kernel_rfl) (by kernel_rfl) (fun _ _ _ h => h) (Or.inl ⟨by rfl, ?_⟩) (by assumption) ?_
  rotate_left
  · intro u hSw
    go_simp
    try (with_reducible rfl)
  try simp only [Act.put, List.setIfInBounds_toArray, List.set_cons_zero, List.set_cons_succ]
  refine wpAnyH_take (i := 42) (oi := ⟨_, _, _, _, _, _⟩) (v := ?_) rfl (by kernel_rfl) (by kernel_rfl) (by kernel_rfl) (fun _ _ _ h => h) (Or.inl ⟨by rfl, ?_⟩) (by assumption) ?_
  rotate_left
  · intro u hSw
    go_simp
    try (with_reducible rfl)
  try simp only [Act.put, List.setIfInBounds_toArray, List.set_cons_zero, List.set_cons_succ]
  refine wpAnyH_take (i := 43) (oi := ⟨_, _, _, _, _, _⟩) (v := ?_) rfl (by kernel_rfl) (by kernel_rfl) (by kernel_rfl) (fun _ _ _ h => h) (Or.inl ⟨by rfl, ?_⟩) (by assumption) ?_
  rotate_left
  · intro u hSw
    go_simp
    try (with_reducible rfl)
  try simp only [Act.put, List.setIfInBounds_toArray, List.set_cons_zero, List.set_cons_succ]
  refine wpAnyH_ready (rs := [41]) (by kernel_rfl) (by simp) ?_
  refine AllReadyH.cons (o := ⟨_, _, _, _, _, _⟩) rfl (fun K hK => ?_) AllReadyH.nil
  go_simp
  refine (hCa.out _ HV2).mono ?_; rintro e u3 ⟨rfl, hu3⟩; have hsu3 := hu3.size; have hH3 : Below V.heap.size V u3 := hH2.trans (hu3.mono (by omega))
  go_wp2_with fail
  refine hK.out _ _ hH3 (fun hHeld => ?_)
  clear hK K
  try simp only [Act.put, List.setIfInBounds_toArray, List.set_cons_zero, List.set_cons_succ]
  refine wpAnyH_take (i := 44) (oi := ⟨_, _, _, _, _, _⟩) (v := ?_) rfl (by kernel_rfl) (by kernel_rfl) (by kernel_rfl) (fun _ _ _ h => h) (Or.inl ⟨by rfl, ?_⟩) (by assumption) ?_
  rotate_left
  · intro u hSw
    go_simp
    try (with_reducible rfl)
  try simp only [Act.put, List.setIfInBounds_toArray, List.set_cons_zero, List.set_cons_succ]
  refine wpAnyH_take (i := 45) (oi := ⟨_, _, _, _, _, _⟩) (v := ?_) rfl (by kernel_rfl) (by kernel_rfl) (by kernel_rfl) (fun _ _ _ h => h) (Or.inl ⟨by rfl, ?_⟩) (by assumption) ?_
  rotate_left
  · intro u hSw
    go_simp
    try (with_reducible rfl)
  try simp only [Act.put, List.setIfInBounds_toArray, List.set_cons_zero, List.set_cons_succ]
  refine wpAnyH_take (i := 46) (oi := ⟨_, _, _, _, _, _⟩) (v := ?_) rfl (by kernel_rfl) (by kernel_rfl) (by kernel_rfl) (fun _ _ _ h => h) (Or.inl ⟨by rfl, ?_⟩) (by assumption) ?_
  rotate_left
  · intro u hSw
    go_simp
    try (with_reducible rfl)
  try simp only [Act.put, List.setIfInBounds_toArray, List.set_cons_zero, List.set_cons_succ]
  refine wpAnyH_ready (rs := [47]) (by kernel_rfl) (by simp) ?_
  refine AllReadyH.cons (o := ⟨_, _, _, _, _, _⟩) rfl (fun K hK => ?_) AllReadyH.nil
  go_simp
  refine (anchored_any _).mono ?_; rintro e u4 ⟨rfl, hu4⟩; have hH4 : Below V.heap.size V u4 := hH3.trans (hu4.mono (by omega))
  go_wp2_with fail
  refine hK.out _ _ hH4 (fun hHeld => ?_)
  clear hK K
  try simp only [Act.put, List.setIfInBounds_toArray, List.set_cons_zero, List.set_cons_succ]
  refine wpAnyH_take (i := 48) (oi := ⟨_, _, _, _, _, _⟩) (v := ?_) rfl (by kernel_rfl) (by kernel_rfl) (by kernel_rfl) (fun _ _ _ h => h) (Or.inl ⟨by rfl, ?_⟩) (by assumption) ?_
  rotate_left
  · intro u hSw
    go_simp
    try (with_reducible rfl)
  try simp only [Act.put, List.setIfInBounds_toArray, List.set_cons_zero, List.set_cons_succ]
  refine wpAnyH_take (i := 49) (oi := ⟨_, _, _, _, _, _⟩) (v := ?_) rfl (by kernel_rfl) (by kernel_rfl) (by kernel_rfl) (fun _ _ _ h => h) (Or.inl ⟨by rfl, ?_⟩) (by assumption) ?_
  rotate_left
  · intro u hSw
    go_simp
    try (with_reducible rfl)
  try simp only [Act.put, List.setIfInBounds_toArray, List.set_cons_zero, List.set_cons_succ]
  refine wpAnyH_done (by kernel_rfl) ?_ _
  go_wp2
  go_ret
  exact ⟨rfl, bww4.trans (hH4.mono (by omega))⟩
end Go.Proofs.Ythpinikdkfiagaa
