/- Layer merkle: errors of Proof; Empty. -/
import Derived.Test.YthpinikdkfiagaaMy
namespace Go.Proofs.Ythpinikdkfiagaa
open Go.RowKit Go.Shelf
set_option linter.unusedVariables false
set_option linter.unusedSimpArgs false
attribute [local go_sem] Oper.semAt_some

set_option maxRecDepth 100000 in
set_option maxHeartbeats 1000000 in
theorem proof_limit (d i : Nat) (sp : Option Addr) (n cap : Nat) (w : World) (hd : d ≤ 16) (hi : i < 2 ^ d) (hn : 2 ^ d < n) (hsm : n ≤ 140737488355328) :
    Calls Try.prog 10 #[.int .i64 d, .slice sp n cap, .int .i64 i] w fun e w' => e = .returned (.tuple #[.slice none 0 0, .int .i64 4]) ∧ Below w.heap.size w w' := by
  have hmd : ∀ w, Calls Try.prog 21 #[.int .i64 d] w fun e w' => e = .returned (.bool true) ∧ w' = w := fun w => by have h := mayDepth_any d w; rwa [decide_eq_true (by omega)] at h
  have hmp : ∀ w, Calls Try.prog 28 #[.int .i64 d, .int .i64 i] w fun e w' => e = .returned (.bool true) ∧ w' = w := fun w => by have h := mayPlace_any d hd i w; rwa [decide_eq_true (by omega)] at h
  have hwd := width_any d hd
  obtain ⟨p, hp⟩ : ∃ p : Nat, p = 2 ^ d := ⟨_, rfl⟩
  rw [← hp] at hwd hn
  have hnI : (p : Int) < n := by omega
  clear hp hi
  have hb0 := (alloc_bel' w (.cells #[.slice sp n cap] 22)).alloc (by simp) (.cells #[.int .i64 i] 3)
  have A0 := (Arr.new w 22 #[.slice sp n cap]).alloc (.cells #[.int .i64 i] 3)
  have A1 := Arr.new (w.alloc (.cells #[.slice sp n cap] 22)) 3 #[.int .i64 i]
  rw [World.size_alloc] at A1
  have c1 := A1.cell 0
  simp at c1
  go_enter Try.func10, Try.ntmps10
  go_upto_region 3 with (first
    | (go_at_call 21; go_must (refine (hmd _).mono ?_; rintro e w1 ⟨rfl, rfl⟩))
    | (go_at_call 28; go_must (refine (hmp _).mono ?_; rintro e w1 ⟨rfl, rfl⟩)))
  refine wp_region_held_drew (S := fun u => Arr u w.heap.size 22 #[.slice sp n cap]) (by kernel_rfl) A0.drew (fun hHeld => ?_)
  refine wpAnyH_take (i := 0) (oi := ⟨_, _, _, _, _, _⟩) (v := ?_) rfl (by kernel_rfl) (by kernel_rfl) (by kernel_rfl) (fun _ _ _ h => h) (Or.inl ⟨by rfl, ?_⟩) (by assumption) ?_
  rotate_left
  · intro u hSw
    have cu := hSw.cell 0
    simp at cu
    go_simp
    try (with_reducible rfl)
  try simp only [Act.put, List.setIfInBounds_toArray, List.set_cons_zero, List.set_cons_succ]
  refine wpAnyH_take (i := 1) (oi := ⟨_, _, _, _, _, _⟩) (v := ?_) rfl (by kernel_rfl) (by kernel_rfl) (by kernel_rfl) (fun _ _ _ h => h) (Or.inl ⟨by rfl, ?_⟩) (by assumption) ?_
  rotate_left
  · intro u hSw
    go_simp
    try (with_reducible rfl)
  try simp only [Act.put, List.setIfInBounds_toArray, List.set_cons_zero, List.set_cons_succ]
  refine wpAnyH_take (i := 2) (oi := ⟨_, _, _, _, _, _⟩) (v := ?_) rfl (by kernel_rfl) (by kernel_rfl) (by kernel_rfl) (fun _ _ _ h => h) (Or.inl ⟨by rfl, ?_⟩) (by assumption) ?_
  rotate_left
  · intro u hSw
    go_simp
    try (with_reducible rfl)
  try simp only [Act.put, List.setIfInBounds_toArray, List.set_cons_zero, List.set_cons_succ]
  refine wpAnyH_ready (rs := [3]) (by kernel_rfl) (by simp) ?_
  refine AllReadyH.cons (o := ⟨_, _, _, _, _, _⟩) rfl (fun K hK => ?_) AllReadyH.nil
  go_simp
  refine (hwd _).mono ?_; rintro e u1 ⟨rfl, rfl⟩
  go_wp2_with fail
  refine hK.out _ _ A0.drew (fun hHeld => ?_)
  clear hK K
  try simp only [Act.put, List.setIfInBounds_toArray, List.set_cons_zero, List.set_cons_succ]
  refine wpAnyH_take (i := 4) (oi := ⟨_, _, _, _, _, _⟩) (v := ?_) rfl (by kernel_rfl) (by kernel_rfl) (by kernel_rfl) (fun _ _ _ h => h) (Or.inl ⟨by rfl, ?_⟩) (by assumption) ?_
  rotate_left
  · intro u hSw
    go_simp
    try (with_reducible rfl)
  try simp only [Act.put, List.setIfInBounds_toArray, List.set_cons_zero, List.set_cons_succ]
  refine wpAnyH_done (by kernel_rfl) ?_ _
  go_wp2
  go_ret2
  exact ⟨rfl, hb0.drew⟩
set_option maxRecDepth 100000 in
set_option maxHeartbeats 1000000 in
theorem refProof_bad (d i : Int) (N : Nat) (sp : Option Addr) (n cap : Nat) (ls : List (List Int)) (w : World) (hS : HS N w sp n cap ls) (h : pE d i n ≠ 0) :
    Calls Try.prog 11 #[.int .i64 d, .slice sp n cap, .int .i64 i] w fun e w' => e = .returned (.tuple #[.slice none 0 0, .int .i64 (pE d i n)]) ∧ Below w.heap.size w w' := by
  have hsm := hS.small
  clear hS
  unfold pE at h ⊢
  by_cases h1 : 0 ≤ d
  · by_cases h2 : d ≤ 16
    · obtain ⟨m, rfl⟩ : ∃ m : Nat, d = m := ⟨d.toNat, by omega⟩
      have hm : m ≤ 16 := by omega
      have hwp := wrap_pow hm
      have hbad := refBad_any m n
      unfold rE at hbad
      rw [if_pos ⟨h1, h2⟩] at hbad
      rw [Int.toNat_natCast] at h hbad ⊢
      obtain ⟨p, hp⟩ : ∃ p : Nat, p = 2 ^ m := ⟨_, rfl⟩
      rw [← hp] at hwp h hbad ⊢
      replace hp := Hid.mk' hp
      by_cases h3 : 0 ≤ i
      · by_cases h4 : i < p
        · rw [if_pos ⟨⟨h1, h2⟩, h3, h4⟩] at h ⊢
          by_cases h5 : n ≤ p
          · rw [if_pos h5] at h; exact absurd rfl h
          · rw [if_neg h5] at hbad ⊢
            clear h
            have h6 : ¬ (p : Int) ≤ i := by omega
            go_enter Try.func11, Try.ntmps11
            go_wp2_with (first
              | (go_at_call 25; go_must (refine (hbad _).mono ?_; rintro e w1 ⟨rfl, rfl⟩)))
            go_ret2
            exact ⟨rfl, Below.refl _ _⟩
        · rw [if_neg (fun hh => h4 hh.2.2)]
          clear h hbad
          have h6 : (p : Int) ≤ i := by omega
          go_enter Try.func11, Try.ntmps11
          go_wp2
          go_ret2
          exact ⟨rfl, Below.refl _ _⟩
      · rw [if_neg (fun hh => h3 hh.2.1)]
        clear h hbad
        go_enter Try.func11, Try.ntmps11
        go_wp2
        go_ret2
        exact ⟨rfl, Below.refl _ _⟩
    · rw [if_neg (fun hh => h2 hh.1.2)]
      clear h
      go_enter Try.func11, Try.ntmps11
      go_wp2
      go_ret2
      exact ⟨rfl, Below.refl _ _⟩
  · rw [if_neg (fun hh => h1 hh.1.1)]
    clear h
    go_enter Try.func11, Try.ntmps11
    go_wp2
    go_ret2
    exact ⟨rfl, Below.refl _ _⟩
theorem pE_cases {d i : Int} {n : Nat} (h : pE d i n = 0) : ∃ a b : Nat, d = a ∧ i = b ∧ a ≤ 16 ∧ b < 2 ^ a ∧ n ≤ 2 ^ a := by
  unfold pE at h
  by_cases h1 : (0 ≤ d ∧ d ≤ 16) ∧ 0 ≤ i ∧ i < (2 ^ d.toNat : Nat)
  · rw [if_pos h1] at h
    by_cases h2 : n ≤ 2 ^ d.toNat
    · exact ⟨d.toNat, i.toNat, by omega, by omega, by omega, by omega, h2⟩
    · rw [if_neg h2] at h; cases h
  · rw [if_neg h1] at h; cases h
/-- What both Proofs answer: the proof where there is one. -/
def pF (d i : Int) (ls : List (List Int)) : List (List Int) := if pE d i ls.length = 0 then pf d.toNat ls i.toNat else []
theorem pF_l32 {d i : Int} {ls : List (List Int)} (hl : ∀ x ∈ ls, x.length = 32) : ∀ x ∈ pF d i ls, x.length = 32 := by
  intro x hx
  unfold pF at hx
  split at hx
  · unfold pf at hx
    obtain ⟨k, -, rfl⟩ := List.mem_map.1 hx
    exact tr_len _ _ (fun y hy => hl y (List.mem_of_mem_drop hy))
  · cases hx
/-- An answer of Proof. -/
def PPost (d i : Int) (ls : List (List Int)) (w : World) (e : Ending) (w' : World) : Prop :=
  ∃ sp cap, e = .returned (.tuple #[.slice sp (pF d i ls).length cap, .int .i64 (pE d i ls.length)]) ∧ HS w'.heap.size w' sp (pF d i ls).length cap (pF d i ls) ∧ w'.ownsRow w.heap.size 24 32 (.slice sp (pF d i ls).length cap) (pF d i ls).length (flat32 (pF d i ls)) ∧ Below w.heap.size w w'
theorem proof_any (d i : Int) (N : Nat) (sp : Option Addr) (n cap : Nat) (ls : List (List Int)) (w : World) (hS : HS N w sp n cap ls) : Calls Try.prog 10 #[.int .i64 d, .slice sp n cap, .int .i64 i] w (PPost d i ls w) := by
  have hln := hS.len.out
  by_cases h : pE d i ls.length = 0
  · obtain ⟨a, b, rfl, rfl, h1, h2, h3⟩ := pE_cases h
    have e : pF a b ls = pf a ls b := by unfold pF; rw [if_pos h]; simp
    have hl := pF_l32 (d := a) (i := b) hS.l32
    rw [e] at hl
    refine (proof_ok a b N sp n cap ls w h1 h2 (by omega) hS).mono ?_
    rintro e' w' ⟨v, rfl, hown, hb⟩
    obtain ⟨sq, cq, rfl, hH, -⟩ := own_hs hown hl (by rw [pf_len]) (by omega)
    unfold PPost
    rw [e, h, pf_len]
    exact ⟨sq, cq, rfl, hH, hown, hb⟩
  · have e : pF d i ls = [] := by unfold pF; rw [if_neg h]
    have hE : Calls Try.prog 10 #[.int .i64 d, .slice sp n cap, .int .i64 i] w fun e w' => e = .returned (.tuple #[.slice none 0 0, .int .i64 (pE d i n)]) ∧ Below w.heap.size w w' := by
      by_cases h1 : (0 ≤ d ∧ d ≤ 16) ∧ 0 ≤ i ∧ i < (2 ^ d.toNat : Nat)
      · have h2 : ¬ n ≤ 2 ^ d.toNat := fun hh => h (by unfold pE; rw [if_pos h1, if_pos (by omega)])
        have e2 : pE d i n = 4 := by unfold pE; rw [if_pos h1, if_neg h2]
        rw [e2]
        have h3 := proof_limit d.toNat i.toNat sp n cap w (by omega) (by omega) (by omega) hS.small
        rwa [Int.toNat_of_nonneg h1.1.1, Int.toNat_of_nonneg h1.2.1] at h3
      · have e2 : pE d i n = 2 := by unfold pE; rw [if_neg h1]
        rw [e2]
        exact proof_arg d i sp n cap w h1
    refine hE.mono ?_
    rintro e' w' ⟨rfl, hb⟩
    unfold PPost
    rw [e, ← hln]
    exact ⟨none, 0, rfl, HS.nil0 _ _, World.ownsRow_nil _ _ _ _, hb⟩
theorem refProof_any (d i : Int) (N : Nat) (sp : Option Addr) (n cap : Nat) (ls : List (List Int)) (w : World) (hS : HS N w sp n cap ls) : Calls Try.prog 11 #[.int .i64 d, .slice sp n cap, .int .i64 i] w (PPost d i ls w) := by
  have hln := hS.len.out
  by_cases h : pE d i ls.length = 0
  · obtain ⟨a, b, rfl, rfl, h1, h2, h3⟩ := pE_cases h
    have e : pF a b ls = pf a ls b := by unfold pF; rw [if_pos h]; simp
    have hl := pF_l32 (d := a) (i := b) hS.l32
    rw [e] at hl
    refine (refProof_ok a b N sp n cap ls w h1 h2 (by omega) hS).mono ?_
    rintro e' w' ⟨v, rfl, hown, hb⟩
    obtain ⟨sq, cq, rfl, hH, -⟩ := own_hs hown hl (by rw [pf_len]) (by omega)
    unfold PPost
    rw [e, h, pf_len]
    exact ⟨sq, cq, rfl, hH, hown, hb⟩
  · have e : pF d i ls = [] := by unfold pF; rw [if_neg h]
    refine (refProof_bad d i N sp n cap ls w hS (by rw [hln]; exact h)).mono ?_
    rintro e' w' ⟨rfl, hb⟩
    unfold PPost
    rw [e, ← hln]
    exact ⟨none, 0, rfl, HS.nil0 _ _, World.ownsRow_nil _ _ _ _, hb⟩
end Go.Proofs.Ythpinikdkfiagaa
