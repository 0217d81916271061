/- Layer merkle, the document's answer: Fold. -/
import Derived.Test.YtlebojbfcolkhaaMd
import Derived.Test.YtlebojbfcolkhaaA07
namespace Go.Proofs.Ytlebojbfcolkhaa
open Go.RowKit
set_option maxRecDepth 100000
set_option linter.unusedVariables false
set_option linter.unusedSimpArgs false

theorem refPair_h (X Y : List Int) (w : World) (hX : X.length = 32) (hY : Y.length = 32) :
    Calls Try.prog 38 #[.agg (h8 X), .agg (h8 Y)] w fun e w' => e = .returned (.agg (h8 (pr X Y))) ∧ Below w.heap.size w w' := by
  have h := refPair_any X Y w hX hY
  rw [sha_h8] at h
  exact h
set_option maxRecDepth 100000 in
set_option maxHeartbeats 1000000 in
theorem refFold_ok (m : Nat) (X : List Int) (N : Nat) (sp : Option Addr) (n cap : Nat) (ls : List (List Int)) (w : World) (hX : X.length = 32) (hS : HS N w sp n cap ls) (h1 : n ≤ 16) (h2 : m < 2 ^ n) :
    Calls Try.prog 37 #[.int .i64 m, .agg (h8 X), .slice sp n cap] w fun e w' => e = .returned (.tuple #[.agg (h8 (fo m X ls)), .int .i64 0]) ∧ Below w.heap.size w w' := by
  have A0 := (Arr.new w 24 (h8 X)).alloc (.cells (h8 Z32) 24)
  have A1 := Arr.new (w.alloc (.cells (h8 X) 24)) 24 (h8 Z32)
  rw [World.size_alloc] at A1
  have hm : m ≤ 9223372036854775807 := by have := pow16 h1; omega
  have hl := hS.len
  have hsm := hS.small
  have hS := hS.here
  have hb2 : Below w.heap.size w ((w.alloc (.cells (h8 X) 24)).alloc (.cells (h8 Z32) 24)) := (alloc_bel' w _).alloc (by simp) _
  have hw16 := wrap_pow h1
  obtain ⟨p, hp⟩ : ∃ p : Int, p = (2 ^ n : Nat) := ⟨_, rfl⟩
  rw [← hp] at hw16
  have hmp : ¬ p ≤ (m : Int) := by rw [hp]; omega
  clear hp
  replace h2 := Hid.mk' h2
  have h16 : ¬ (16 : Int) < n := by omega
  go_enter Try.func37, Try.ntmps37
  go_wp2_with fail
  go_loopw [0, 8] (fun q d wr => ∃ (j : Nat) (r : List Int), q = .int .i64 ((m / 2 ^ j : Nat) : Int) ∧ d = .int .i64 (j : Int) ∧ j ≤ n ∧ Below w.heap.size w wr ∧ w.heap.size + 2 ≤ wr.heap.size ∧ Arr wr w.heap.size 24 (h8 r) ∧ Arr wr (w.heap.size + 1) 24 (h8 Z32) ∧ Hid (r.length = 32) ∧ Hid (fo (m / 2 ^ j) r (ls.drop j) = fo m X ls))
    (fun _ d _ => n - (intOf d).toNat)
  case atStart => exact ⟨0, X, by simp, rfl, by omega, hb2, by simp, A0, A1, Hid.mk' hX, Hid.mk' (by simp)⟩
  case round =>
    obtain ⟨j, r, rfl, rfl, hj, hbl, hsz, R0, R1, hr, hfo⟩ := hrel
    clear A0 A1 hb2
    by_cases hlt : j < n
    · have hI : (j : Int) < n := by omega
      have hSr := hS.below hbl
      obtain ⟨g, off, rfl, hgN, hR⟩ := hSr.at0 (by omega)
      obtain ⟨Y, hY⟩ : ∃ Y, ls[j]? = some Y := ⟨ls[j]'(by rw [← hl.out]; exact hlt), List.getElem?_eq_getElem _⟩
      have hY32 := hS.l32 Y (List.mem_of_getElem? hY)
      have hRY := hR j Y hY
      have hst := Hid.mk' (fo_step (m := m) (r := r) hY)
      have hdiv := Hid.mk' (div_succ m j)
      have hq : m / 2 ^ j ≤ 9223372036854775807 := Nat.le_trans (Nat.div_le_self _ _) hm
      replace hY := Hid.mk' hY
      obtain ⟨q, hqe⟩ : ∃ q, q = m / 2 ^ j := ⟨_, rfl⟩
      rw [← hqe] at hst hdiv hq hfo ⊢
      replace hqe := Hid.mk' hqe
      by_cases hd : q % 2 = 0
      · rw [if_pos hd] at hst
        have hd1 : ((q : Int) % 2 == 0) = true := by rw [beq_iff_eq]; omega
        clear hd
        go_wp2_with fail
        refine wp_region_held_drew (S := fun _ => True) (by kernel_rfl) trivial (fun hHeld => ?_)
        refine wpAnyH_take (i := 1) (oi := ⟨_, _, _, _, _, _⟩) (v := ?_) rfl (by kernel_rfl) (by kernel_rfl) (by kernel_rfl) (fun _ _ _ h => h) (Or.inl ⟨by rfl, ?_⟩) (by assumption) ?_
        rotate_left
        · intro u hSw
          go_simp
          try (with_reducible rfl)
        try simp only [Act.put, List.setIfInBounds_toArray, List.set_cons_zero, List.set_cons_succ]
        refine wpAnyH_take (i := 2) (oi := ⟨_, _, _, _, _, _⟩) (v := ?_) rfl (by kernel_rfl) (by kernel_rfl) (by kernel_rfl) (fun _ _ _ h => h) (Or.inl ⟨by rfl, ?_⟩) (by assumption) ?_
        rotate_left
        · intro u hSw
          go_simp
          try (with_reducible rfl)
        try simp only [Act.put, List.setIfInBounds_toArray, List.set_cons_zero, List.set_cons_succ]
        refine wpAnyH_take (i := 3) (oi := ⟨_, _, _, _, _, _⟩) (v := ?_) rfl (by kernel_rfl) (by kernel_rfl) (by kernel_rfl) (fun _ _ _ h => h) (Or.inl ⟨by rfl, ?_⟩) (by assumption) ?_
        rotate_left
        · intro u hSw
          go_simp
          try (with_reducible rfl)
        try simp only [Act.put, List.setIfInBounds_toArray, List.set_cons_zero, List.set_cons_succ]
        refine wpAnyH_ready (rs := [0, 4]) (by kernel_rfl) (by simp) ?_
        refine AllReadyH.cons (o := ⟨_, _, _, _, _, _⟩) rfl (fun K hK => ?_) (AllReadyH.cons (o := ⟨_, _, _, _, _, _⟩) rfl (fun K hK => ?_) AllReadyH.nil)
        · refine step_want rfl (wp_load_mid 24 (.tmp 4) rfl w.heap.size 0 rfl (by8 r) _ R0.drew.range Try.underlying24 rfl (by rw [by8_len, hr.out]; exact size24) ?_)
          refine hK.out _ _ trivial (fun hHeld => ?_)
          clear hK K
          try simp only [Act.put, List.setIfInBounds_toArray, List.set_cons_zero, List.set_cons_succ]
          refine wpAnyH_ready (rs := [4]) (by kernel_rfl) (by simp) ?_
          refine AllReadyH.cons (o := ⟨_, _, _, _, _, _⟩) rfl (fun K hK => ?_) AllReadyH.nil
          refine step_want rfl (wp_load_mid 24 (.tmp 37) rfl g (off + j * 32) rfl (by8 Y) _ ((World.rangeAt_drew _ _ _ _).2 hRY) Try.underlying24 rfl (by rw [by8_len, hY32]; exact size24) ?_)
          refine hK.out _ _ trivial (fun hHeld => ?_)
          clear hK K
          try simp only [Act.put, List.setIfInBounds_toArray, List.set_cons_zero, List.set_cons_succ]
          refine wpAnyH_ready (rs := [5]) (by kernel_rfl) (by simp) ?_
          refine AllReadyH.cons (o := ⟨_, _, _, _, _, _⟩) rfl (fun K hK => ?_) AllReadyH.nil
          go_simp
          refine (refPair_h r Y _ hr.out hY32).mono ?_; rintro e w3 ⟨rfl, hb3⟩; have hs3 := hb3.size; simp at hs3; have S0 := R0.drew.below hb3 (by simp <;> omega); have S1 := R1.drew.below hb3 (by simp <;> omega)
          go_wp2_with fail
          refine hK.out _ _ trivial (fun hHeld => ?_)
          clear hK K
          try simp only [Act.put, List.setIfInBounds_toArray, List.set_cons_zero, List.set_cons_succ]
          refine wpAnyH_ready (rs := [6]) (by kernel_rfl) (by simp) ?_
          refine AllReadyH.cons (o := ⟨_, _, _, _, _, _⟩) rfl (fun K hK => ?_) AllReadyH.nil
          refine step_want rfl (wp_store_row 24 (.tmp 4) (.tmp 39) rfl w.heap.size (h8 (pr r Y)) rfl rfl 24 _ S0 (s24h8 (pr_len _ _)) (by rw [h8_size, h8_size, hr.out, pr_len]) (h8_one _) ?_)
          refine hK.out _ _ trivial (fun hHeld => ?_)
          clear hK K
          try simp only [Act.put, List.setIfInBounds_toArray, List.set_cons_zero, List.set_cons_succ]
          refine wpAnyH_done (by kernel_rfl) ?_ _
          go_wp2_with fail
          go_roundw
          case rel => exact ⟨j + 1, pr r Y, by rw [hdiv.out, Int.natCast_ediv] <;> rfl, by go_num, by omega, below_setRow (hbl.drew.trans (hb3.mono (by simp <;> omega))) (Nat.le_refl _) _, by simp <;> omega, S0.setRow _, S1.setRowOther _ (by omega), Hid.mk' (pr_len _ _), Hid.mk' (by rw [← hst.out]; exact hfo.out)⟩
          case measure => simp [intOf]; omega
        · refine step_want rfl (wp_load_mid 24 (.tmp 37) rfl g (off + j * 32) rfl (by8 Y) _ ((World.rangeAt_drew _ _ _ _).2 hRY) Try.underlying24 rfl (by rw [by8_len, hY32]; exact size24) ?_)
          refine hK.out _ _ trivial (fun hHeld => ?_)
          clear hK K
          try simp only [Act.put, List.setIfInBounds_toArray, List.set_cons_zero, List.set_cons_succ]
          refine wpAnyH_ready (rs := [0]) (by kernel_rfl) (by simp) ?_
          refine AllReadyH.cons (o := ⟨_, _, _, _, _, _⟩) rfl (fun K hK => ?_) AllReadyH.nil
          refine step_want rfl (wp_load_mid 24 (.tmp 4) rfl w.heap.size 0 rfl (by8 r) _ R0.drew.range Try.underlying24 rfl (by rw [by8_len, hr.out]; exact size24) ?_)
          refine hK.out _ _ trivial (fun hHeld => ?_)
          clear hK K
          try simp only [Act.put, List.setIfInBounds_toArray, List.set_cons_zero, List.set_cons_succ]
          refine wpAnyH_ready (rs := [5]) (by kernel_rfl) (by simp) ?_
          refine AllReadyH.cons (o := ⟨_, _, _, _, _, _⟩) rfl (fun K hK => ?_) AllReadyH.nil
          go_simp
          refine (refPair_h r Y _ hr.out hY32).mono ?_; rintro e w3 ⟨rfl, hb3⟩; have hs3 := hb3.size; simp at hs3; have S0 := R0.drew.below hb3 (by simp <;> omega); have S1 := R1.drew.below hb3 (by simp <;> omega)
          go_wp2_with fail
          refine hK.out _ _ trivial (fun hHeld => ?_)
          clear hK K
          try simp only [Act.put, List.setIfInBounds_toArray, List.set_cons_zero, List.set_cons_succ]
          refine wpAnyH_ready (rs := [6]) (by kernel_rfl) (by simp) ?_
          refine AllReadyH.cons (o := ⟨_, _, _, _, _, _⟩) rfl (fun K hK => ?_) AllReadyH.nil
          refine step_want rfl (wp_store_row 24 (.tmp 4) (.tmp 39) rfl w.heap.size (h8 (pr r Y)) rfl rfl 24 _ S0 (s24h8 (pr_len _ _)) (by rw [h8_size, h8_size, hr.out, pr_len]) (h8_one _) ?_)
          refine hK.out _ _ trivial (fun hHeld => ?_)
          clear hK K
          try simp only [Act.put, List.setIfInBounds_toArray, List.set_cons_zero, List.set_cons_succ]
          refine wpAnyH_done (by kernel_rfl) ?_ _
          go_wp2_with fail
          go_roundw
          case rel => exact ⟨j + 1, pr r Y, by rw [hdiv.out, Int.natCast_ediv] <;> rfl, by go_num, by omega, below_setRow (hbl.drew.trans (hb3.mono (by simp <;> omega))) (Nat.le_refl _) _, by simp <;> omega, S0.setRow _, S1.setRowOther _ (by omega), Hid.mk' (pr_len _ _), Hid.mk' (by rw [← hst.out]; exact hfo.out)⟩
          case measure => simp [intOf]; omega
      · rw [if_neg hd] at hst
        have hd1 : ((q : Int) % 2 == 0) = false := by rw [beq_eq_false_iff_ne]; omega
        clear hd
        go_wp2_with fail
        refine wp_region_held_drew (S := fun _ => True) (by kernel_rfl) trivial (fun hHeld => ?_)
        refine wpAnyH_take (i := 0) (oi := ⟨_, _, _, _, _, _⟩) (v := ?_) rfl (by kernel_rfl) (by kernel_rfl) (by kernel_rfl) (fun _ _ _ h => h) (Or.inl ⟨by rfl, ?_⟩) (by assumption) ?_
        rotate_left
        · intro u hSw
          go_simp
          try (with_reducible rfl)
        try simp only [Act.put, List.setIfInBounds_toArray, List.set_cons_zero, List.set_cons_succ]
        refine wpAnyH_take (i := 1) (oi := ⟨_, _, _, _, _, _⟩) (v := ?_) rfl (by kernel_rfl) (by kernel_rfl) (by kernel_rfl) (fun _ _ _ h => h) (Or.inl ⟨by rfl, ?_⟩) (by assumption) ?_
        rotate_left
        · intro u hSw
          go_simp
          try (with_reducible rfl)
        try simp only [Act.put, List.setIfInBounds_toArray, List.set_cons_zero, List.set_cons_succ]
        refine wpAnyH_take (i := 2) (oi := ⟨_, _, _, _, _, _⟩) (v := ?_) rfl (by kernel_rfl) (by kernel_rfl) (by kernel_rfl) (fun _ _ _ h => h) (Or.inl ⟨by rfl, ?_⟩) (by assumption) ?_
        rotate_left
        · intro u hSw
          go_simp
          try (with_reducible rfl)
        try simp only [Act.put, List.setIfInBounds_toArray, List.set_cons_zero, List.set_cons_succ]
        refine wpAnyH_ready (rs := [3, 4]) (by kernel_rfl) (by simp) ?_
        refine AllReadyH.cons (o := ⟨_, _, _, _, _, _⟩) rfl (fun K hK => ?_) (AllReadyH.cons (o := ⟨_, _, _, _, _, _⟩) rfl (fun K hK => ?_) AllReadyH.nil)
        · refine step_want rfl (wp_load_mid 24 (.tmp 42) rfl g (off + j * 32) rfl (by8 Y) _ ((World.rangeAt_drew _ _ _ _).2 hRY) Try.underlying24 rfl (by rw [by8_len, hY32]; exact size24) ?_)
          refine hK.out _ _ trivial (fun hHeld => ?_)
          clear hK K
          try simp only [Act.put, List.setIfInBounds_toArray, List.set_cons_zero, List.set_cons_succ]
          refine wpAnyH_ready (rs := [4]) (by kernel_rfl) (by simp) ?_
          refine AllReadyH.cons (o := ⟨_, _, _, _, _, _⟩) rfl (fun K hK => ?_) AllReadyH.nil
          refine step_want rfl (wp_load_mid 24 (.tmp 4) rfl w.heap.size 0 rfl (by8 r) _ R0.drew.range Try.underlying24 rfl (by rw [by8_len, hr.out]; exact size24) ?_)
          refine hK.out _ _ trivial (fun hHeld => ?_)
          clear hK K
          try simp only [Act.put, List.setIfInBounds_toArray, List.set_cons_zero, List.set_cons_succ]
          refine wpAnyH_ready (rs := [5]) (by kernel_rfl) (by simp) ?_
          refine AllReadyH.cons (o := ⟨_, _, _, _, _, _⟩) rfl (fun K hK => ?_) AllReadyH.nil
          go_simp
          refine (refPair_h Y r _ hY32 hr.out).mono ?_; rintro e w3 ⟨rfl, hb3⟩; have hs3 := hb3.size; simp at hs3; have S0 := R0.drew.below hb3 (by simp <;> omega); have S1 := R1.drew.below hb3 (by simp <;> omega)
          go_wp2_with fail
          refine hK.out _ _ trivial (fun hHeld => ?_)
          clear hK K
          try simp only [Act.put, List.setIfInBounds_toArray, List.set_cons_zero, List.set_cons_succ]
          refine wpAnyH_ready (rs := [6]) (by kernel_rfl) (by simp) ?_
          refine AllReadyH.cons (o := ⟨_, _, _, _, _, _⟩) rfl (fun K hK => ?_) AllReadyH.nil
          refine step_want rfl (wp_store_row 24 (.tmp 4) (.tmp 45) rfl w.heap.size (h8 (pr Y r)) rfl rfl 24 _ S0 (s24h8 (pr_len _ _)) (by rw [h8_size, h8_size, hr.out, pr_len]) (h8_one _) ?_)
          refine hK.out _ _ trivial (fun hHeld => ?_)
          clear hK K
          try simp only [Act.put, List.setIfInBounds_toArray, List.set_cons_zero, List.set_cons_succ]
          refine wpAnyH_done (by kernel_rfl) ?_ _
          go_wp2_with fail
          go_roundw
          case rel => exact ⟨j + 1, pr Y r, by rw [hdiv.out, Int.natCast_ediv] <;> rfl, by go_num, by omega, below_setRow (hbl.drew.trans (hb3.mono (by simp <;> omega))) (Nat.le_refl _) _, by simp <;> omega, S0.setRow _, S1.setRowOther _ (by omega), Hid.mk' (pr_len _ _), Hid.mk' (by rw [← hst.out]; exact hfo.out)⟩
          case measure => simp [intOf]; omega
        · refine step_want rfl (wp_load_mid 24 (.tmp 4) rfl w.heap.size 0 rfl (by8 r) _ R0.drew.range Try.underlying24 rfl (by rw [by8_len, hr.out]; exact size24) ?_)
          refine hK.out _ _ trivial (fun hHeld => ?_)
          clear hK K
          try simp only [Act.put, List.setIfInBounds_toArray, List.set_cons_zero, List.set_cons_succ]
          refine wpAnyH_ready (rs := [3]) (by kernel_rfl) (by simp) ?_
          refine AllReadyH.cons (o := ⟨_, _, _, _, _, _⟩) rfl (fun K hK => ?_) AllReadyH.nil
          refine step_want rfl (wp_load_mid 24 (.tmp 42) rfl g (off + j * 32) rfl (by8 Y) _ ((World.rangeAt_drew _ _ _ _).2 hRY) Try.underlying24 rfl (by rw [by8_len, hY32]; exact size24) ?_)
          refine hK.out _ _ trivial (fun hHeld => ?_)
          clear hK K
          try simp only [Act.put, List.setIfInBounds_toArray, List.set_cons_zero, List.set_cons_succ]
          refine wpAnyH_ready (rs := [5]) (by kernel_rfl) (by simp) ?_
          refine AllReadyH.cons (o := ⟨_, _, _, _, _, _⟩) rfl (fun K hK => ?_) AllReadyH.nil
          go_simp
          refine (refPair_h Y r _ hY32 hr.out).mono ?_; rintro e w3 ⟨rfl, hb3⟩; have hs3 := hb3.size; simp at hs3; have S0 := R0.drew.below hb3 (by simp <;> omega); have S1 := R1.drew.below hb3 (by simp <;> omega)
          go_wp2_with fail
          refine hK.out _ _ trivial (fun hHeld => ?_)
          clear hK K
          try simp only [Act.put, List.setIfInBounds_toArray, List.set_cons_zero, List.set_cons_succ]
          refine wpAnyH_ready (rs := [6]) (by kernel_rfl) (by simp) ?_
          refine AllReadyH.cons (o := ⟨_, _, _, _, _, _⟩) rfl (fun K hK => ?_) AllReadyH.nil
          refine step_want rfl (wp_store_row 24 (.tmp 4) (.tmp 45) rfl w.heap.size (h8 (pr Y r)) rfl rfl 24 _ S0 (s24h8 (pr_len _ _)) (by rw [h8_size, h8_size, hr.out, pr_len]) (h8_one _) ?_)
          refine hK.out _ _ trivial (fun hHeld => ?_)
          clear hK K
          try simp only [Act.put, List.setIfInBounds_toArray, List.set_cons_zero, List.set_cons_succ]
          refine wpAnyH_done (by kernel_rfl) ?_ _
          go_wp2_with fail
          go_roundw
          case rel => exact ⟨j + 1, pr Y r, by rw [hdiv.out, Int.natCast_ediv] <;> rfl, by go_num, by omega, below_setRow (hbl.drew.trans (hb3.mono (by simp <;> omega))) (Nat.le_refl _) _, by simp <;> omega, S0.setRow _, S1.setRowOther _ (by omega), Hid.mk' (pr_len _ _), Hid.mk' (by rw [← hst.out]; exact hfo.out)⟩
          case measure => simp [intOf]; omega
    · obtain rfl : j = n := by omega
      have hI : ¬ (j : Int) < j := by omega
      have hend : r = fo m X ls := by
        have h := hfo.out
        rw [List.drop_eq_nil_of_le (by rw [← hl.out]; exact Nat.le_refl _)] at h
        exact h
      subst hend
      clear hfo
      go_wp2_with (first
        | (refine ld24 (by rfl) _ (by rfl) w.heap.size 0 (by rfl) _ hr.out R0.range ?_)
        | (refine st24 (by rfl) _ _ (by rfl) (w.heap.size + 1) _ Z32 (by rfl) (by rfl) hr.out Z32_len R1 ?_))
      exact bodyPost_ret (v := .tuple #[.agg (h8 (fo m X ls)), .int .i64 0]) (resP Try.results37 rfl rfl hr.out (R1.setRow _)) rfl ⟨rfl, below_setRow hbl (by omega) _⟩
set_option maxRecDepth 100000 in
set_option maxHeartbeats 1000000 in
theorem refFold_no (i : Int) (X : List Int) (sp : Option Addr) (n cap : Nat) (w : World) (hX : X.length = 32) (hn : n ≤ 140737488355328) (h : ¬ (n ≤ 16 ∧ 0 ≤ i ∧ i < (2 ^ n : Nat))) :
    Calls Try.prog 37 #[.int .i64 i, .agg (h8 X), .slice sp n cap] w fun e w' => e = .returned (.tuple #[.agg (h8 Z32), .int .i64 2]) ∧ Below w.heap.size w w' := by
  have A1 := Arr.new (w.alloc (.cells (h8 X) 24)) 24 (h8 Z32)
  rw [World.size_alloc] at A1
  have hb2 : Below w.heap.size w ((w.alloc (.cells (h8 X) 24)).alloc (.cells (h8 Z32) 24)) := (alloc_bel' w _).alloc (by simp) _
  by_cases h1 : n ≤ 16
  · have h16 : ¬ (16 : Int) < n := by omega
    by_cases h0 : 0 ≤ i
    · have h2 : ¬ (i < (2 ^ n : Nat)) := fun hh => h ⟨h1, h0, hh⟩
      have hw16 := wrap_pow h1
      obtain ⟨p, hp⟩ : ∃ p : Int, p = (2 ^ n : Nat) := ⟨_, rfl⟩
      rw [← hp] at hw16 h2
      have h3 : p ≤ i := by omega
      have h4 : ¬ i < 0 := by omega
      clear hp h h2
      go_enter Try.func37, Try.ntmps37
      go_wp2_with (refine st24 (by rfl) _ _ (by rfl) (w.heap.size + 1) Z32 Z32 (by rfl) (by rfl) Z32_len Z32_len A1 ?_)
      exact bodyPost_ret (v := .tuple #[.agg (h8 Z32), .int .i64 2]) (resP Try.results37 rfl rfl Z32_len (A1.setRow _)) rfl ⟨rfl, below_setRow hb2 (by omega) _⟩
    · have h4 : i < 0 := by omega
      clear h h0
      go_enter Try.func37, Try.ntmps37
      go_wp2_with (refine st24 (by rfl) _ _ (by rfl) (w.heap.size + 1) Z32 Z32 (by rfl) (by rfl) Z32_len Z32_len A1 ?_)
      exact bodyPost_ret (v := .tuple #[.agg (h8 Z32), .int .i64 2]) (resP Try.results37 rfl rfl Z32_len (A1.setRow _)) rfl ⟨rfl, below_setRow hb2 (by omega) _⟩
  · have h16 : (16 : Int) < n := by omega
    clear h
    go_enter Try.func37, Try.ntmps37
    go_wp2_with (refine st24 (by rfl) _ _ (by rfl) (w.heap.size + 1) Z32 Z32 (by rfl) (by rfl) Z32_len Z32_len A1 ?_)
    exact bodyPost_ret (v := .tuple #[.agg (h8 Z32), .int .i64 2]) (resP Try.results37 rfl rfl Z32_len (A1.setRow _)) rfl ⟨rfl, below_setRow hb2 (by omega) _⟩
theorem refFold_any (i : Int) (X : List Int) (N : Nat) (sp : Option Addr) (n cap : Nat) (ls : List (List Int)) (w : World) (hX : X.length = 32) (hS : HS N w sp n cap ls) :
    Calls Try.prog 37 #[.int .i64 i, .agg (h8 X), .slice sp n cap] w fun e w' => e = .returned (.tuple #[.agg (h8 (foR i X ls)), .int .i64 (foE i ls)]) ∧ Below w.heap.size w w' := by
  have hl := hS.len.out
  unfold foR foE
  rw [← hl]
  by_cases h : FoOK i n
  · rw [if_pos h, if_pos h]
    obtain ⟨h1, h2, h3⟩ := h
    obtain ⟨m, rfl⟩ : ∃ m : Nat, i = m := ⟨i.toNat, by omega⟩
    exact refFold_ok m X N sp n cap ls w hX hS h1 (by omega)
  · rw [if_neg h, if_neg h]
    exact refFold_no i X sp n cap w hX hS.small h
end Go.Proofs.Ytlebojbfcolkhaa
