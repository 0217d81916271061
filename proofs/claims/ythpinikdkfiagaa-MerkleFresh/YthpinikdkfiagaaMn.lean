/- Layer merkle: Root, Empty, the leaves of a half. -/
import Derived.Test.YthpinikdkfiagaaMm
namespace Go.Proofs.Ythpinikdkfiagaa
open Go.RowKit Go.Shelf
set_option linter.unusedVariables false
set_option linter.unusedSimpArgs false

/-- Why a tree may not be. -/
def rE (d : Int) (n : Nat) : Int := if 0 ≤ d ∧ d ≤ 16 then (if n ≤ 2 ^ d.toNat then 0 else 4) else 2
/-- A root, or the zero sum. -/
def rR (d : Int) (ls : List (List Int)) : List Int := if rE d ls.length = 0 then tr d.toNat ls else Z32
theorem rR_len {d : Int} {ls : List (List Int)} (h : ∀ x ∈ ls, x.length = 32) : (rR d ls).length = 32 := by
  unfold rR; split
  · exact tr_len _ _ h
  · exact Z32_len
set_option maxRecDepth 100000 in
set_option maxHeartbeats 1000000 in
theorem root_any (d : Int) (N : Nat) (sp : Option Addr) (n cap : Nat) (ls : List (List Int)) (w : World) (hS : HS N w sp n cap ls) :
    Calls Try.prog 7 #[.int .i64 d, .slice sp n cap] w fun e w' => e = .returned (.tuple #[.agg (h8 (rR d ls)), .int .i64 (rE d ls.length)]) ∧ Below w.heap.size w w' := by
  have A0 := Arr.new w 24 (h8 Z32)
  have hb0 := alloc_bel' w (.cells (h8 Z32) 24)
  have hS0 := hS.here.below hb0
  have hsm := hS.small
  have hln := hS.len
  have hmd := mayDepth_any d
  unfold rR rE
  by_cases h1 : 0 ≤ d ∧ d ≤ 16
  · rw [decide_eq_true h1] at hmd
    simp only [if_pos h1]
    obtain ⟨m, rfl⟩ : ∃ m : Nat, d = m := ⟨d.toNat, by omega⟩
    have hm : m ≤ 16 := by omega
    simp only [Int.toNat_natCast]
    have hwd := width_any m hm
    rw [← hln.out]
    by_cases h2 : n ≤ 2 ^ m
    · simp only [if_pos h2, if_true]
      have hbd := fun w hS => build_any m w.heap.size sp n cap ls w hm hS h2
      obtain ⟨p, hp⟩ : ∃ p : Nat, p = 2 ^ m := ⟨_, rfl⟩
      rw [← hp] at hwd h2
      have h3 : ¬ (p : Int) < n := by omega
      have ht32 := tr_len m ls hS.l32
      clear hp
      go_enter Try.func7, Try.ntmps7
      go_wp2_with (first
        | (go_at_call 21; go_must (refine (hmd _).mono ?_; rintro e w2 ⟨rfl, rfl⟩))
        | (go_at_call 22; go_must (refine (hwd _).mono ?_; rintro e w2 ⟨rfl, rfl⟩))
        | (go_at_call 23; go_must (refine (hbd _ (hS0.mono (by simp))).mono ?_; rintro e w3 ⟨rfl, hb3⟩; have S0 := A0.below hb3 (by simp)))
        | (refine st24 (by rfl) _ _ (by rfl) w.heap.size (tr m ls) Z32 (by rfl) (by rfl) ht32 Z32_len S0 ?_))
      exact bodyPost_ret (v := .tuple #[.agg (h8 (tr m ls)), .int .i64 0]) (resP Try.results7 rfl rfl ht32 (S0.setRow _)) rfl ⟨rfl, below_setRow (hb0.trans (hb3.mono (by simp))) (Nat.le_refl _) _⟩
    · simp only [if_neg h2]
      obtain ⟨p, hp⟩ : ∃ p : Nat, p = 2 ^ m := ⟨_, rfl⟩
      rw [← hp] at hwd h2
      have h3 : (p : Int) < n := by omega
      clear hp
      go_enter Try.func7, Try.ntmps7
      go_wp2_with (first
        | (go_at_call 21; go_must (refine (hmd _).mono ?_; rintro e w2 ⟨rfl, rfl⟩))
        | (go_at_call 22; go_must (refine (hwd _).mono ?_; rintro e w2 ⟨rfl, rfl⟩))
        | (refine st24 (by rfl) _ _ (by rfl) w.heap.size Z32 Z32 (by rfl) (by rfl) Z32_len Z32_len A0 ?_))
      exact bodyPost_ret (v := .tuple #[.agg (h8 Z32), .int .i64 4]) (resP Try.results7 rfl rfl Z32_len (A0.setRow _)) rfl ⟨rfl, below_setRow hb0 (Nat.le_refl _) _⟩
  · rw [decide_eq_false h1] at hmd
    simp only [if_neg h1]
    go_enter Try.func7, Try.ntmps7
    go_wp2_with (first
      | (go_at_call 21; go_must (refine (hmd _).mono ?_; rintro e w2 ⟨rfl, rfl⟩))
      | (refine st24 (by rfl) _ _ (by rfl) w.heap.size Z32 Z32 (by rfl) (by rfl) Z32_len Z32_len A0 ?_))
    exact bodyPost_ret (v := .tuple #[.agg (h8 Z32), .int .i64 2]) (resP Try.results7 rfl rfl Z32_len (A0.setRow _)) rfl ⟨rfl, below_setRow hb0 (Nat.le_refl _) _⟩

set_option maxRecDepth 100000 in
set_option maxHeartbeats 1000000 in
/-- The leaves given that stand in the tree number b at level k. -/
theorem half_any (k b N : Nat) (sp : Option Addr) (n cap : Nat) (ls : List (List Int)) (w : World) (hk : k ≤ 16) (hb : b ≤ 131072) (hS : HS N w sp n cap ls) :
    Calls Try.prog 29 #[.slice sp n cap, .int .i64 k, .int .i64 b] w fun e w' => ∃ sp' n' cap', e = .returned (.slice sp' n' cap') ∧ w' = w ∧ HS N w sp' n' cap' ((ls.drop (b * 2 ^ k)).take (2 ^ k)) := by
  have hsm := hS.small
  have hln := hS.len
  have hle := hS.le
  have hbig := hS.big
  have hnil := hS.nil
  have hwd := width_any k hk
  have h16 := pow16 hk
  have hp0 : 0 < 2 ^ k := Nat.pow_pos (by omega)
  obtain ⟨p, hp⟩ : ∃ p : Nat, p = 2 ^ k := ⟨_, rfl⟩
  rw [← hp] at hwd h16 hp0 ⊢
  clear hp
  have hbp : b * p ≤ 131072 * 65536 := Nat.mul_le_mul hb h16
  obtain ⟨q, hq⟩ : ∃ q : Nat, q = b * p := ⟨_, rfl⟩
  have hqI : (b : Int) * (p : Int) = q := by rw [hq]; exact (Int.natCast_mul b p).symm
  rw [← hq] at hbp ⊢
  clear hq
  by_cases h1 : q < n
  · obtain ⟨g, off, rfl, hgN, hR⟩ := hS.at0 (by omega)
    have h1I : ¬ (n : Int) < q := by omega
    have h1N : ¬ n < q := by omega
    by_cases h2 : n < q + p
    · have h2I : (n : Int) < (q : Int) + p := by omega
      go_enter Try.func29, Try.ntmps29
      go_wp2_with (first
        | (go_at_call 22; go_must (refine (hwd _).mono ?_; rintro e w2 ⟨rfl, rfl⟩)))
      go_ret
      refine ⟨_, _, _, rfl, rfl, ?_⟩
      have h := hS.part q (n - q) (cap - q) (by omega) (by omega) (by omega) (by omega)
      rw [List.take_of_length_le (by rw [List.length_drop, ← hln.out]; omega)] at h
      rw [List.take_of_length_le (by rw [List.length_drop, ← hln.out]; omega)]
      exact h
    · have h2I : ¬ (n : Int) < (q : Int) + p := by omega
      go_enter Try.func29, Try.ntmps29
      go_wp2_with (first
        | (go_at_call 22; go_must (refine (hwd _).mono ?_; rintro e w2 ⟨rfl, rfl⟩)))
      go_ret
      refine ⟨_, _, _, rfl, rfl, ?_⟩
      have h := hS.part q p (cap - q) (by omega) (by omega) (by omega) (by omega)
      rw [Nat.add_sub_cancel_left]
      exact h
  · have hnone : (ls.drop q).take p = [] := by rw [List.drop_eq_nil_of_le (by rw [← hln.out]; omega)]; exact List.take_nil
    have hz : ∀ (sp' : Option Addr) (c : Nat), c ≤ cap → (sp' = none → c = 0) → HS N w sp' 0 c [] := fun sp' c hc h0 => ⟨rfl, fun h => ⟨rfl, h0 h⟩, by omega, by omega, by omega, fun h => absurd h (by omega), fun X h => by cases h⟩
    rw [hnone]
    clear hnone
    replace hz := Hid.mk' hz
    have h3I : (n : Int) < (n : Int) + p := by omega
    by_cases h4 : n < q
    · have h4I : (n : Int) < q := by omega
      cases sp with
      | none =>
        obtain ⟨h4, h5⟩ := hnil rfl
        subst h4 h5
        go_enter Try.func29, Try.ntmps29
        go_wp2_with (first
          | (go_at_call 22; go_must (refine (hwd _).mono ?_; rintro e w2 ⟨rfl, rfl⟩)))
        go_ret
        refine ⟨_, _, _, rfl, rfl, ?_⟩
        first | exact hz.out _ _ (by omega) (fun _ => rfl) | exact hz.out _ _ (by omega) (fun h => by cases h) | (rw [Nat.sub_self]; exact hz.out _ _ (by omega) (fun h => by cases h))
      | some ad =>
        by_cases hc : cap = n
        · subst hc
          go_enter Try.func29, Try.ntmps29
          go_wp2_with (first
            | (go_at_call 22; go_must (refine (hwd _).mono ?_; rintro e w2 ⟨rfl, rfl⟩)))
          go_ret
          refine ⟨_, _, _, rfl, rfl, ?_⟩
          first | exact hz.out _ _ (by omega) (fun _ => rfl) | exact hz.out _ _ (by omega) (fun h => by cases h) | (rw [Nat.sub_self]; exact hz.out _ _ (by omega) (fun h => by cases h))
        · have hc1 : ¬ n = cap := fun h => hc h.symm
          go_enter Try.func29, Try.ntmps29
          go_wp2_with (first
            | (go_at_call 22; go_must (refine (hwd _).mono ?_; rintro e w2 ⟨rfl, rfl⟩)))
          go_ret
          refine ⟨_, _, _, rfl, rfl, ?_⟩
          first | exact hz.out _ _ (by omega) (fun _ => rfl) | exact hz.out _ _ (by omega) (fun h => by cases h) | (rw [Nat.sub_self]; exact hz.out _ _ (by omega) (fun h => by cases h))
    · obtain rfl : q = n := by omega
      have h4I : ¬ (q : Int) < q := by omega
      cases sp with
      | none =>
        obtain ⟨h4, h5⟩ := hnil rfl
        subst h4 h5
        go_enter Try.func29, Try.ntmps29
        go_wp2_with (first
          | (go_at_call 22; go_must (refine (hwd _).mono ?_; rintro e w2 ⟨rfl, rfl⟩)))
        go_ret
        refine ⟨_, _, _, rfl, rfl, ?_⟩
        first | exact hz.out _ _ (by omega) (fun _ => rfl) | exact hz.out _ _ (by omega) (fun h => by cases h) | (rw [Nat.sub_self]; exact hz.out _ _ (by omega) (fun h => by cases h))
      | some ad =>
        by_cases hc : cap = q
        · subst hc
          go_enter Try.func29, Try.ntmps29
          go_wp2_with (first
            | (go_at_call 22; go_must (refine (hwd _).mono ?_; rintro e w2 ⟨rfl, rfl⟩)))
          go_ret
          refine ⟨_, _, _, rfl, rfl, ?_⟩
          first | exact hz.out _ _ (by omega) (fun _ => rfl) | exact hz.out _ _ (by omega) (fun h => by cases h) | (rw [Nat.sub_self]; exact hz.out _ _ (by omega) (fun h => by cases h))
        · have hc1 : ¬ q = cap := fun h => hc h.symm
          go_enter Try.func29, Try.ntmps29
          go_wp2_with (first
            | (go_at_call 22; go_must (refine (hwd _).mono ?_; rintro e w2 ⟨rfl, rfl⟩)))
          go_ret
          refine ⟨_, _, _, rfl, rfl, ?_⟩
          first | exact hz.out _ _ (by omega) (fun _ => rfl) | exact hz.out _ _ (by omega) (fun h => by cases h) | (rw [Nat.sub_self]; exact hz.out _ _ (by omega) (fun h => by cases h))
end Go.Proofs.Ythpinikdkfiagaa
