/- Layer mem: a proof folds back to the root. Pure. -/
import Derived.Test.YtndonaebdbbofaaX16
namespace Go.Proofs.Ytndonaebdbbofaa
open Go.RowKit
set_option linter.unusedVariables false
set_option linter.unusedSimpArgs false

theorem fo_app (i : Nat) (x : List Int) (ps : List (List Int)) (q : List Int) : fo i x (ps ++ [q]) = if (i / 2 ^ ps.length) % 2 = 0 then pr (fo i x ps) q else pr q (fo i x ps) := by
  induction ps generalizing i x with
  | nil => simp [fo]
  | cons p ps ih =>
    simp only [List.cons_append, fo, List.length_cons]
    rw [ih, Nat.div_div_eq_div_mul, Nat.mul_comm 2, ← Nat.pow_succ]
/-- Only the low bits of the place count. -/
theorem fo_low {i i' : Nat} {x : List Int} {ps : List (List Int)} (h : i % 2 ^ ps.length = i' % 2 ^ ps.length) : fo i x ps = fo i' x ps := by
  induction ps generalizing i i' x with
  | nil => rfl
  | cons p ps ih =>
    simp only [fo]
    rw [List.length_cons, Nat.pow_succ, Nat.mul_comm] at h
    have h2 : i % 2 = i' % 2 := by
      have := congrArg (· % 2) h
      simpa [Nat.mod_mul_right_mod] using this
    have h3 : i / 2 % 2 ^ ps.length = i' / 2 % 2 ^ ps.length := by
      have a := Nat.mod_mul_right_div_self i 2 (2 ^ ps.length)
      have b := Nat.mod_mul_right_div_self i' 2 (2 ^ ps.length)
      rw [← a, ← b, h]
    rw [h2, ih h3]
/-- In the second half the proof is that of the second half. -/
theorem pf_second {d i : Nat} (l : List (List Int)) (h1 : 2 ^ d ≤ i) (h2 : i < 2 ^ (d + 1)) : pf d l i = pf d (l.drop (2 ^ d)) (i - 2 ^ d) := by
  unfold pf
  apply List.map_congr_left
  intro k hk
  have hk : k < d := by simpa using hk
  rw [List.drop_drop]
  obtain ⟨m, rfl⟩ : ∃ m, d = k + 1 + m := ⟨d - k - 1, by omega⟩
  have hp : 0 < 2 ^ k := Nat.pow_pos (by omega)
  have e : 2 ^ (k + 1 + m) = 2 ^ k * (2 * 2 ^ m) := by rw [Nat.pow_add, Nat.pow_succ, Nat.mul_assoc]
  have e2 : i / 2 ^ k = (i - 2 ^ (k + 1 + m)) / 2 ^ k + 2 * 2 ^ m := by
    have : i = (i - 2 ^ (k + 1 + m)) + 2 ^ k * (2 * 2 ^ m) := by rw [← e]; omega
    conv => lhs; rw [this]
    rw [Nat.add_mul_div_left _ _ hp]
  have e3 : sib (i / 2 ^ k) = sib ((i - 2 ^ (k + 1 + m)) / 2 ^ k) + 2 * 2 ^ m := by
    rw [e2]
    unfold sib
    generalize (i - 2 ^ (k + 1 + m)) / 2 ^ k = q
    generalize 2 ^ m = p
    have : (q + 2 * p) % 2 = q % 2 := by omega
    rw [this]
    split <;> omega
  congr 2
  rw [e3, Nat.add_mul, e, Nat.mul_comm (2 ^ k)]
  omega
/-- The proof of the place i, folded from whatever leaf: the root with that leaf in its place. -/
theorem fo_set (d : Nat) : ∀ (l : List (List Int)) (i : Nat) (v : List Int), i < 2 ^ d → i < l.length → fo i v (pf d l i) = tr d (l.set i v) := by
  induction d with
  | zero =>
    intro l i v h1 h2
    obtain rfl : i = 0 := by simpa using h1
    cases l with
    | nil => simp at h2
    | cons a r => simp [pf, fo, tr]
  | succ d ih =>
    intro l i v h1 h2
    rw [pf_succ, fo_app, pf_len, tr_succ]
    have hp : 0 < 2 ^ d := Nat.pow_pos (by omega)
    by_cases hlt : i < 2 ^ d
    · have h0 : i / 2 ^ d = 0 := Nat.div_eq_of_lt hlt
      rw [h0, if_pos (by rfl), ih l i v hlt h2]
      congr 2
      rw [List.drop_set_of_lt hlt]
      simp [sib]
    · have h3 : 2 ^ (d + 1) = 2 ^ d + 2 ^ d := by rw [Nat.pow_succ]; omega
      have hq : i / 2 ^ d = 1 := by
        rw [Nat.div_eq_iff hp]; omega
      rw [hq, if_neg (by decide), pf_second l (by omega) h1, fo_low (i' := i - 2 ^ d) (by
        rw [pf_len]
        conv => lhs; rw [show i = (i - 2 ^ d) + 2 ^ d by omega]
        rw [Nat.add_mod_right])]
      rw [ih (l.drop (2 ^ d)) (i - 2 ^ d) v (by omega) (by rw [List.length_drop]; omega)]
      congr 1
      · rw [show sib 1 = 0 by rfl, Nat.zero_mul, List.drop_zero, ← tr_take d l, ← tr_take d (l.set i v), List.take_set_of_le (by omega)]
      · congr 1
        rw [List.drop_set, if_neg (by omega)]
end Go.Proofs.Ytndonaebdbbofaa
