import Derived.Test.YtgjnbpimldjkpaaUb
namespace Go.Proofs.Ytgjnbpimldjkpaa
open Go.RowKit

theorem word_congr {B B' : Nat → Int} (h : ∀ t, t < 64 → B t = B' t) {t : Nat} (ht : t < 16) : word B t = word B' t := by
  unfold word
  rw [h (4 * t) (by omega), h (4 * t + 1) (by omega), h (4 * t + 2) (by omega), h (4 * t + 3) (by omega)]
theorem wsn_congr {B B' : Nat → Int} (h : ∀ t, t < 64 → B t = B' t) (k : Nat) : wsn B k = wsn B' k := by
  induction k with
  | zero =>
    unfold wsn
    refine List.map_congr_left fun t ht => word_congr h ?_
    simpa using ht
  | succ k ih => rw [wsn, wsn, ih]
theorem WW_congr {B B' : Nat → Int} (h : ∀ t, t < 64 → B t = B' t) : WW B = WW B' := by
  funext t; unfold WW; rw [wsn_congr h]
theorem absorbN_congr {K B B' : Nat → Int} (s : St) (m : Nat) (h : ∀ t, t < 64 * m → B t = B' t) : absorbN K B s m = absorbN K B' s m := by
  induction m with
  | zero => rfl
  | succ m ih =>
    rw [absorbN, absorbN, ih (fun t ht => h t (by omega)), WW_congr (B := fun t => B (64 * m + t)) (B' := fun t => B' (64 * m + t)) (fun t ht => h _ (by omega))]
theorem absorbN_add (K B : Nat → Int) (s : St) (m j : Nat) : absorbN K B s (m + j) = absorbN K (fun t => B (64 * m + t)) (absorbN K B s m) j := by
  induction j with
  | zero => rfl
  | succ j ih =>
    rw [← Nat.add_assoc, absorbN, absorbN, ih]
    have : (fun t => B (64 * (m + j) + t)) = fun t => B (64 * m + (64 * j + t)) := by funext t; congr 1; omega
    rw [this]

theorem bat_app (A M : List Int) (t : Nat) : bat (A ++ M) t = if t < A.length then bat A t else bat M (t - A.length) := by
  simp only [bat, List.getD_eq_getElem?_getD]
  by_cases h : t < A.length
  · rw [if_pos h, List.getElem?_append_left h]
  · rw [if_neg h, List.getElem?_append_right (by omega)]
theorem bat_zeros (k t : Nat) : bat (zerosL k) t = 0 := by
  simp only [bat, zerosL, List.getD_eq_getElem?_getD]
  by_cases h : t < k
  · simp [h]
  · simp [h]
theorem bat_len {n j t : Nat} (h : t < j) : bat (lenL n j) t = (n : Int) * 8 / 2 ^ (8 * (7 - t)) % 256 := by
  simp only [bat, lenL, List.getD_eq_getElem?_getD, List.getElem?_map, List.getElem?_range h]; rfl
theorem padL_len (L : List Int) : (padL L).length = L.length + 1 + nulls L.length + 8 := by simp [padL, zerosL_len, lenL_len]; omega
theorem bat_pad (L : List Int) (t : Nat) (ht : t < L.length + 1 + nulls L.length + 8) :
    bat (padL L) t = if t < L.length then bat L t else if t = L.length then 128 else if t < L.length + 1 + nulls L.length then 0 else (L.length : Int) * 8 / 2 ^ (8 * (7 - (t - (L.length + 1 + nulls L.length)))) % 256 := by
  unfold padL
  rw [bat_app, bat_app, bat_app]
  simp only [List.length_append, zerosL_len, List.length_singleton]
  by_cases h1 : t < L.length
  · rw [if_pos (by omega), if_pos (by omega), if_pos h1, if_pos h1]
  · rw [if_neg h1]
    by_cases h2 : t = L.length
    · rw [if_pos (by omega), if_pos (by omega), if_neg h1, if_pos h2, h2, Nat.sub_self]; rfl
    · rw [if_neg h2]
      by_cases h3 : t < L.length + 1 + nulls L.length
      · rw [if_pos h3, if_neg (by omega), if_pos h3, bat_zeros, if_neg h1]
      · rw [if_neg h3, if_neg h3, bat_len (by omega), if_neg h1]

/-- How many blocks the last bytes fill. -/
def lastQ (r : Nat) : Nat := if 55 < r then 2 else 1
theorem pad_blocks (n : Nat) : n + 1 + nulls n + 8 = 64 * (n / 64 + lastQ (n % 64)) := by
  unfold nulls lastQ
  by_cases h : 55 < n % 64
  · rw [if_pos h]; omega
  · rw [if_neg h]; omega

theorem pad_block (L : List Int) (t : Nat) (ht : t < 64 * lastQ (L.length % 64)) :
    bat (padL L) (64 * (L.length / 64) + t) = padB (fun t => bat L (64 * (L.length / 64) + t)) (64 * ((L.length / 64 : Nat) : Int) + ((L.length % 64 : Nat) : Int)) (L.length % 64) (64 * lastQ (L.length % 64)) t := by
  have hp := pad_blocks L.length
  have hq : lastQ (L.length % 64) = 1 ∨ lastQ (L.length % 64) = 2 := by unfold lastQ; by_cases h : 55 < L.length % 64 <;> simp [h]
  have hnn : ((L.length : Nat) : Int) = 64 * ((L.length / 64 : Nat) : Int) + ((L.length % 64 : Nat) : Int) := by omega
  rw [bat_pad L _ (by omega), ← hnn]
  unfold padB baseB lenB
  by_cases h1 : t < L.length % 64
  · rw [if_pos (by omega), if_pos (by omega), if_pos h1]
  · rw [if_neg (by omega)]
    by_cases h2 : t = L.length % 64
    · rw [if_pos (by omega), if_pos (by omega), if_neg h1, if_pos h2]
    · rw [if_neg (by omega)]
      by_cases h3 : t < 64 * lastQ (L.length % 64) - 8
      · rw [if_pos (by omega), if_pos h3, if_neg h1, if_neg h2]
      · rw [if_neg (by omega), if_neg h3]
        congr 3
        omega

/-- The padded bytes, block by block, give the sum's words. -/
theorem absorb_pad (L : List Int) : absorbN kOf (bat (padL L)) h0St (L.length / 64 + lastQ (L.length % 64)) = shaSt (bat L) (L.length / 64) (L.length % 64) := by
  rw [absorbN_add, absorbN_congr (B := bat (padL L)) (B' := bat L) h0St (L.length / 64) (fun t ht => ?_)]
  · rw [absorbN_congr _ _ (pad_block L)]
    unfold shaSt lastQ
    by_cases h : 55 < L.length % 64
    · simp only [if_pos h]
    · simp only [if_neg h]
  · rw [bat_pad L t (by omega), if_pos (by omega)]
end Go.Proofs.Ytgjnbpimldjkpaa
