/- Layer merkle: trees over sums, and the proofs of their leaves. Pure. -/
import Derived.Test.YtgjnbpimldjkpaaTl
namespace Go.Proofs.Ytgjnbpimldjkpaa
open Go.RowKit
set_option linter.unusedVariables false
set_option linter.unusedSimpArgs false

/-- A sum, as bytes. -/
def shl (L : List Int) : List Int := (List.range 32).map (shaB (bat L) L.length)
theorem shl_len (L : List Int) : (shl L).length = 32 := by simp [shl]
theorem sha_h8 (L : List Int) : sha L = h8 (shl L) := by
  simp only [sha, u8s, arr, h8, by8, shl, List.map_map]
  congr 1
/-- The sum of a pair. -/
def pr (x y : List Int) : List Int := shl (1 :: (x ++ y))
theorem pr_len (x y : List Int) : (pr x y).length = 32 := shl_len _
/-- The zero sum. -/
def Z32 : List Int := List.replicate 32 0
theorem Z32_len : Z32.length = 32 := by simp [Z32]
/-- The root of a tree: only its first 2^d leaves count; those that are not given are noughts. -/
def tr : Nat → List (List Int) → List Int
  | 0, l => l.headD Z32
  | d + 1, l => pr (tr d (l.take (2 ^ d))) (tr d (l.drop (2 ^ d)))
theorem tr_len (d : Nat) : ∀ l : List (List Int), (∀ x ∈ l, x.length = 32) → (tr d l).length = 32 := by
  cases d with
  | zero =>
    intro l h
    cases l with
    | nil => exact Z32_len
    | cons a r => exact h a (by simp)
  | succ d => intro l h; exact pr_len _ _
theorem tr_take (d : Nat) : ∀ l : List (List Int), tr d (l.take (2 ^ d)) = tr d l := by
  induction d with
  | zero => intro l; cases l <;> simp [tr]
  | succ d ih =>
    intro l
    have h2 : 2 ^ (d + 1) = 2 ^ d + 2 ^ d := by rw [Nat.pow_succ]; omega
    have hp : 0 < 2 ^ d := Nat.pow_pos (by omega)
    simp only [tr]
    rw [List.take_take, Nat.min_eq_left (by omega)]
    congr 1
    rw [List.drop_take, show 2 ^ (d + 1) - 2 ^ d = 2 ^ d by omega]
    exact ih _
theorem tr_succ (d : Nat) (l : List (List Int)) : tr (d + 1) l = pr (tr d l) (tr d (l.drop (2 ^ d))) := by
  rw [tr, tr_take]
theorem tr_nil (d : Nat) : tr (d + 1) [] = pr (tr d []) (tr d []) := by rw [tr_succ]; simp
/-- Two halves side by side. -/
theorem tr_two (d q : Nat) (l : List (List Int)) : pr (tr d (l.drop (2 * q * 2 ^ d))) (tr d (l.drop ((2 * q + 1) * 2 ^ d))) = tr (d + 1) (l.drop (q * 2 ^ (d + 1))) := by
  rw [tr_succ, List.drop_drop]
  have h1 : 2 * q * 2 ^ d = q * 2 ^ (d + 1) := by rw [Nat.pow_succ, Nat.mul_comm 2 q, Nat.mul_assoc, Nat.mul_comm 2]
  have h2 : (2 * q + 1) * 2 ^ d = q * 2 ^ (d + 1) + 2 ^ d := by rw [Nat.add_mul, h1, Nat.one_mul]
  rw [h1, h2]

/-- The array of halves that wait, of the first n leaves. -/
def Wt (l : List (List Int)) (n : Nat) (W : Nat → List Int) : Prop := ∀ k, (n / 2 ^ k) % 2 = 1 → W k = tr k (l.drop ((n / 2 ^ (k + 1)) * 2 ^ (k + 1)))
theorem div_succ (n k : Nat) : n / 2 ^ (k + 1) = n / 2 ^ k / 2 := by rw [Nat.pow_succ, Nat.div_div_eq_div_mul]
/-- A leaf on its way up: below k all were second halves. -/
theorem wt_up {l : List (List Int)} {n k : Nat} {W : Nat → List Int} {r : List Int} (hW : Wt l n W) (hb : (n / 2 ^ k) % 2 = 1) (hr : r = tr k (l.drop ((n / 2 ^ k) * 2 ^ k))) :
    pr (W k) r = tr (k + 1) (l.drop ((n / 2 ^ (k + 1)) * 2 ^ (k + 1))) := by
  rw [hW k hb, hr, ← tr_two, div_succ]
  have : n / 2 ^ k = 2 * (n / 2 ^ k / 2) + 1 := by omega
  congr 2
  · rw [Nat.pow_succ, Nat.mul_comm (2 ^ k) 2, ← Nat.mul_assoc, Nat.mul_comm (n / 2 ^ k / 2) 2]
  · rw [← this]
/-- .. and where it stays. -/
theorem wt_stay {l : List (List Int)} {n k : Nat} {W : Nat → List Int} {r : List Int} (hW : Wt l n W) (hb : (n / 2 ^ k) % 2 = 0) (hlow : n % 2 ^ k + 1 = 2 ^ k) (hr : r = tr k (l.drop ((n / 2 ^ k) * 2 ^ k))) :
    Wt l (n + 1) (fun j => if j = k then r else W j) := by
  have hn : n + 1 = 2 ^ k * (n / 2 ^ k + 1) := by
    have := Nat.div_add_mod n (2 ^ k)
    rw [Nat.mul_add]; omega
  have hpos : 0 < 2 ^ k := Nat.pow_pos (by omega)
  have hk : (n + 1) / 2 ^ k = n / 2 ^ k + 1 := by rw [hn, Nat.mul_div_cancel_left _ hpos]
  have habove : ∀ j, (n + 1) / 2 ^ (k + 1 + j) = n / 2 ^ (k + 1 + j) := by
    intro j
    have e : 2 ^ (k + 1 + j) = 2 ^ k * (2 * 2 ^ j) := by rw [Nat.pow_add, Nat.pow_succ, Nat.mul_assoc]
    rw [e, ← Nat.div_div_eq_div_mul, ← Nat.div_div_eq_div_mul, ← Nat.div_div_eq_div_mul, ← Nat.div_div_eq_div_mul, hk]
    congr 1; omega
  intro j hj
  by_cases hjk : j = k
  · subst hjk
    show (if j = j then r else W j) = _
    rw [if_pos rfl, hr, habove 0, Nat.add_zero, div_succ]
    congr 2
    have h2 : n / 2 ^ j = 2 * (n / 2 ^ j / 2) := by omega
    rw [Nat.pow_succ, Nat.mul_comm (2 ^ j) 2, ← Nat.mul_assoc, Nat.mul_comm (n / 2 ^ j / 2) 2, ← h2]
  · show (if j = k then r else W j) = _
    rw [if_neg hjk]
    by_cases hlt : j < k
    · exfalso
      obtain ⟨m, rfl⟩ : ∃ m, k = j + 1 + m := ⟨k - j - 1, by omega⟩
      have e : n + 1 = 2 ^ j * (2 * (2 ^ m * (n / 2 ^ (j + 1 + m) + 1))) := by
        rw [show 2 ^ j * (2 * (2 ^ m * (n / 2 ^ (j + 1 + m) + 1))) = 2 ^ (j + 1 + m) * (n / 2 ^ (j + 1 + m) + 1) by rw [Nat.pow_add 2 (j + 1) m, Nat.pow_succ]; simp only [Nat.mul_assoc]]
        exact hn
      rw [e, Nat.mul_div_cancel_left _ (Nat.pow_pos (by omega))] at hj
      omega
    · obtain ⟨m, rfl⟩ : ∃ m, j = k + 1 + m := ⟨j - k - 1, by omega⟩
      rw [habove m] at hj
      rw [show k + 1 + m + 1 = k + 1 + (m + 1) by omega, habove (m + 1)]
      exact hW _ hj
/-- Going up from the first leaf that is not there. -/
theorem wt_fill1 {l : List (List Int)} {k : Nat} {W : Nat → List Int} {r : List Int} (hW : Wt l l.length W) (hb : (l.length / 2 ^ k) % 2 = 1) (hr : r = tr k (l.drop ((l.length / 2 ^ k) * 2 ^ k))) :
    pr (W k) r = tr (k + 1) (l.drop ((l.length / 2 ^ (k + 1)) * 2 ^ (k + 1))) := wt_up hW hb hr
theorem wt_fill0 {l : List (List Int)} {k : Nat} {r : List Int} (hb : (l.length / 2 ^ k) % 2 = 0) (hr : r = tr k (l.drop ((l.length / 2 ^ k) * 2 ^ k))) :
    pr r (tr k []) = tr (k + 1) (l.drop ((l.length / 2 ^ (k + 1)) * 2 ^ (k + 1))) := by
  have h2 : l.length / 2 ^ k = 2 * (l.length / 2 ^ k / 2) := by omega
  have hlt : l.length < (2 * (l.length / 2 ^ k / 2) + 1) * 2 ^ k := by
    rw [← h2]
    have := Nat.div_add_mod l.length (2 ^ k)
    have hm := Nat.mod_lt l.length (show 0 < 2 ^ k from Nat.pow_pos (by omega))
    rw [Nat.add_mul, Nat.mul_comm]; omega
  rw [hr, div_succ, ← tr_two, ← h2]
  congr 2
  rw [h2]
  exact (List.drop_eq_nil_of_le (by omega)).symm
theorem wt_zero (l : List (List Int)) (W : Nat → List Int) : Wt l 0 W := fun k hk => by simp at hk
theorem wt_all {l : List (List Int)} {d : Nat} {W : Nat → List Int} (hW : Wt l (2 ^ d) W) : W d = tr d l := by
  have hp : 0 < 2 ^ d := Nat.pow_pos (by omega)
  have := hW d (by rw [Nat.div_self hp])
  rw [this, Nat.div_eq_of_lt (by rw [Nat.pow_succ]; omega)]
  simp
theorem wt_end {l : List (List Int)} {d : Nat} {r : List Int} (h : l.length < 2 ^ d) (hr : r = tr d (l.drop ((l.length / 2 ^ d) * 2 ^ d))) : r = tr d l := by
  rw [hr, Nat.div_eq_of_lt h]; simp
theorem fill_start (l : List (List Int)) : Z32 = tr 0 (l.drop ((l.length / 2 ^ 0) * 2 ^ 0)) := by simp [tr]
theorem put_start {l : List (List Int)} {n : Nat} {x : List Int} (h : l[n]? = some x) : x = tr 0 (l.drop ((n / 2 ^ 0) * 2 ^ 0)) := by
  have hn := (List.getElem?_eq_some_iff.1 h).1
  rw [List.drop_eq_getElem_cons (by simpa using hn)]
  have := (List.getElem?_eq_some_iff.1 h).2
  simp [tr, this]

/-- The other half's number. -/
def sib (j : Nat) : Nat := if j % 2 = 0 then j + 1 else j - 1
/-- A proof: from the leaf up. -/
def pf (d : Nat) (l : List (List Int)) (i : Nat) : List (List Int) := (List.range d).map fun k => tr k (l.drop (sib (i / 2 ^ k) * 2 ^ k))
theorem pf_len (d : Nat) (l : List (List Int)) (i : Nat) : (pf d l i).length = d := by simp [pf]
theorem pf_succ (d : Nat) (l : List (List Int)) (i : Nat) : pf (d + 1) l i = pf d l i ++ [tr d (l.drop (sib (i / 2 ^ d) * 2 ^ d))] := by simp [pf, List.range_succ]
/-- What a proof folds to. -/
def fo : Nat → List Int → List (List Int) → List Int
  | _, x, [] => x
  | i, x, p :: ps => fo (i / 2) (if i % 2 = 0 then pr x p else pr p x) ps
theorem fo_app (i : Nat) (x : List Int) (ps : List (List Int)) (q : List Int) : fo i x (ps ++ [q]) = if (i / 2 ^ ps.length) % 2 = 0 then pr (fo i x ps) q else pr q (fo i x ps) := by
  induction ps generalizing i x with
  | nil => simp [fo]
  | cons p ps ih =>
    simp only [List.cons_append, fo, List.length_cons]
    rw [ih, Nat.div_div_eq_div_mul, Nat.mul_comm 2, ← Nat.pow_succ]
theorem fo_len {i : Nat} {x : List Int} {ps : List (List Int)} (hx : x.length = 32) : (fo i x ps).length = 32 := by
  induction ps generalizing i x with
  | nil => exact hx
  | cons p ps ih =>
    simp only [fo]
    apply ih
    split <;> exact pr_len _ _
/-- Only the low bits of the place count. -/
theorem fo_low {i i' : Nat} {x : List Int} {ps : List (List Int)} (h : i % 2 ^ ps.length = i' % 2 ^ ps.length) : fo i x ps = fo i' x ps := by
  induction ps generalizing i i' x with
  | nil => rfl
  | cons p ps ih =>
    simp only [fo]
    rw [List.length_cons, Nat.pow_succ, Nat.mul_comm] at h
    have h2 : i % 2 = i' % 2 := by
      have := congrArg (· % 2) h
      simpa [Nat.mod_mul_right_mod] using this
    have h3 : i / 2 % 2 ^ ps.length = i' / 2 % 2 ^ ps.length := by
      have a := Nat.mod_mul_right_div_self i 2 (2 ^ ps.length)
      have b := Nat.mod_mul_right_div_self i' 2 (2 ^ ps.length)
      rw [← a, ← b, h]
    rw [h2, ih h3]
/-- In the second half the proof is that of the second half. -/
theorem pf_second {d i : Nat} (l : List (List Int)) (h1 : 2 ^ d ≤ i) (h2 : i < 2 ^ (d + 1)) : pf d l i = pf d (l.drop (2 ^ d)) (i - 2 ^ d) := by
  unfold pf
  apply List.map_congr_left
  intro k hk
  have hk : k < d := by simpa using hk
  rw [List.drop_drop]
  obtain ⟨m, rfl⟩ : ∃ m, d = k + 1 + m := ⟨d - k - 1, by omega⟩
  have hp : 0 < 2 ^ k := Nat.pow_pos (by omega)
  have e : 2 ^ (k + 1 + m) = 2 ^ k * (2 * 2 ^ m) := by rw [Nat.pow_add, Nat.pow_succ, Nat.mul_assoc]
  have e2 : i / 2 ^ k = (i - 2 ^ (k + 1 + m)) / 2 ^ k + 2 * 2 ^ m := by
    have : i = (i - 2 ^ (k + 1 + m)) + 2 ^ k * (2 * 2 ^ m) := by rw [← e]; omega
    conv => lhs; rw [this]
    rw [Nat.add_mul_div_left _ _ hp]
  have e3 : sib (i / 2 ^ k) = sib ((i - 2 ^ (k + 1 + m)) / 2 ^ k) + 2 * 2 ^ m := by
    rw [e2]
    unfold sib
    generalize (i - 2 ^ (k + 1 + m)) / 2 ^ k = q
    generalize 2 ^ m = p
    have : (q + 2 * p) % 2 = q % 2 := by omega
    rw [this]
    split <;> omega
  congr 2
  rw [e3, Nat.add_mul, e, Nat.mul_comm (2 ^ k)]
  omega
/-- The proof of the place i, folded from whatever leaf: the root with that leaf in its place. -/
theorem fo_set (d : Nat) : ∀ (l : List (List Int)) (i : Nat) (v : List Int), i < 2 ^ d → i < l.length → fo i v (pf d l i) = tr d (l.set i v) := by
  induction d with
  | zero =>
    intro l i v h1 h2
    obtain rfl : i = 0 := by simpa using h1
    cases l with
    | nil => simp at h2
    | cons a r => simp [pf, fo, tr]
  | succ d ih =>
    intro l i v h1 h2
    rw [pf_succ, fo_app, pf_len, tr_succ]
    have hp : 0 < 2 ^ d := Nat.pow_pos (by omega)
    by_cases hlt : i < 2 ^ d
    · have h0 : i / 2 ^ d = 0 := Nat.div_eq_of_lt hlt
      rw [h0, if_pos (by rfl), ih l i v hlt h2]
      congr 2
      rw [List.drop_set_of_lt hlt]
      simp [sib]
    · have h3 : 2 ^ (d + 1) = 2 ^ d + 2 ^ d := by rw [Nat.pow_succ]; omega
      have hq : i / 2 ^ d = 1 := by
        rw [Nat.div_eq_iff hp]; omega
      rw [hq, if_neg (by decide), pf_second l (by omega) h1, fo_low (i' := i - 2 ^ d) (by
        rw [pf_len]
        conv => lhs; rw [show i = (i - 2 ^ d) + 2 ^ d by omega]
        rw [Nat.add_mod_right])]
      rw [ih (l.drop (2 ^ d)) (i - 2 ^ d) v (by omega) (by rw [List.length_drop]; omega)]
      congr 1
      · rw [show sib 1 = 0 by rfl, Nat.zero_mul, List.drop_zero, ← tr_take d l, ← tr_take d (l.set i v), List.take_set_of_le (by omega)]
      · congr 1
        rw [List.drop_set, if_neg (by omega)]
/-- Noughts at the end are as good as nothing. -/
theorem tr_pad (d : Nat) : ∀ (l : List (List Int)) (m : Nat), tr d (l ++ List.replicate m Z32) = tr d l := by
  induction d with
  | zero =>
    intro l m
    cases l with
    | nil => cases m <;> simp [tr, List.replicate_succ]
    | cons a r => simp [tr]
  | succ d ih =>
    intro l m
    rw [tr_succ, tr_succ, ih, List.drop_append, List.drop_replicate, ih]
theorem pf_pad (d : Nat) (l : List (List Int)) (m i : Nat) : pf d (l ++ List.replicate m Z32) i = pf d l i := by
  unfold pf
  apply List.map_congr_left
  intro k _
  rw [List.drop_append, List.drop_replicate, tr_pad]
end Go.Proofs.Ytgjnbpimldjkpaa
