/- Tl, Tm, Ma, Mb. -/
import Derived.Test.YtbfelelngoonjaaX01
import Derived.Test.YtbfelelngoonjaaX02
import Derived.Test.YtbfelelngoonjaaX03
import Derived.BigQuiet
import Derived.BigRegion
import Derived.ChangeKeysEq
import Derived.Deep.DeepCutAuto
import Derived.Deep.DrawnRows
import Derived.Deep.QuietTactic
import Derived.Deep.RegionHeld3
import Derived.Deep.RegionLaw
import Derived.Deep.RegionWith
import Derived.Deep.WholeRow
import Derived.Laws.AppendOwnNone
import Derived.Laws.BytesArg
import Derived.Laws.CopyOwn
import Derived.Lib.SlBytesConst
import Derived.WalkKit
import Derived.WalkLawsBesides
import Derived.WalkSpells
import Derived.Deep.MidRow
/- Layer oracle: what the layers below give. -/
namespace Go.Proofs.Ytbfelelngoonjaa
open Go.RowKit
set_option maxRecDepth 100000
set_option linter.unusedVariables false
set_option linter.unusedSimpArgs false

theorem Sl.grown {w w' : World} {sp : Option Addr} {r : Nat} {B : Nat → Int} {row : Option Nat} (h : Sl w sp r B) (hg : w.grownBy w' row) (hr : ∀ b off, sp = some ⟨b, off, none⟩ → 0 < r → some b ≠ row) : Sl w' sp r B := fun h0 => by
  obtain ⟨b, off, rfl, hB⟩ := h h0
  refine ⟨b, off, rfl, fun t ht => ?_⟩
  rw [World.cell?_of_block (w := w) (a := ⟨b, off + t, none⟩) (hg.block b (block_lt_of_cell (hB t ht)) (hr b off rfl h0))]
  exact hB t ht
theorem Arr.grown {w w' : World} {g ty : Nat} {C : Array Value} {row : Option Nat} (h : Arr w g ty C) (hg : w.grownBy w' row) (hr : some g ≠ row) : Arr w' g ty C := by
  have := hg.block g h.lt hr
  unfold Arr at h ⊢; rw [this]; exact h
theorem Sl.lt {w : World} {b off r : Nat} {B : Nat → Int} (h : Sl w (some ⟨b, off, none⟩) r B) (h0 : 0 < r) : b < w.heap.size := by
  obtain ⟨b', off', e, hB⟩ := h h0
  cases e
  exact block_lt_of_cell (hB 0 h0)
theorem ne_own {w : World} {base e s n b : Nat} {v : Value} {xs : List Value} (h : w.ownsRow base e s v n xs) (hb : b < base) : some b ≠ v.ownBlock := fun h' => by
  have := own_ge h b h'.symm; omega
theorem sha_size (L : List Int) : (sha L).size = 32 := u8s_size _ _
theorem s24sha (L : List Int) : (Try.prog.info? 32).map (·.size) = some (sha L).size := by rw [sha_size]; exact size24
theorem sha_get (L : List Int) : ∀ t, t < 32 → (sha L)[t]? = some (.int .u8 (shaB (bat L) L.length t)) := fun _ h => u8s_get h
theorem sha_one (L : List Int) : (sha L).all (·.oneCell') = true := one_ints (sha_size L) (sha_get L)
theorem Arr.new3 (w : World) (o1 o2 : Obj) (ty : Nat) (C : Array Value) : Arr (((w.alloc o1).alloc o2).alloc (.cells C ty)) (w.heap.size + 2) ty C := by
  simpa using Arr.new ((w.alloc o1).alloc o2) ty C
/-- A sum by value. -/
def h8 (X : List Int) : Array Value := (by8 X).toArray
theorem h8_size (X : List Int) : (h8 X).size = X.length := by simp [h8, by8_len]
set_option maxRecDepth 100000 in
set_option maxHeartbeats 600000 in
theorem pair_any (X Y : List Int) (w : World) (hX : X.length = 32) (hY : Y.length = 32) :
    Calls Try.prog 103 #[.agg (h8 X), .agg (h8 Y)] w fun e w' => e = .returned (.agg (sha (1 :: (X ++ Y)))) ∧ Below w.heap.size w w' := by
  obtain ⟨i0, hi, hz0, hz1, hz2⟩ := info_parts info5
  have HX := Hid.mk' hX
  have HY := Hid.mk' hY
  clear hX hY
  go_enter Try.func103, Try.ntmps103
  go_wp2_with (first
    | (at_make; go_must (refine wpList_make_own _ (by rfl) (.const (.int .i64 0)) (.const (.int .i64 65)) 29 (by rfl) (w.heap.size + 3) 5 i0 (.int .u8 0) 1 Try.underlying29 hi hz0 hz1 .i64 .i64 _ 65 (by rfl) (by rfl) (by omega) (by rw [hz2]; omega) (Nat.le_trans (by omega) maxLen_ge) (by simp) ?_; intro w1 hown1 hg1; have hown1 : w1.ownsRow (w.heap.size + 3) 5 1 (.slice (some ⟨w.heap.size + 3, 0, none⟩) 0 65) 0 [] := (by simpa using hown1); have hs1 : w.heap.size + 3 ≤ w1.heap.size := (by have := hg1.size; simpa using this); have hX1 : Arr w1 w.heap.size 32 (h8 X) := (((Arr.new w 32 _).alloc _).alloc _).grown hg1 (by simp); have hY1 : Arr w1 (w.heap.size + 1) 32 (h8 Y) := ((show Arr ((w.alloc _).alloc _) (w.heap.size + 1) 32 (h8 Y) from (by simpa using Arr.new (w.alloc (.cells (h8 X) 32)) 32 (h8 Y))).alloc _).grown hg1 (by simp); have hZ1 : ∃ Z : Array Value, Z.size = 32 ∧ Arr w1 (w.heap.size + 2) 32 Z := ⟨_, by rfl, (Arr.new3 w _ _ 32 _).grown hg1 (by simp)⟩; have hB1 : Below w.heap.size w w1 := ((((Below.refl _ _).alloc (Nat.le_refl _) _).alloc (by simp) _).alloc (by simp; omega) _).grown hg1 (by simp; omega) (by simp)))
    | (at_builtin; refine append_bytes (by rfl) (.tmp 7) (.tmp 8) (by rfl) (w.heap.size + 3) _ 0 [] (by rfl) (hown1.alloc _) (some ⟨w1.heap.size, 0, none⟩) 1 1 [1] (by rfl) (by rfl) (fun h => by cases h) (Arr.sl (Arr.new w1 5 _)) (by omega) (by simp; omega) ?_; intro v2 w2 hown2 hg2; obtain ⟨Z, hZs, hZ1⟩ := hZ1; have hZ2 := (hZ1.alloc _).grown hg2 (ne_own hown1 (by omega)); have hX2 := (hX1.alloc _).grown hg2 (ne_own hown1 (by omega)); have hY2 := (hY1.alloc _).grown hg2 (ne_own hown1 (by omega)); have hB2 := (hB1.alloc (by omega) _).grown hg2 (by simp; omega) (fun k e => by have := own_ge hown1 k e; omega); have hs2 : w.heap.size + 3 ≤ w2.heap.size := (by have := hg2.size; simp at this; omega))
    | (at_builtin; refine append_bytes (by rfl) (.tmp 10) (.tmp 11) (by rfl) (w.heap.size + 3) _ 1 [1] (by rfl) hown2 (some ⟨w.heap.size, 0, none⟩) 32 32 X (by rfl) HX.out.symm (fun h => by cases h) (Arr.sl hX2) (by omega) hs2 ?_; intro v3 w3 hown3 hg3; have hZ3 := hZ2.grown hg3 (ne_own hown2 (by omega)); have hY3 := hY2.grown hg3 (ne_own hown2 (by omega)); have hB3 := hB2.grown hg3 (by omega) (fun k e => by have := own_ge hown2 k e; omega); have hs3 : w.heap.size + 3 ≤ w3.heap.size := Nat.le_trans hs2 hg3.size)
    | (at_builtin; refine append_bytes (by rfl) (.tmp 13) (.tmp 14) (by rfl) (w.heap.size + 3) _ 33 ([1] ++ X) (by rfl) hown3 (some ⟨w.heap.size + 1, 0, none⟩) 32 32 Y (by rfl) HY.out.symm (fun h => by cases h) (Arr.sl hY3) (by omega) hs3 ?_; intro v4 w4 hown4 hg4; have hZ4 := hZ3.grown hg4 (ne_own hown3 (by omega)); have hB4 := hB3.grown hg4 (by omega) (fun k e => by have := own_ge hown3 k e; omega); obtain ⟨g, cap4, rfl, hn4, hcap4, hg, hBy, -⟩ := own_slice hown4 (by omega))
    | (go_at_call 26; go_must (refine (sum_n g 0 65 cap4 ([1] ++ X ++ Y) _ hn4 hBy hcap4 (by omega)).mono ?_; rintro e w5 ⟨rfl, hb5⟩; have hZ5 := hZ4.below hb5 hZ4.lt))
    | (refine wpList_store_arr (by rfl) 32 (.tmp 4) (.tmp 16) (by rfl) (w.heap.size + 2) (sha ([1] ++ X ++ Y)) (by rfl) (by rfl) 32 Z hZ5 (s24sha _) (by rw [hZs, sha_size]) (sha_one _) ?_))
  exact bodyPost_ret (v := .agg (sha (1 :: (X ++ Y)))) (results_cell_row Try.results103 _ _ (w.heap.size + 2) 32 _ (0, 0) _ rfl (hZ5.setRow _) Try.underlying32 rfl (s24sha _)) rfl ⟨rfl, below_setRow (hB4.trans (hb5.mono hB4.size)) (by omega) _⟩
end Go.Proofs.Ytbfelelngoonjaa
/- Layer oracle: what the layers below give. -/
namespace Go.Proofs.Ytbfelelngoonjaa
open Go.RowKit
set_option maxRecDepth 100000
set_option linter.unusedVariables false
set_option linter.unusedSimpArgs false

theorem Bytes.below {w w' : World} {b off n : Nat} {B : Nat → Int} (h : Bytes w b off n B) (hb : Below w.heap.size w w') : Bytes w' b off n B := fun t ht => by
  rw [hb.cell (p := ⟨b, off + t, none⟩) (block_lt_of_cell (h t ht))]; exact h t ht
theorem Arr.bel {w w' : World} {g ty : Nat} {C : Array Value} (h : Arr w g ty C) (hb : Below w.heap.size w w') : Arr w' g ty C := h.below hb h.lt
theorem s24h8 {X : List Int} (h : X.length = 32) : (Try.prog.info? 32).map (·.size) = some (h8 X).size := by rw [h8_size, h]; exact size24
end Go.Proofs.Ytbfelelngoonjaa
/- Layer oracle: what the layers below give. -/
namespace Go.Proofs.Ytbfelelngoonjaa
open Go.RowKit
set_option maxRecDepth 100000
set_option linter.unusedVariables false
set_option linter.unusedSimpArgs false

/-- A sum, as bytes. -/
def shl (L : List Int) : List Int := (List.range 32).map (shaB (bat L) L.length)
theorem shl_len (L : List Int) : (shl L).length = 32 := by simp [shl]
theorem sha_h8 (L : List Int) : sha L = h8 (shl L) := by
  simp only [sha, u8s, arr, h8, by8, shl, List.map_map]
  congr 1
/-- The sum of a pair. -/
def pr (x y : List Int) : List Int := shl (1 :: (x ++ y))
theorem pr_len (x y : List Int) : (pr x y).length = 32 := shl_len _
/-- The zero sum. -/
def Z32 : List Int := List.replicate 32 0
theorem Z32_len : Z32.length = 32 := by simp [Z32]
/-- The root of a tree: only its first 2^d leaves count; those that are not given are noughts. -/
def tr : Nat → List (List Int) → List Int
  | 0, l => l.headD Z32
  | d + 1, l => pr (tr d (l.take (2 ^ d))) (tr d (l.drop (2 ^ d)))
theorem tr_len (d : Nat) : ∀ l : List (List Int), (∀ x ∈ l, x.length = 32) → (tr d l).length = 32 := by
  cases d with
  | zero =>
    intro l h
    cases l with
    | nil => exact Z32_len
    | cons a r => exact h a (by simp)
  | succ d => intro l h; exact pr_len _ _
theorem tr_take (d : Nat) : ∀ l : List (List Int), tr d (l.take (2 ^ d)) = tr d l := by
  induction d with
  | zero => intro l; cases l <;> simp [tr]
  | succ d ih =>
    intro l
    have h2 : 2 ^ (d + 1) = 2 ^ d + 2 ^ d := by rw [Nat.pow_succ]; omega
    have hp : 0 < 2 ^ d := Nat.pow_pos (by omega)
    simp only [tr]
    rw [List.take_take, Nat.min_eq_left (by omega)]
    congr 1
    rw [List.drop_take, show 2 ^ (d + 1) - 2 ^ d = 2 ^ d by omega]
    exact ih _
theorem tr_succ (d : Nat) (l : List (List Int)) : tr (d + 1) l = pr (tr d l) (tr d (l.drop (2 ^ d))) := by
  rw [tr, tr_take]
theorem tr_nil (d : Nat) : tr (d + 1) [] = pr (tr d []) (tr d []) := by rw [tr_succ]; simp
/-- Two halves side by side. -/
theorem tr_two (d q : Nat) (l : List (List Int)) : pr (tr d (l.drop (2 * q * 2 ^ d))) (tr d (l.drop ((2 * q + 1) * 2 ^ d))) = tr (d + 1) (l.drop (q * 2 ^ (d + 1))) := by
  rw [tr_succ, List.drop_drop]
  have h1 : 2 * q * 2 ^ d = q * 2 ^ (d + 1) := by rw [Nat.pow_succ, Nat.mul_comm 2 q, Nat.mul_assoc, Nat.mul_comm 2]
  have h2 : (2 * q + 1) * 2 ^ d = q * 2 ^ (d + 1) + 2 ^ d := by rw [Nat.add_mul, h1, Nat.one_mul]
  rw [h1, h2]
/-- The array of halves that wait, of the first n leaves. -/
def Wt (l : List (List Int)) (n : Nat) (W : Nat → List Int) : Prop := ∀ k, (n / 2 ^ k) % 2 = 1 → W k = tr k (l.drop ((n / 2 ^ (k + 1)) * 2 ^ (k + 1)))
theorem div_succ (n k : Nat) : n / 2 ^ (k + 1) = n / 2 ^ k / 2 := by rw [Nat.pow_succ, Nat.div_div_eq_div_mul]
/-- A leaf on its way up: below k all were second halves. -/
theorem wt_up {l : List (List Int)} {n k : Nat} {W : Nat → List Int} {r : List Int} (hW : Wt l n W) (hb : (n / 2 ^ k) % 2 = 1) (hr : r = tr k (l.drop ((n / 2 ^ k) * 2 ^ k))) :
    pr (W k) r = tr (k + 1) (l.drop ((n / 2 ^ (k + 1)) * 2 ^ (k + 1))) := by
  rw [hW k hb, hr, ← tr_two, div_succ]
  have : n / 2 ^ k = 2 * (n / 2 ^ k / 2) + 1 := by omega
  congr 2
  · rw [Nat.pow_succ, Nat.mul_comm (2 ^ k) 2, ← Nat.mul_assoc, Nat.mul_comm (n / 2 ^ k / 2) 2]
  · rw [← this]
/-- .. and where it stays. -/
theorem wt_stay {l : List (List Int)} {n k : Nat} {W : Nat → List Int} {r : List Int} (hW : Wt l n W) (hb : (n / 2 ^ k) % 2 = 0) (hlow : n % 2 ^ k + 1 = 2 ^ k) (hr : r = tr k (l.drop ((n / 2 ^ k) * 2 ^ k))) :
    Wt l (n + 1) (fun j => if j = k then r else W j) := by
  have hn : n + 1 = 2 ^ k * (n / 2 ^ k + 1) := by
    have := Nat.div_add_mod n (2 ^ k)
    rw [Nat.mul_add]; omega
  have hpos : 0 < 2 ^ k := Nat.pow_pos (by omega)
  have hk : (n + 1) / 2 ^ k = n / 2 ^ k + 1 := by rw [hn, Nat.mul_div_cancel_left _ hpos]
  have habove : ∀ j, (n + 1) / 2 ^ (k + 1 + j) = n / 2 ^ (k + 1 + j) := by
    intro j
    have e : 2 ^ (k + 1 + j) = 2 ^ k * (2 * 2 ^ j) := by rw [Nat.pow_add, Nat.pow_succ, Nat.mul_assoc]
    rw [e, ← Nat.div_div_eq_div_mul, ← Nat.div_div_eq_div_mul, ← Nat.div_div_eq_div_mul, ← Nat.div_div_eq_div_mul, hk]
    congr 1; omega
  intro j hj
  by_cases hjk : j = k
  · subst hjk
    show (if j = j then r else W j) = _
    rw [if_pos rfl, hr, habove 0, Nat.add_zero, div_succ]
    congr 2
    have h2 : n / 2 ^ j = 2 * (n / 2 ^ j / 2) := by omega
    rw [Nat.pow_succ, Nat.mul_comm (2 ^ j) 2, ← Nat.mul_assoc, Nat.mul_comm (n / 2 ^ j / 2) 2, ← h2]
  · show (if j = k then r else W j) = _
    rw [if_neg hjk]
    by_cases hlt : j < k
    · exfalso
      obtain ⟨m, rfl⟩ : ∃ m, k = j + 1 + m := ⟨k - j - 1, by omega⟩
      have e : n + 1 = 2 ^ j * (2 * (2 ^ m * (n / 2 ^ (j + 1 + m) + 1))) := by
        rw [show 2 ^ j * (2 * (2 ^ m * (n / 2 ^ (j + 1 + m) + 1))) = 2 ^ (j + 1 + m) * (n / 2 ^ (j + 1 + m) + 1) by rw [Nat.pow_add 2 (j + 1) m, Nat.pow_succ]; simp only [Nat.mul_assoc]]
        exact hn
      rw [e, Nat.mul_div_cancel_left _ (Nat.pow_pos (by omega))] at hj
      omega
    · obtain ⟨m, rfl⟩ : ∃ m, j = k + 1 + m := ⟨j - k - 1, by omega⟩
      rw [habove m] at hj
      rw [show k + 1 + m + 1 = k + 1 + (m + 1) by omega, habove (m + 1)]
      exact hW _ hj
theorem wt_fill0 {l : List (List Int)} {k : Nat} {r : List Int} (hb : (l.length / 2 ^ k) % 2 = 0) (hr : r = tr k (l.drop ((l.length / 2 ^ k) * 2 ^ k))) :
    pr r (tr k []) = tr (k + 1) (l.drop ((l.length / 2 ^ (k + 1)) * 2 ^ (k + 1))) := by
  have h2 : l.length / 2 ^ k = 2 * (l.length / 2 ^ k / 2) := by omega
  have hlt : l.length < (2 * (l.length / 2 ^ k / 2) + 1) * 2 ^ k := by
    rw [← h2]
    have := Nat.div_add_mod l.length (2 ^ k)
    have hm := Nat.mod_lt l.length (show 0 < 2 ^ k from Nat.pow_pos (by omega))
    rw [Nat.add_mul, Nat.mul_comm]; omega
  rw [hr, div_succ, ← tr_two, ← h2]
  congr 2
  rw [h2]
  exact (List.drop_eq_nil_of_le (by omega)).symm
theorem wt_zero (l : List (List Int)) (W : Nat → List Int) : Wt l 0 W := fun k hk => by simp at hk
theorem wt_all {l : List (List Int)} {d : Nat} {W : Nat → List Int} (hW : Wt l (2 ^ d) W) : W d = tr d l := by
  have hp : 0 < 2 ^ d := Nat.pow_pos (by omega)
  have := hW d (by rw [Nat.div_self hp])
  rw [this, Nat.div_eq_of_lt (by rw [Nat.pow_succ]; omega)]
  simp
theorem wt_end {l : List (List Int)} {d : Nat} {r : List Int} (h : l.length < 2 ^ d) (hr : r = tr d (l.drop ((l.length / 2 ^ d) * 2 ^ d))) : r = tr d l := by
  rw [hr, Nat.div_eq_of_lt h]; simp
theorem fill_start (l : List (List Int)) : Z32 = tr 0 (l.drop ((l.length / 2 ^ 0) * 2 ^ 0)) := by simp [tr]
theorem put_start {l : List (List Int)} {n : Nat} {x : List Int} (h : l[n]? = some x) : x = tr 0 (l.drop ((n / 2 ^ 0) * 2 ^ 0)) := by
  have hn := (List.getElem?_eq_some_iff.1 h).1
  rw [List.drop_eq_getElem_cons (by simpa using hn)]
  have := (List.getElem?_eq_some_iff.1 h).2
  simp [tr, this]
/-- The other half's number. -/
def sib (j : Nat) : Nat := if j % 2 = 0 then j + 1 else j - 1
/-- A proof: from the leaf up. -/
def pf (d : Nat) (l : List (List Int)) (i : Nat) : List (List Int) := (List.range d).map fun k => tr k (l.drop (sib (i / 2 ^ k) * 2 ^ k))
/-- What a proof folds to. -/
def fo : Nat → List Int → List (List Int) → List Int
  | _, x, [] => x
  | i, x, p :: ps => fo (i / 2) (if i % 2 = 0 then pr x p else pr p x) ps
theorem fo_len {i : Nat} {x : List Int} {ps : List (List Int)} (hx : x.length = 32) : (fo i x ps).length = 32 := by
  induction ps generalizing i x with
  | nil => exact hx
  | cons p ps ih =>
    simp only [fo]
    apply ih
    split <;> exact pr_len _ _
/-- Noughts at the end are as good as nothing. -/
theorem tr_pad (d : Nat) : ∀ (l : List (List Int)) (m : Nat), tr d (l ++ List.replicate m Z32) = tr d l := by
  induction d with
  | zero =>
    intro l m
    cases l with
    | nil => cases m <;> simp [tr, List.replicate_succ]
    | cons a r => simp [tr]
  | succ d ih =>
    intro l m
    rw [tr_succ, tr_succ, ih, List.drop_append, List.drop_replicate, ih]
end Go.Proofs.Ytbfelelngoonjaa
/- Layer oracle: what the layers below give. -/
namespace Go.Proofs.Ytbfelelngoonjaa
open Go.RowKit
set_option maxRecDepth 100000
set_option linter.unusedVariables false
set_option linter.unusedSimpArgs false

theorem alloc_bel' (w : World) (o : Obj) : Below w.heap.size w (w.alloc o) := (Below.refl _ _).alloc (Nat.le_refl _) o
theorem h8_get {X : List Int} {t : Nat} (h : t < X.length) : (h8 X)[t]? = some (.int .u8 (bat X t)) := by
  simpa [h8] using by8_get h
theorem h8_one (X : List Int) : (h8 X).all (·.oneCell') = true := all_oneCell_toArray (by8_one X)
theorem h8_list (X : List Int) : (h8 X).toList = by8 X := rfl
theorem h8_Z : h8 Z32 = #[.int .u8 0, .int .u8 0, .int .u8 0, .int .u8 0, .int .u8 0, .int .u8 0, .int .u8 0, .int .u8 0, .int .u8 0, .int .u8 0, .int .u8 0, .int .u8 0, .int .u8 0, .int .u8 0, .int .u8 0, .int .u8 0, .int .u8 0, .int .u8 0, .int .u8 0, .int .u8 0, .int .u8 0, .int .u8 0, .int .u8 0, .int .u8 0, .int .u8 0, .int .u8 0, .int .u8 0, .int .u8 0, .int .u8 0, .int .u8 0, .int .u8 0, .int .u8 0] := rfl
theorem eqItems_two (w : World) (d : Nat) (C D : Array Value) (f g : Nat → Int) :
    ∀ is : List Nat, (∀ i ∈ is, C[i]? = some (.int .u8 (f i))) → (∀ i ∈ is, D[i]? = some (.int .u8 (g i))) → (Op.eqItems (d + 1) 5 1 C D is).run Try.prog w = .ok (is.all fun i => f i == g i) w
  | [], _, _ => by simp [Op.eqItems]
  | i :: is, h, h' => by
    have hi := h i (by simp)
    have hi' := h' i (by simp)
    have ih := eqItems_two w d C D f g is (fun j hj => h j (by simp [hj])) (fun j hj => h' j (by simp [hj]))
    have ha := @Try.isAgg5
    by_cases he : f i = g i
    · simp [Op.eqItems, part, ha, hi, hi', run_equalIn_int w d 5 .u8 .u8 _ _ Try.underlying5, ih, he]
    · simp [Op.eqItems, part, ha, hi, hi', run_equalIn_int w d 5 .u8 .u8 _ _ Try.underlying5, ih, he]
theorem bat_ext {X Y : List Int} (hX : X.length = 32) (hY : Y.length = 32) : ((List.range 32).all fun i => bat X i == bat Y i) = decide (X = Y) := by
  rw [Bool.eq_iff_iff]
  simp only [List.all_eq_true, List.mem_range, beq_iff_eq, decide_eq_true_eq]
  constructor
  · intro h
    apply List.ext_getElem (by omega)
    intro i h1 h2
    have := h i (by omega)
    simpa [bat, List.getD_eq_getElem?_getD, List.getElem?_eq_getElem, h1, h2] using this
  · rintro rfl i _; rfl
theorem run_eqIn24 {X Y : List Int} (hX : X.length = 32) (hY : Y.length = 32) (w : World) : (Op.equalIn 10000 32 (.agg (h8 X)) (.agg (h8 Y))).run Try.prog w = .ok (decide (X = Y)) w := by
  obtain ⟨i0, hi, -⟩ := info_parts info5
  have hc : Try.prog.cellsOf 5 = 1 := by kernel_rfl
  rw [run_equalIn_array w 9999 _ _ Try.underlying32 hi, hc, eqItems_two w 9998 _ _ (bat X) (bat Y) (List.range 32) (fun i h => h8_get (by rw [hX]; simpa using h)) (fun i h => h8_get (by rw [hY]; simpa using h)), bat_ext hX hY]
theorem run_eq24 {X Y : List Int} (hX : X.length = 32) (hY : Y.length = 32) (w : World) : (binOp .eql 32 (.agg (h8 X)) (.agg (h8 Y))).run Try.prog w = .ok (.bool (decide (X = Y))) w := by
  rw [run_eql_struct, run_eqIn24 hX hY]; rfl
theorem range_below {w w' : World} {B b o : Nat} {cs : List Value} (h : w.rangeAt b o cs) (hb : Below B w w') (hlt : b < B) : w'.rangeAt b o cs := fun j v hv => (hb.cell (p := ⟨b, o + j, none⟩) hlt).trans (h j v hv)
theorem there_below {w w' : World} {B b o n : Nat} (h : w.there b o n) (hb : Below B w w') (hlt : b < B) : w'.there b o n := fun j hj =>
  ⟨by rw [hb.cell (p := ⟨b, o + j, none⟩) hlt]; exact (h j hj).1, by have h2 := (h j hj).2; simp only [World.frozen?] at h2 ⊢; rw [hb.block b hlt]; exact h2⟩
theorem Arr.range {w : World} {g ty : Nat} {X : List Int} (h : Arr w g ty (h8 X)) : w.rangeAt g 0 (by8 X) := fun j v hv => by
  rw [Nat.zero_add, h.cell]; simpa [h8] using hv
/-- A slice of sums. -/
structure HS (N : Nat) (w : World) (sp : Option Addr) (n cap : Nat) (ls : List (List Int)) : Prop where
  len : Hid (n = ls.length)
  nil : sp = none → n = 0 ∧ cap = 0
  le : n ≤ cap
  big : cap ≤ 9223372036854775807
  small : n ≤ 140737488355328
  at0 : 0 < n → ∃ g off, sp = some ⟨g, off, none⟩ ∧ g < N ∧ ∀ i X, ls[i]? = some X → w.rangeAt g (off + i * 32) (by8 X)
  l32 : ∀ X ∈ ls, X.length = 32
theorem HS.mono {N N' : Nat} {w : World} {sp : Option Addr} {n cap : Nat} {ls : List (List Int)} (h : HS N w sp n cap ls) (hN : N ≤ N') : HS N' w sp n cap ls :=
  ⟨h.len, h.nil, h.le, h.big, h.small, fun h0 => let ⟨b, off, e, hb, hB⟩ := h.at0 h0; ⟨b, off, e, by omega, hB⟩, h.l32⟩
theorem HS.below {N : Nat} {w w' : World} {sp : Option Addr} {n cap : Nat} {ls : List (List Int)} (h : HS N w sp n cap ls) (hb : Below N w w') : HS N w' sp n cap ls :=
  ⟨h.len, h.nil, h.le, h.big, h.small, fun h0 => let ⟨b, off, e, hbN, hB⟩ := h.at0 h0; ⟨b, off, e, hbN, fun i X hX => range_below (hB i X hX) hb hbN⟩, h.l32⟩
theorem HS.here {N : Nat} {w : World} {sp : Option Addr} {n cap : Nat} {ls : List (List Int)} (h : HS N w sp n cap ls) : HS w.heap.size w sp n cap ls :=
  ⟨h.len, h.nil, h.le, h.big, h.small, fun h0 => by
    obtain ⟨b, off, e, hbN, hB⟩ := h.at0 h0
    refine ⟨b, off, e, ?_, hB⟩
    have hl : 0 < ls.length := by rw [← h.len.out]; exact h0
    have hX := hB 0 ls[0] (List.getElem?_eq_getElem hl)
    have h32 := h.l32 ls[0] (List.getElem_mem hl)
    exact block_lt_of_cell (hX 0 _ (by8_get (by omega))), h.l32⟩
theorem HS.nil0 (N : Nat) (w : World) : HS N w none 0 0 [] := ⟨rfl, fun _ => ⟨rfl, rfl⟩, Nat.le_refl _, by omega, by omega, fun h => absurd h (by omega), fun X h => by cases h⟩
/-- A part of it. -/
theorem HS.part {N : Nat} {w : World} {g off n cap : Nat} {ls : List (List Int)} (h : HS N w (some ⟨g, off, none⟩) n cap ls) (l k m : Nat) (hk : l + k ≤ n) (hkm : k ≤ m) (hm : m ≤ cap) (hpos : 0 < n) : HS N w (some ⟨g, off + l * 32, none⟩) k m ((ls.drop l).take k) := by
  have hl := h.len.out
  refine ⟨?_, (fun e => by cases e), hkm, by have := h.big; omega, by have := h.small; omega, fun h0 => ?_, fun X hX => h.l32 X (List.mem_of_mem_drop (List.mem_of_mem_take hX))⟩
  · show k = _
    rw [List.length_take, List.length_drop]; omega
  · obtain ⟨g', off', e, hb, hB⟩ := h.at0 hpos
    cases e
    refine ⟨_, _, rfl, hb, fun i X hX => ?_⟩
    have hi : i < k := by
      have := (List.getElem?_eq_some_iff.1 hX).1
      rw [List.length_take] at this; omega
    rw [List.getElem?_take_of_lt hi, List.getElem?_drop] at hX
    have := hB (l + i) X hX
    rw [Nat.add_mul, ← Nat.add_assoc] at this
    exact this
end Go.Proofs.Ytbfelelngoonjaa
