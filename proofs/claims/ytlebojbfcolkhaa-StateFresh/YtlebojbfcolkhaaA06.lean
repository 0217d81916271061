/- Ub, Ud. -/
import Derived.Test.YtlebojbfcolkhaaA05
namespace Go.Proofs.Ytlebojbfcolkhaa
open Go.RowKit
set_option maxRecDepth 100000

/-- How many noughts are put behind n bytes and the byte 128. -/
def nulls (n : Nat) : Nat := (119 - n % 64) % 64
def zerosL (k : Nat) : List Int := List.replicate k 0
/-- The first j of the length's eight bytes, the highest first. -/
def lenL (n j : Nat) : List Int := (List.range j).map fun t => (n : Int) * 8 / 2 ^ (8 * (7 - t)) % 256
def padL (L : List Int) : List Int := L ++ [128] ++ zerosL (nulls L.length) ++ lenL L.length 8
theorem zerosL_len (k : Nat) : (zerosL k).length = k := by simp [zerosL]
theorem lenL_len (n j : Nat) : (lenL n j).length = j := by simp [lenL]
theorem zerosL_succ (k : Nat) : zerosL k ++ [0] = zerosL (k + 1) := by simp [zerosL, List.replicate_succ']
theorem lenL_succ (n j : Nat) : lenL n j ++ [(n : Int) * 8 / 2 ^ (8 * (7 - j)) % 256] = lenL n (j + 1) := by simp [lenL, List.range_succ]
theorem nulls_mod (n : Nat) : (n + 1 + nulls n) % 64 = 56 := by unfold nulls; omega
theorem nulls_lt (n k : Nat) (h : k < nulls n) : (n + 1 + k) % 64 ≠ 56 := by unfold nulls at h; omega
theorem nulls_le (n : Nat) : nulls n ≤ 63 := by unfold nulls; omega

def vlen : Value → Nat | .slice _ l _ => l | _ => 0

set_option maxRecDepth 100000 in
set_option maxHeartbeats 1000000 in
theorem padded_any (sp : Option Addr) (n cap : Nat) (L : List Int) (w : World) (hn : Hid (n = L.length)) (hnil : sp = none → n = 0 ∧ cap = 0) (hS : SlL w sp L) (hb : n ≤ 140737488355000) :
    Calls Try.prog 86 #[.slice sp n cap] w fun e w' => ∃ v, e = .returned v ∧ w'.ownsRow w.heap.size 5 1 v (n + 1 + nulls n + 8) (by8 (padL L)) ∧ Below w.heap.size w w' := by
  have hnI : (n : Int) ≤ 140737488355000 := by omega
  have hn0 : (0 : Int) ≤ n := by omega
  have hlit : (w.alloc (.cells #[] 5)).ownsRow w.heap.size 5 1 (.slice (some ⟨w.heap.size, 0, none⟩) 0 0) 0 (by8 []) := World.ownsRow_lit _ _ _ (Nat.le_refl _) (by unfold maxLen; omega) rfl
  go_enter Try.func86, Try.ntmps86
  go_wp2_with (first
    | (at_builtin; refine append_bytes (by rfl) (.tmp 6) (.tmp 7) (by rfl) w.heap.size _ 0 [] (by rfl) hlit sp n cap L (by rfl) hn.out hnil (Sl.alloc hS _) (by omega) (by simp) ?_; intro v1 w1 hown1 hg1; have hs1 : w.heap.size ≤ w1.heap.size := (by have := hg1.size; simp at this; omega))
    | (at_builtin; refine append_bytes (by rfl) (.tmp 8) (.tmp 9) (by rfl) w.heap.size _ n ([] ++ L) (by rfl) ((show w1.ownsRow w.heap.size 5 1 v1 n (by8 ([] ++ L)) from (by simpa using hown1)).alloc _) (some ⟨w1.heap.size, 0, none⟩) 1 1 [128] (by rfl) (by rfl) (fun h => by cases h) (Arr.sl (Arr.new w1 5 _)) (by omega) (by simp; omega) ?_; intro v2 w2 hown2 hg2))
  have hs2 : w.heap.size ≤ w2.heap.size := by have := hg2.size; simp at this; omega
  have hB2 : Below w.heap.size w w2 := ((((Below.refl _ _).alloc (Nat.le_refl _) _).grown hg1 (by simp) (fun k e => by simp [Value.ownBlock] at e; omega)).alloc hs1 _).grown hg2 (by simp; omega) (fun k e => own_ge hown1 k e)
  have hown2 : w2.ownsRow w.heap.size 5 1 v2 (n + 1) (by8 (L ++ [128])) := by simpa using hown2
  clear hown1 hg1 hg2 hs1 hlit hS
  obtain ⟨g2, cap2, rfl, -, hc2, -⟩ := own_slice hown2 (by omega)
  go_loopw [3] (fun v wr => ∃ (k g c : Nat), k ≤ nulls n ∧ v = .slice (some ⟨g, 0, none⟩) (n + 1 + k) c ∧ wr.ownsRow w.heap.size 5 1 v (n + 1 + k) (by8 (L ++ [128] ++ zerosL k)) ∧ Below w.heap.size w wr)
    (fun v _ => n + 1 + nulls n - vlen v)
  case atStart => exact ⟨0, g2, cap2, by omega, rfl, by simpa [zerosL] using hown2, hB2⟩
  case round =>
    clear hown2 hB2 hs2
    obtain ⟨k, g, c, hk, rfl, hown, hbl⟩ := hrel
    have hkI : (k : Int) ≤ 63 := by have := nulls_le n; omega
    have hN := nulls_le n
    by_cases hlt : k < nulls n
    · have hm : ¬ ((n : Int) + 1 + k) % 64 = 56 := by have := nulls_lt n k hlt; omega
      have hm' : (((n : Int) + 1 + k) % 64 == 56) = false := by simpa using hm
      go_wp2_with (at_builtin; go_must (refine append_bytes (by rfl) (.tmp 15) (.tmp 16) (by rfl) w.heap.size _ (n + 1 + k) (L ++ [128] ++ zerosL k) (by rfl) (hown.alloc _) (some ⟨wr.heap.size, 0, none⟩) 1 1 [0] (by rfl) (by rfl) (fun h => by cases h) (Arr.sl (Arr.new wr 5 _)) (by omega) (by have := hbl.size; simp; omega) ?_; intro v3 w3 hown3 hg3))
      have hs3 : w.heap.size ≤ wr.heap.size := hbl.size
      have hB3 : Below w.heap.size w w3 := (hbl.alloc hs3 _).grown hg3 (by simp; omega) (fun k e => own_ge hown k e)
      obtain ⟨g3, c3, rfl, -, hc3, -⟩ := own_slice hown3 (by omega)
      go_roundw
      case rel => exact ⟨k + 1, g3, c3, by omega, by rw [Nat.add_assoc (n + 1) k 1], by rw [← zerosL_succ, ← List.append_assoc, ← Nat.add_assoc]; exact hown3, hB3⟩
      case measure => simp only [vlen]; omega
    · obtain rfl : k = nulls n := by omega
      have hm : ((n : Int) + 1 + nulls n) % 64 = 56 := by have := nulls_mod n; omega
      go_wp2
      obtain ⟨wo, rfl⟩ : ∃ wo : World, wo = wr := ⟨_, rfl⟩
      go_loopw [3, 5] (fun v i wr => ∃ (j g c : Nat), j ≤ 8 ∧ i = .int .i64 (7 - (j : Int)) ∧ v = .slice (some ⟨g, 0, none⟩) (n + 1 + nulls n + j) c ∧ wr.ownsRow w.heap.size 5 1 v (n + 1 + nulls n + j) (by8 (L ++ [128] ++ zerosL (nulls n) ++ lenL n j)) ∧ Below w.heap.size w wr)
        (fun v _ _ => n + 1 + nulls n + 8 - vlen v)
      case atStart => exact ⟨0, g, c, by omega, rfl, rfl, by simpa [lenL] using hown, hbl⟩
      case round =>
        clear hown hbl hm
        obtain ⟨j, g, c, hj, rfl, rfl, hown, hbl⟩ := hrel
        have hjI : (j : Int) ≤ 8 := by omega
        have hj0 : (0 : Int) ≤ j := by omega
        by_cases hlt : j < 8
        · have h7 : (0 : Int) ≤ 7 - (j : Int) := by omega
          have e8 : (8 * (7 - (j : Int))).toNat = 8 * (7 - j) := by omega
          go_wp2_with (at_builtin; go_must (refine append_bytes (by rfl) (.tmp 26) (.tmp 33) (by rfl) w.heap.size _ (n + 1 + nulls n + j) (L ++ [128] ++ zerosL (nulls n) ++ lenL n j) (by rfl) (hown.alloc _) (some ⟨wr.heap.size, 0, none⟩) 1 1 [(n : Int) * 8 / 2 ^ (8 * (7 - j)) % 256] (by rfl) (by rfl) (fun h => by cases h) (Arr.sl (Arr.new wr 5 _)) (by omega) (by have := hbl.size; simp; omega) ?_; intro v3 w3 hown3 hg3))
          have hs3 : w.heap.size ≤ wr.heap.size := hbl.size
          have hB3 : Below w.heap.size w w3 := (hbl.alloc hs3 _).grown hg3 (by simp; omega) (fun k e => own_ge hown k e)
          obtain ⟨g3, c3, rfl, -, hc3, -⟩ := own_slice hown3 (by omega)
          go_wp2
          go_roundw
          case rel => exact ⟨j + 1, g3, c3, by omega, by go_num, by rw [Nat.add_assoc (n + 1 + nulls n) j 1], by rw [← lenL_succ, ← List.append_assoc, ← Nat.add_assoc]; exact hown3, hB3⟩
          case measure => simp only [vlen]; omega
        · obtain rfl : j = 8 := by omega
          go_wp2
          go_ret
          refine ⟨_, rfl, ?_, hbl⟩
          have := hn.out
          unfold padL
          rw [← this]
          exact hown
end Go.Proofs.Ytlebojbfcolkhaa
namespace Go.Proofs.Ytlebojbfcolkhaa
open Go.RowKit
set_option maxRecDepth 100000

theorem word_congr {B B' : Nat → Int} (h : ∀ t, t < 64 → B t = B' t) {t : Nat} (ht : t < 16) : word B t = word B' t := by
  unfold word
  rw [h (4 * t) (by omega), h (4 * t + 1) (by omega), h (4 * t + 2) (by omega), h (4 * t + 3) (by omega)]
theorem wsn_congr {B B' : Nat → Int} (h : ∀ t, t < 64 → B t = B' t) (k : Nat) : wsn B k = wsn B' k := by
  induction k with
  | zero =>
    unfold wsn
    refine List.map_congr_left fun t ht => word_congr h ?_
    simpa using ht
  | succ k ih => rw [wsn, wsn, ih]
theorem WW_congr {B B' : Nat → Int} (h : ∀ t, t < 64 → B t = B' t) : WW B = WW B' := by
  funext t; unfold WW; rw [wsn_congr h]
theorem absorbN_congr {K B B' : Nat → Int} (s : St) (m : Nat) (h : ∀ t, t < 64 * m → B t = B' t) : absorbN K B s m = absorbN K B' s m := by
  induction m with
  | zero => rfl
  | succ m ih =>
    rw [absorbN, absorbN, ih (fun t ht => h t (by omega)), WW_congr (B := fun t => B (64 * m + t)) (B' := fun t => B' (64 * m + t)) (fun t ht => h _ (by omega))]
theorem absorbN_add (K B : Nat → Int) (s : St) (m j : Nat) : absorbN K B s (m + j) = absorbN K (fun t => B (64 * m + t)) (absorbN K B s m) j := by
  induction j with
  | zero => rfl
  | succ j ih =>
    rw [← Nat.add_assoc, absorbN, absorbN, ih]
    have : (fun t => B (64 * (m + j) + t)) = fun t => B (64 * m + (64 * j + t)) := by funext t; congr 1; omega
    rw [this]

theorem bat_app (A M : List Int) (t : Nat) : bat (A ++ M) t = if t < A.length then bat A t else bat M (t - A.length) := by
  simp only [bat, List.getD_eq_getElem?_getD]
  by_cases h : t < A.length
  · rw [if_pos h, List.getElem?_append_left h]
  · rw [if_neg h, List.getElem?_append_right (by omega)]
theorem bat_zeros (k t : Nat) : bat (zerosL k) t = 0 := by
  simp only [bat, zerosL, List.getD_eq_getElem?_getD]
  by_cases h : t < k
  · simp [h]
  · simp [h]
theorem bat_len {n j t : Nat} (h : t < j) : bat (lenL n j) t = (n : Int) * 8 / 2 ^ (8 * (7 - t)) % 256 := by
  simp only [bat, lenL, List.getD_eq_getElem?_getD, List.getElem?_map, List.getElem?_range h]; rfl
theorem padL_len (L : List Int) : (padL L).length = L.length + 1 + nulls L.length + 8 := by simp [padL, zerosL_len, lenL_len]; omega
theorem bat_pad (L : List Int) (t : Nat) (ht : t < L.length + 1 + nulls L.length + 8) :
    bat (padL L) t = if t < L.length then bat L t else if t = L.length then 128 else if t < L.length + 1 + nulls L.length then 0 else (L.length : Int) * 8 / 2 ^ (8 * (7 - (t - (L.length + 1 + nulls L.length)))) % 256 := by
  unfold padL
  rw [bat_app, bat_app, bat_app]
  simp only [List.length_append, zerosL_len, List.length_singleton]
  by_cases h1 : t < L.length
  · rw [if_pos (by omega), if_pos (by omega), if_pos h1, if_pos h1]
  · rw [if_neg h1]
    by_cases h2 : t = L.length
    · rw [if_pos (by omega), if_pos (by omega), if_neg h1, if_pos h2, h2, Nat.sub_self]; rfl
    · rw [if_neg h2]
      by_cases h3 : t < L.length + 1 + nulls L.length
      · rw [if_pos h3, if_neg (by omega), if_pos h3, bat_zeros, if_neg h1]
      · rw [if_neg h3, if_neg h3, bat_len (by omega), if_neg h1]

/-- How many blocks the last bytes fill. -/
def lastQ (r : Nat) : Nat := if 55 < r then 2 else 1
theorem pad_blocks (n : Nat) : n + 1 + nulls n + 8 = 64 * (n / 64 + lastQ (n % 64)) := by
  unfold nulls lastQ
  by_cases h : 55 < n % 64
  · rw [if_pos h]; omega
  · rw [if_neg h]; omega

theorem pad_block (L : List Int) (t : Nat) (ht : t < 64 * lastQ (L.length % 64)) :
    bat (padL L) (64 * (L.length / 64) + t) = padB (fun t => bat L (64 * (L.length / 64) + t)) (64 * ((L.length / 64 : Nat) : Int) + ((L.length % 64 : Nat) : Int)) (L.length % 64) (64 * lastQ (L.length % 64)) t := by
  have hp := pad_blocks L.length
  have hq : lastQ (L.length % 64) = 1 ∨ lastQ (L.length % 64) = 2 := by unfold lastQ; by_cases h : 55 < L.length % 64 <;> simp [h]
  have hnn : ((L.length : Nat) : Int) = 64 * ((L.length / 64 : Nat) : Int) + ((L.length % 64 : Nat) : Int) := by omega
  rw [bat_pad L _ (by omega), ← hnn]
  unfold padB baseB lenB
  by_cases h1 : t < L.length % 64
  · rw [if_pos (by omega), if_pos (by omega), if_pos h1]
  · rw [if_neg (by omega)]
    by_cases h2 : t = L.length % 64
    · rw [if_pos (by omega), if_pos (by omega), if_neg h1, if_pos h2]
    · rw [if_neg (by omega)]
      by_cases h3 : t < 64 * lastQ (L.length % 64) - 8
      · rw [if_pos (by omega), if_pos h3, if_neg h1, if_neg h2]
      · rw [if_neg (by omega), if_neg h3]
        congr 3
        omega

/-- The padded bytes, block by block, give the sum's words. -/
theorem absorb_pad (L : List Int) : absorbN kOf (bat (padL L)) h0St (L.length / 64 + lastQ (L.length % 64)) = shaSt (bat L) (L.length / 64) (L.length % 64) := by
  rw [absorbN_add, absorbN_congr (B := bat (padL L)) (B' := bat L) h0St (L.length / 64) (fun t ht => ?_)]
  · rw [absorbN_congr _ _ (pad_block L)]
    unfold shaSt lastQ
    by_cases h : 55 < L.length % 64
    · simp only [if_pos h]
    · simp only [if_neg h]
  · rw [bat_pad L t (by omega), if_pos (by omega)]
end Go.Proofs.Ytlebojbfcolkhaa
