import Derived.Test.YtgjnbpimldjkpaaTm
namespace Go.Proofs.Ytgjnbpimldjkpaa
open Go.RowKit

/-- How many noughts are put behind n bytes and the byte 128. -/
def nulls (n : Nat) : Nat := (119 - n % 64) % 64
def zerosL (k : Nat) : List Int := List.replicate k 0
/-- The first j of the length's eight bytes, the highest first. -/
def lenL (n j : Nat) : List Int := (List.range j).map fun t => (n : Int) * 8 / 2 ^ (8 * (7 - t)) % 256
def padL (L : List Int) : List Int := L ++ [128] ++ zerosL (nulls L.length) ++ lenL L.length 8
theorem zerosL_len (k : Nat) : (zerosL k).length = k := by simp [zerosL]
theorem lenL_len (n j : Nat) : (lenL n j).length = j := by simp [lenL]
theorem zerosL_succ (k : Nat) : zerosL k ++ [0] = zerosL (k + 1) := by simp [zerosL, List.replicate_succ']
theorem lenL_succ (n j : Nat) : lenL n j ++ [(n : Int) * 8 / 2 ^ (8 * (7 - j)) % 256] = lenL n (j + 1) := by simp [lenL, List.range_succ]
theorem nulls_mod (n : Nat) : (n + 1 + nulls n) % 64 = 56 := by unfold nulls; omega
theorem nulls_lt (n k : Nat) (h : k < nulls n) : (n + 1 + k) % 64 ≠ 56 := by unfold nulls at h; omega
theorem nulls_le (n : Nat) : nulls n ≤ 63 := by unfold nulls; omega

def vlen : Value → Nat | .slice _ l _ => l | _ => 0

set_option maxRecDepth 100000 in
set_option maxHeartbeats 1000000 in
theorem padded_any (sp : Option Addr) (n cap : Nat) (L : List Int) (w : World) (hn : Hid (n = L.length)) (hnil : sp = none → n = 0 ∧ cap = 0) (hS : SlL w sp L) (hb : n ≤ 140737488355000) :
    Calls Try.prog 31 #[.slice sp n cap] w fun e w' => ∃ v, e = .returned v ∧ w'.ownsRow w.heap.size 5 1 v (n + 1 + nulls n + 8) (by8 (padL L)) ∧ Below w.heap.size w w' := by
  have hnI : (n : Int) ≤ 140737488355000 := by omega
  have hn0 : (0 : Int) ≤ n := by omega
  have hlit : (w.alloc (.cells #[] 5)).ownsRow w.heap.size 5 1 (.slice (some ⟨w.heap.size, 0, none⟩) 0 0) 0 (by8 []) := World.ownsRow_lit _ _ _ (Nat.le_refl _) (by unfold maxLen; omega) rfl
  go_enter Try.func31, Try.ntmps31
  go_wp2_with (first
    | (at_builtin; refine append_bytes (by rfl) (.tmp 6) (.tmp 7) (by rfl) w.heap.size _ 0 [] (by rfl) hlit sp n cap L (by rfl) hn.out hnil (Sl.alloc hS _) (by omega) (by simp) ?_; intro v1 w1 hown1 hg1; have hs1 : w.heap.size ≤ w1.heap.size := (by have := hg1.size; simp at this; omega))
    | (at_builtin; refine append_bytes (by rfl) (.tmp 8) (.tmp 9) (by rfl) w.heap.size _ n ([] ++ L) (by rfl) ((show w1.ownsRow w.heap.size 5 1 v1 n (by8 ([] ++ L)) from (by simpa using hown1)).alloc _) (some ⟨w1.heap.size, 0, none⟩) 1 1 [128] (by rfl) (by rfl) (fun h => by cases h) (Arr.sl (Arr.new w1 5 _)) (by omega) (by simp; omega) ?_; intro v2 w2 hown2 hg2))
  have hs2 : w.heap.size ≤ w2.heap.size := by have := hg2.size; simp at this; omega
  have hB2 : Below w.heap.size w w2 := ((((Below.refl _ _).alloc (Nat.le_refl _) _).grown hg1 (by simp) (fun k e => by simp [Value.ownBlock] at e; omega)).alloc hs1 _).grown hg2 (by simp; omega) (fun k e => own_ge hown1 k e)
  have hown2 : w2.ownsRow w.heap.size 5 1 v2 (n + 1) (by8 (L ++ [128])) := by simpa using hown2
  clear hown1 hg1 hg2 hs1 hlit hS
  obtain ⟨g2, cap2, rfl, -, hc2, -⟩ := own_slice hown2 (by omega)
  go_loopw [3] (fun v wr => ∃ (k g c : Nat), k ≤ nulls n ∧ v = .slice (some ⟨g, 0, none⟩) (n + 1 + k) c ∧ wr.ownsRow w.heap.size 5 1 v (n + 1 + k) (by8 (L ++ [128] ++ zerosL k)) ∧ Below w.heap.size w wr)
    (fun v _ => n + 1 + nulls n - vlen v)
  case atStart => exact ⟨0, g2, cap2, by omega, rfl, by simpa [zerosL] using hown2, hB2⟩
  case round =>
    clear hown2 hB2 hs2
    obtain ⟨k, g, c, hk, rfl, hown, hbl⟩ := hrel
    have hkI : (k : Int) ≤ 63 := by have := nulls_le n; omega
    have hN := nulls_le n
    by_cases hlt : k < nulls n
    · have hm : ¬ ((n : Int) + 1 + k) % 64 = 56 := by have := nulls_lt n k hlt; omega
      have hm' : (((n : Int) + 1 + k) % 64 == 56) = false := by simpa using hm
      go_wp2_with (at_builtin; go_must (refine append_bytes (by rfl) (.tmp 15) (.tmp 16) (by rfl) w.heap.size _ (n + 1 + k) (L ++ [128] ++ zerosL k) (by rfl) (hown.alloc _) (some ⟨wr.heap.size, 0, none⟩) 1 1 [0] (by rfl) (by rfl) (fun h => by cases h) (Arr.sl (Arr.new wr 5 _)) (by omega) (by have := hbl.size; simp; omega) ?_; intro v3 w3 hown3 hg3))
      have hs3 : w.heap.size ≤ wr.heap.size := hbl.size
      have hB3 : Below w.heap.size w w3 := (hbl.alloc hs3 _).grown hg3 (by simp; omega) (fun k e => own_ge hown k e)
      obtain ⟨g3, c3, rfl, -, hc3, -⟩ := own_slice hown3 (by omega)
      go_roundw
      case rel => exact ⟨k + 1, g3, c3, by omega, by rw [Nat.add_assoc (n + 1) k 1], by rw [← zerosL_succ, ← List.append_assoc, ← Nat.add_assoc]; exact hown3, hB3⟩
      case measure => simp only [vlen]; omega
    · obtain rfl : k = nulls n := by omega
      have hm : ((n : Int) + 1 + nulls n) % 64 = 56 := by have := nulls_mod n; omega
      go_wp2
      obtain ⟨wo, rfl⟩ : ∃ wo : World, wo = wr := ⟨_, rfl⟩
      go_loopw [3, 5] (fun v i wr => ∃ (j g c : Nat), j ≤ 8 ∧ i = .int .i64 (7 - (j : Int)) ∧ v = .slice (some ⟨g, 0, none⟩) (n + 1 + nulls n + j) c ∧ wr.ownsRow w.heap.size 5 1 v (n + 1 + nulls n + j) (by8 (L ++ [128] ++ zerosL (nulls n) ++ lenL n j)) ∧ Below w.heap.size w wr)
        (fun v _ _ => n + 1 + nulls n + 8 - vlen v)
      case atStart => exact ⟨0, g, c, by omega, rfl, rfl, by simpa [lenL] using hown, hbl⟩
      case round =>
        clear hown hbl hm
        obtain ⟨j, g, c, hj, rfl, rfl, hown, hbl⟩ := hrel
        have hjI : (j : Int) ≤ 8 := by omega
        have hj0 : (0 : Int) ≤ j := by omega
        by_cases hlt : j < 8
        · have h7 : (0 : Int) ≤ 7 - (j : Int) := by omega
          have e8 : (8 * (7 - (j : Int))).toNat = 8 * (7 - j) := by omega
          go_wp2_with (at_builtin; go_must (refine append_bytes (by rfl) (.tmp 26) (.tmp 33) (by rfl) w.heap.size _ (n + 1 + nulls n + j) (L ++ [128] ++ zerosL (nulls n) ++ lenL n j) (by rfl) (hown.alloc _) (some ⟨wr.heap.size, 0, none⟩) 1 1 [(n : Int) * 8 / 2 ^ (8 * (7 - j)) % 256] (by rfl) (by rfl) (fun h => by cases h) (Arr.sl (Arr.new wr 5 _)) (by omega) (by have := hbl.size; simp; omega) ?_; intro v3 w3 hown3 hg3))
          have hs3 : w.heap.size ≤ wr.heap.size := hbl.size
          have hB3 : Below w.heap.size w w3 := (hbl.alloc hs3 _).grown hg3 (by simp; omega) (fun k e => own_ge hown k e)
          obtain ⟨g3, c3, rfl, -, hc3, -⟩ := own_slice hown3 (by omega)
          go_wp2
          go_roundw
          case rel => exact ⟨j + 1, g3, c3, by omega, by go_num, by rw [Nat.add_assoc (n + 1 + nulls n) j 1], by rw [← lenL_succ, ← List.append_assoc, ← Nat.add_assoc]; exact hown3, hB3⟩
          case measure => simp only [vlen]; omega
        · obtain rfl : j = 8 := by omega
          go_wp2
          go_ret
          refine ⟨_, rfl, ?_, hbl⟩
          have := hn.out
          unfold padL
          rw [← this]
          exact hown
end Go.Proofs.Ytgjnbpimldjkpaa
