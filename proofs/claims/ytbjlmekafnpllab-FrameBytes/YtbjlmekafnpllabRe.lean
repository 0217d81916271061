/- Layer rlp: slices.Reverse, highestFirst, head. -/
import Derived.Test.YtbjlmekafnpllabRc
namespace Go.Proofs.Ytbjlmekafnpllab
open Go.RowKit
set_option linter.unusedVariables false
set_option linter.unusedSimpArgs false

/-- The first k and the last k changed for each other. -/
def revK (L : List Int) (n k t : Nat) : Int := if t < k ∨ n - 1 - t < k then bat L (n - 1 - t) else bat L t
theorem rev_step {C : Array Value} {L : List Int} {n k : Nat} (h : ∀ t, t < n → C[t]? = some (.int .u8 (revK L n k t))) (hk : 2 * k + 1 < n) :
    ∀ t, t < n → ((C.setIfInBounds k (.int .u8 (bat L (n - 1 - k)))).setIfInBounds (n - 1 - k) (.int .u8 (bat L k)))[t]? = some (.int .u8 (revK L n (k + 1) t)) := by
  intro t ht
  have hs : n ≤ C.size := by
    have := h (n - 1) (by omega)
    have := (Array.getElem?_eq_some_iff.1 this).1
    omega
  rw [Array.getElem?_setIfInBounds]
  by_cases e : n - 1 - k = t
  · rw [if_pos e, Array.size_setIfInBounds, if_pos (by omega)]
    unfold revK; rw [if_pos (by omega)]; congr 3; omega
  · rw [if_neg e, Array.getElem?_setIfInBounds]
    by_cases e2 : k = t
    · rw [if_pos e2, if_pos (by omega)]
      unfold revK; rw [if_pos (by omega)]; congr 3; omega
    · rw [if_neg e2, h t ht]
      unfold revK
      by_cases h3 : t < k ∨ n - 1 - t < k
      · rw [if_pos h3, if_pos (by omega)]
      · rw [if_neg h3, if_neg (by omega)]
theorem rev_step' {C : Array Value} {L : List Int} {n k : Nat} (h : ∀ t, t < n → C[t]? = some (.int .u8 (revK L n k t))) (hk : 2 * k + 1 < n) :
    ∀ t, t < n → ((C.setIfInBounds (n - 1 - k) (.int .u8 (bat L k))).setIfInBounds k (.int .u8 (bat L (n - 1 - k))))[t]? = some (.int .u8 (revK L n (k + 1) t)) := by
  intro t ht
  have hs : n ≤ C.size := by
    have := h (n - 1) (by omega)
    have := (Array.getElem?_eq_some_iff.1 this).1
    omega
  rw [Array.getElem?_setIfInBounds]
  by_cases e : k = t
  · rw [if_pos e, Array.size_setIfInBounds, if_pos (by omega)]
    unfold revK; rw [if_pos (by omega)]; congr 3; omega
  · rw [if_neg e, Array.getElem?_setIfInBounds]
    by_cases e2 : n - 1 - k = t
    · rw [if_pos e2, if_pos (by omega)]
      unfold revK; rw [if_pos (by omega)]; congr 3; omega
    · rw [if_neg e2, h t ht]
      unfold revK
      by_cases h3 : t < k ∨ n - 1 - t < k
      · rw [if_pos h3, if_pos (by omega)]
      · rw [if_neg h3, if_neg (by omega)]
theorem revK_end {L : List Int} {n k : Nat} (hn : n = L.length) (hk : n ≤ 2 * k + 1) {t : Nat} (ht : t < n) : revK L n k t = bat L.reverse t := by
  unfold revK bat
  rw [List.getD_eq_getElem?_getD, List.getD_eq_getElem?_getD, List.getD_eq_getElem?_getD, List.getElem?_reverse (by omega), ← hn]
  by_cases h : t < k ∨ n - 1 - t < k
  · rw [if_pos h]
  · rw [if_neg h]; congr 2; omega

set_option maxRecDepth 100000 in
set_option maxHeartbeats 2000000 in
theorem reverse_arr (g n cap : Nat) (C0 : Array Value) (L : List Int) (w : World) (hn : Hid (n = L.length)) (hA0 : Arr w g 5 C0) (hC0 : ∀ t, t < n → C0[t]? = some (.int .u8 (bat L t))) (hb : n ≤ 140737488355328) :
    Calls Try.prog 57 #[.slice (some ⟨g, 0, none⟩) n cap] w fun e w' => e = .returned (.tuple #[]) ∧ (∃ C : Array Value, Arr w' g 5 C ∧ C.size = C0.size ∧ (∀ t, t < n → C[t]? = some (.int .u8 (bat L.reverse t))) ∧ (∀ t, n ≤ t → C[t]? = C0[t]?)) ∧ Below g w w' := by
  have HC0 := Hid.mk' hC0
  clear hC0
  go_enter Try.func57, Try.ntmps57
  go_wp2
  go_loopw [2, 3] (fun i j wr => ∃ (k : Nat) (C : Array Value), 2 * k ≤ n + 1 ∧ i = .int .i64 k ∧ j = .int .i64 ((n : Int) - 1 - k) ∧ Arr wr g 5 C ∧ C.size = C0.size ∧ Hid (∀ t, t < n → C[t]? = some (.int .u8 (revK L n k t))) ∧ Hid (∀ t, n ≤ t → C[t]? = C0[t]?) ∧ Below g w wr)
    (fun i _ _ => n - (intOf i).toNat)
  case atStart => exact ⟨0, C0, by omega, rfl, by simp, hA0, rfl, Hid.mk' (fun t ht => by rw [HC0.out t ht]; unfold revK; rw [if_neg (by omega)]), Hid.mk' (fun _ _ => rfl), Below.refl _ _⟩
  case round =>
    obtain ⟨k, C, hk, rfl, rfl, hA, hCs, hC, hC2, hbl⟩ := hrel
    by_cases hlt : 2 * k + 1 < n
    · have h3 : (k : Int) < (n : Int) - 1 - k := by omega
      have h4 : (0 : Int) ≤ k := by omega
      have h5 : (k : Int) < n := by omega
      have h6 : (0 : Int) ≤ (n : Int) - 1 - k := by omega
      have h7 : (n : Int) - 1 - k < n := by omega
      have h8 : ((n : Int) - 1 - k).toNat = n - 1 - k := by omega
      have c0 : wr.cell? ⟨g, k, none⟩ = some (.int .u8 (bat L k)) := by rw [hA.cell, hC.out k (by omega)]; unfold revK; rw [if_neg (by omega)]
      have c1 : wr.cell? ⟨g, n - 1 - k, none⟩ = some (.int .u8 (bat L (n - 1 - k))) := by rw [hA.cell, hC.out _ (by omega)]; unfold revK; rw [if_neg (by omega)]
      have f0 := hA.frozen k
      have f1 := hA.frozen (n - 1 - k)
      have hne : ¬ k = n - 1 - k := by omega
      go_wp2
      go_region
      all_goals
        go_wp2
        go_roundw
        case rel =>
          have hm : ∀ {D : Array Value} (_ : ∀ t, t < n → D[t]? = some (.int .u8 (revK L n (k + 1) t))), Hid (∀ t, t < n → D[t]? = some (.int .u8 (revK L n (k + 1) t))) := fun h => h
          first
            | exact ⟨k + 1, _, by omega, by go_num, by congr 1; simp [IntKind.wrap_i64]; omega, ((hA.set _ _).set _ _).drew, by simp [hCs], hm (rev_step hC.out hlt), Hid.mk' (fun t ht => by rw [Array.getElem?_setIfInBounds_ne (by omega), Array.getElem?_setIfInBounds_ne (by omega), hC2.out t ht]), ((hbl.setCell (Nat.le_refl _) _).setCell (Nat.le_refl _) _).drew⟩
            | exact ⟨k + 1, _, by omega, by go_num, by congr 1; simp [IntKind.wrap_i64]; omega, ((hA.set _ _).set _ _).drew, by simp [hCs], hm (rev_step' hC.out hlt), Hid.mk' (fun t ht => by rw [Array.getElem?_setIfInBounds_ne (by omega), Array.getElem?_setIfInBounds_ne (by omega), hC2.out t ht]), ((hbl.setCell (Nat.le_refl _) _).setCell (Nat.le_refl _) _).drew⟩
        case measure => simp [intOf]; omega
    · have h3 : ¬ (k : Int) < (n : Int) - 1 - k := by omega
      go_wp2
      go_end0
      exact ⟨rfl, ⟨C, hA, hCs, fun t ht => by rw [hC.out t ht, revK_end hn.out (by omega) ht], hC2.out⟩, hbl⟩
end Go.Proofs.Ytbjlmekafnpllab
