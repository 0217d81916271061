/- Layer rlp: anchored. -/
import Derived.Test.YtbjlmekafnpllabRs
namespace Go.Proofs.Ytbjlmekafnpllab
open Go.RowKit
set_option linter.unusedVariables false
set_option linter.unusedSimpArgs false

theorem bs_lit {w : World} {g : Nat} {L : List Int} (hb : Bts L) (hl : L.length ≤ 1000) (h : ∀ t, t < L.length → w.cell? ⟨g, t, none⟩ = some (.int .u8 (bat L t))) (c : Nat) (hc : L.length ≤ c) (hc2 : c ≤ 1000) : BS w.heap.size w (some ⟨g, 0, none⟩) L.length c L :=
  ⟨rfl, (fun e => by cases e), hc, by omega, by omega, fun h0 => ⟨g, 0, rfl, block_lt_of_cell (h 0 h0), fun t ht => by rw [Nat.zero_add]; exact h t ht⟩, hb⟩

def ancW (w : World) : World := ((w.alloc (.cells #[.int .u8 100, .int .u8 111, .int .u8 103] 5 (3, 4))).alloc (.cells #[.int .u8 0] 5)).alloc (.cells #[.bool false, .slice (some ⟨w.heap.size, 0, none⟩) 3 3, .slice none 0 0, .bool false, .slice (some ⟨w.heap.size + 1, 0, none⟩) 1 1, .slice none 0 0] 59)
theorem anc_size (w : World) : (ancW w).heap.size = w.heap.size + 3 := by simp [ancW]
theorem anc0 (w : World) : (ancW w).heap[w.heap.size]? = some (.cells #[.int .u8 100, .int .u8 111, .int .u8 103] 5 (3, 4)) := by
  unfold ancW
  rw [Below.heap_alloc _ _ _ (by simp; omega), Below.heap_alloc _ _ _ (by simp)]
  exact heap_alloc_new w _
theorem anc1 (w : World) : (ancW w).heap[w.heap.size + 1]? = some (.cells #[.int .u8 0] 5) := by
  unfold ancW
  rw [Below.heap_alloc _ _ _ (by simp)]
  have := heap_alloc_new (w.alloc (.cells #[.int .u8 100, .int .u8 111, .int .u8 103] 5 (3, 4))) (.cells #[.int .u8 0] 5)
  simpa using this
theorem anc2 (w : World) : (ancW w).heap[w.heap.size + 2]? = some (.cells #[.bool false, .slice (some ⟨w.heap.size, 0, none⟩) 3 3, .slice none 0 0, .bool false, .slice (some ⟨w.heap.size + 1, 0, none⟩) 1 1, .slice none 0 0] 59) := by
  unfold ancW
  have := heap_alloc_new ((w.alloc (.cells #[.int .u8 100, .int .u8 111, .int .u8 103] 5 (3, 4))).alloc (.cells #[.int .u8 0] 5)) (.cells #[.bool false, .slice (some ⟨w.heap.size, 0, none⟩) 3 3, .slice none 0 0, .bool false, .slice (some ⟨w.heap.size + 1, 0, none⟩) 1 1, .slice none 0 0] 59)
  simpa using this
theorem anc_is (w : World) : Is (ancW w).heap.size (ancW w) 16 (.agg #[.bool true, .slice none 0 0, .slice (some ⟨w.heap.size + 2, 0, none⟩) 2 2]) (some [197, 131, 100, 111, 103, 0]) := by
  have hc0 : ∀ t, t < [100, 111, 103].length → (ancW w).cell? ⟨w.heap.size, t, none⟩ = some (.int .u8 (bat [100, 111, 103] t)) := fun t ht => by
    rw [cell_of_row _ _ _ _ _ _ (anc0 w)]
    match t, ht with
    | 0, _ => rfl
    | 1, _ => rfl
    | 2, _ => rfl
  have hc1 : ∀ t, t < [0].length → (ancW w).cell? ⟨w.heap.size + 1, t, none⟩ = some (.int .u8 (bat [0] t)) := fun t ht => by
    rw [cell_of_row _ _ _ _ _ _ (anc1 w)]
    match t, ht with
    | 0, _ => rfl
  have hb0 := bs_lit (w := ancW w) (L := [100, 111, 103]) (by intro x hx; simp at hx; omega) (by simp) hc0 3 (by simp) (by omega)
  have hb1 := bs_lit (w := ancW w) (L := [0]) (by intro x hx; simp at hx; omega) (by simp) hc1 1 (by simp) (by omega)
  have i0 : Is (ancW w).heap.size (ancW w) 15 (.agg #[.bool false, .slice (some ⟨w.heap.size, 0, none⟩) 3 3, .slice none 0 0]) (some [131, 100, 111, 103]) :=
    ⟨false, _, 3, 3, [100, 111, 103], none, 0, 0, [], ⟨rfl, hb0, IS.nil0 _ _⟩, .inl ⟨rfl, rfl⟩⟩
  have i1 : Is (ancW w).heap.size (ancW w) 15 (.agg #[.bool false, .slice (some ⟨w.heap.size + 1, 0, none⟩) 1 1, .slice none 0 0]) (some [0]) :=
    ⟨false, _, 1, 1, [0], none, 0, 0, [], ⟨rfl, hb1, IS.nil0 _ _⟩, .inl ⟨rfl, rfl⟩⟩
  refine ⟨true, none, 0, 0, [], _, 2, 2, [.agg #[.bool false, .slice (some ⟨w.heap.size, 0, none⟩) 3 3, .slice none 0 0], .agg #[.bool false, .slice (some ⟨w.heap.size + 1, 0, none⟩) 1 1, .slice none 0 0]], ⟨rfl, BS.nil0 _ _, ⟨rfl, (fun e => by cases e), by omega, by omega, by omega, fun _ => ⟨_, 0, rfl, by rw [anc_size]; omega, fun i v hv => ?_⟩⟩⟩, .inr (.inr ⟨rfl, rfl, [some [131, 100, 111, 103], some [0]], rfl, fun i v o hv ho => ?_, rfl⟩)⟩
  · match i, hv with
    | 0, hv => simp at hv; subst hv; exact ⟨_, _, _, rfl, cell_of_row _ _ _ _ _ _ (anc2 w), cell_of_row _ _ _ _ _ _ (anc2 w), cell_of_row _ _ _ _ _ _ (anc2 w)⟩
    | 1, hv => simp at hv; subst hv; exact ⟨_, _, _, rfl, cell_of_row _ _ _ _ _ _ (anc2 w), cell_of_row _ _ _ _ _ _ (anc2 w), cell_of_row _ _ _ _ _ _ (anc2 w)⟩
    | (i + 2), hv => simp at hv
  · match i, hv, ho with
    | 0, hv, ho => simp at hv ho; subst hv; subst ho; exact i0
    | 1, hv, ho => simp at hv ho; subst hv; subst ho; exact i1
    | (i + 2), hv, _ => simp at hv

theorem anc_encode (w : World) : Calls Try.prog 24 #[.agg #[.bool true, .slice none 0 0, .slice (some ⟨w.heap.size + 2, 0, none⟩) 2 2]] (ancW w) fun e w' => ∃ v', e = .returned (.tuple #[v', .int .i64 0]) ∧ w'.ownsRow (w.heap.size + 3) 5 1 v' 6 (by8 [197, 131, 100, 111, 103, 0]) ∧ Below (w.heap.size + 3) (ancW w) w' := by
  refine (encode_any _ _ _ _ (anc_is w)).mono ?_
  rintro e w' ⟨hb, ⟨F, v', hF, hle, he, hown⟩ | ⟨hno, -⟩⟩
  · cases hF
    rw [anc_size] at hb hown
    exact ⟨v', he, hown, hb⟩
  · have := hno _ rfl
    simp at this

theorem anc_encode' (w : World) : Calls Try.prog 24 #[.agg #[.bool true, .slice none 0 0, .slice (some ⟨w.heap.size + 1 + 1, 0, none⟩) 2 2]] (((w.alloc (.cells #[.int .u8 100, .int .u8 111, .int .u8 103] 5 (3, 3 + 1))).alloc (.cells #[.int .u8 0] 5)).alloc (.cells #[.bool false, .slice (some ⟨w.heap.size, 0, none⟩) 3 3, .slice none 0 0, .bool false, .slice (some ⟨w.heap.size + 1, 0, none⟩) 1 1, .slice none 0 0] 59)) fun e w' => ∃ v', e = .returned (.tuple #[v', .int .i64 0]) ∧ w'.ownsRow w.heap.size 5 1 v' 6 (by8 [197, 131, 100, 111, 103, 0]) ∧ Below w.heap.size w w' := by
  have hancb : Below w.heap.size w (ancW w) := (((Below.refl _ _).alloc (Nat.le_refl _) _).alloc (by simp) _).alloc (by simp; omega) _
  refine Calls.mono (anc_encode w) ?_
  rintro e w' ⟨v', h1, h2, h3⟩
  exact ⟨v', h1, own_mono h2 (by omega), hancb.trans (h3.mono (by omega))⟩
theorem anc_decode (w : World) : Calls Try.prog 28 #[.slice (some ⟨w.heap.size, 0, none⟩) 2 2] (w.alloc (.cells #[.int .u8 129, .int .u8 5] 5)) fun e w' => e = .returned (.tuple #[.agg #[.bool false, .slice none 0 0, .slice none 0 0], .int .i64 8]) ∧ Below w.heap.size w w' := by
  have hw8 : whole [129, 5] = 8 := by kernel_rfl
  have hb : BS (w.alloc (.cells #[.int .u8 129, .int .u8 5] 5)).heap.size (w.alloc (.cells #[.int .u8 129, .int .u8 5] 5)) (some ⟨w.heap.size, 0, none⟩) 2 2 [129, 5] :=
    bs_lit (L := [129, 5]) (by intro x hx; simp at hx; omega) (by simp) (fun t ht => by
      rw [(Arr.new w 5 #[.int .u8 129, .int .u8 5]).cell]
      match t, ht with
      | 0, _ => rfl
      | 1, _ => rfl) 2 (by simp) (by omega)
  refine (decode_any _ _ 2 2 [129, 5] _ hb).mono ?_
  rintro e w' ⟨hb2, ⟨h0, -⟩ | ⟨-, h⟩⟩
  · rw [hw8] at h0; omega
  · rw [hw8] at h
    exact ⟨h, ((Below.refl _ _).alloc (Nat.le_refl _) _).trans (hb2.mono (by simp))⟩
theorem anc_same (w : World) (g : Nat) (hg : g = w.heap.size) (sp : Option Addr) (cap : Nat) (N : Nat) (hS : BS N w sp 6 cap [197, 131, 100, 111, 103, 0]) :
    Calls Try.prog 12 #[.slice sp 6 cap, .slice (some ⟨g, 0, none⟩) 6 6] (w.alloc (.cells #[.int .u8 197, .int .u8 131, .int .u8 100, .int .u8 111, .int .u8 103, .int .u8 0] 5)) fun e w' => e = .returned (.bool true) ∧ Below w.heap.size w w' := by
  subst hg
  have hb : BS (w.alloc (.cells #[.int .u8 197, .int .u8 131, .int .u8 100, .int .u8 111, .int .u8 103, .int .u8 0] 5)).heap.size (w.alloc (.cells #[.int .u8 197, .int .u8 131, .int .u8 100, .int .u8 111, .int .u8 103, .int .u8 0] 5)) (some ⟨w.heap.size, 0, none⟩) 6 6 [197, 131, 100, 111, 103, 0] :=
    bs_lit (L := [197, 131, 100, 111, 103, 0]) (by intro x hx; simp at hx; omega) (by simp) (fun t ht => by
      rw [(Arr.new w 5 #[.int .u8 197, .int .u8 131, .int .u8 100, .int .u8 111, .int .u8 103, .int .u8 0]).cell]
      match t, ht with
      | 0, _ => rfl
      | 1, _ => rfl
      | 2, _ => rfl
      | 3, _ => rfl
      | 4, _ => rfl
      | 5, _ => rfl) 6 (by simp) (by omega)
  refine (same01_any _ _ _ _ _ _ _ _ _ _ _ (hS.here.below ((Below.refl _ _).alloc (Nat.le_refl _) _)) hb).mono ?_
  rintro e w' ⟨rfl, rfl⟩
  exact ⟨rfl, (Below.refl _ _).alloc (Nat.le_refl _) _⟩

end Go.Proofs.Ytbjlmekafnpllab
