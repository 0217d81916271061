import Derived.Test.YtgjnbpimldjkpaaUe
namespace Go.Proofs.Ytgjnbpimldjkpaa
open Go.RowKit

theorem Arr.storeSha {w : World} {g t : Nat} {Z : Array Value} (h : Arr w g t Z) (hZ : Z.size = 32) (M : List Int) : (storeCells ⟨g, 0, none⟩ (sha M).toList).run Try.prog w = .ok () (w.setRow g (sha M)) := by
  have := run_storeCells_from (P := Try.prog) g t (sha M).toList 0 Z w h (by simp [sha_size, hZ]) (fun v hv => (Array.all_eq_true_iff_forall_mem.1 (sha_one M)) v (by simpa using hv))
  have e : (Z.toList.drop (sha M).size) = [] := by rw [sha_size]; exact List.drop_eq_nil_of_le (by simp [hZ])
  simpa [e] using this

set_option maxRecDepth 100000 in
set_option maxHeartbeats 1000000 in
theorem refPair_any (X Y : List Int) (w : World) (hX : X.length = 32) (hY : Y.length = 32) :
    Calls Try.prog 25 #[.agg (h8 X), .agg (h8 Y)] w fun e w' => e = .returned (.agg (sha (1 :: (X ++ Y)))) ∧ Below w.heap.size w w' := by
  have HX := Hid.mk' hX
  have HY := Hid.mk' hY
  clear hX hY
  go_enter Try.func25, Try.ntmps25
  go_upto_region 1 with fail
  obtain ⟨W, hWe⟩ : ∃ W : World, W = ((w.alloc (.cells (h8 X) 29)).alloc (.cells (h8 Y) 29)).alloc (.cells #[.int .u8 0, .int .u8 0, .int .u8 0, .int .u8 0, .int .u8 0, .int .u8 0, .int .u8 0, .int .u8 0, .int .u8 0, .int .u8 0, .int .u8 0, .int .u8 0, .int .u8 0, .int .u8 0, .int .u8 0, .int .u8 0, .int .u8 0, .int .u8 0, .int .u8 0, .int .u8 0, .int .u8 0, .int .u8 0, .int .u8 0, .int .u8 0, .int .u8 0, .int .u8 0, .int .u8 0, .int .u8 0, .int .u8 0, .int .u8 0, .int .u8 0, .int .u8 0] 29) := ⟨_, rfl⟩
  rw [← hWe]
  have hX0 : Arr W w.heap.size 29 (h8 X) := by rw [hWe]; exact ((Arr.new _ _ _).alloc _).alloc _
  have hY0 : Arr W (w.heap.size + 1) 29 (h8 Y) := by rw [hWe]; exact (show Arr ((w.alloc _).alloc _) (w.heap.size + 1) 29 (h8 Y) from (by simpa using Arr.new (w.alloc (.cells (h8 X) 29)) 29 (h8 Y))).alloc _
  have hZ0 : ∃ Z : Array Value, Z.size = 32 ∧ Arr W (w.heap.size + 2) 29 Z := by
    refine ⟨_, ?_, by rw [hWe]; exact Arr.new3 w _ _ 29 _⟩
    rfl
  have hB0 : Below w.heap.size w W := by rw [hWe]; exact (((Below.refl _ _).alloc (Nat.le_refl _) _).alloc (by simp) _).alloc (by simp; omega) _
  have hz0 : W.heap.size = w.heap.size + 3 := by rw [hWe]; simp
  clear hWe
  obtain ⟨Z, hZs, hZ0⟩ := hZ0
  have hlit : (W.alloc (.cells #[.int .u8 1] 5)).drew.ownsRow (w.heap.size + 3) 5 1 (.slice (some ⟨W.heap.size, 0, none⟩) 1 1) 1 (by8 [1]) := World.ownsRow_lit _ _ _ (by rw [hz0]; exact Nat.le_refl _) (by unfold maxLen; omega) rfl
  have HZ0 := Hid.mk' hz0
  clear hz0
  have hsz := sha_size (1 :: (X ++ Y))
  go_region_law ((first
    | (refine step_append_bytes (by rfl) (.tmp 5) (.tmp 6) (by rfl) (w.heap.size + 3) _ 1 [1] (by rfl) hlit (some ⟨w.heap.size, 0, none⟩) 32 32 X (by rfl) HX.out.symm (fun h => by cases h) (Arr.sl (hX0.alloc _)) (by omega) (by simp [HZ0.out]) ?_; intro v2 w2 hown2 hg2)
    | (refine step_append_bytes (by rfl) (.tmp 7) (.tmp 8) (by rfl) (w.heap.size + 3) _ 33 ([1] ++ X) (by rfl) hown2 (some ⟨w.heap.size + 1, 0, none⟩) 32 32 Y (by rfl) HY.out.symm (fun h => by cases h) (Arr.sl ((hY0.alloc _).drew.grown hg2 (ne_own hlit (by omega)))) (by omega) (by have := hg2.size; simp [HZ0.out] at this; omega) ?_; intro v3 w3 hown3 hg3; obtain ⟨g, c3, rfl, hn3, hc3, hgg, hBy, -⟩ := own_slice hown3 (by omega); have hZ3 := (((hZ0.alloc (.cells #[.int .u8 1] 5)).drew.grown hg2 (ne_own hlit (by omega))).grown hg3 (ne_own hown2 (by omega))))
    | (go_simp; go_at_call 17; refine (refSum_any (some ⟨g, 0, none⟩) 65 c3 (1 :: (X ++ Y)) _ hn3.out (fun h => by cases h) (fun _ => ⟨g, 0, rfl, hBy⟩) (by omega)).mono ?_; rintro e w4 ⟨rfl, hb4⟩; have hZ4 := hZ3.below hb4 hZ3.lt; have hst := hZ4.storeSha hZs (1 :: (X ++ Y)); go_simp)))
  go_wp2_with fail
  have hg2s := hg2.size
  simp [HZ0.out] at hg2s
  have hB3 : Below w.heap.size w w3 := ((hB0.alloc hB0.size _).drew.grown hg2 (by simp [HZ0.out]; omega) (fun k e => by have := own_ge hlit k e; omega)).grown hg3 (by omega) (fun k e => by have := own_ge hown2 k e; omega)
  exact bodyPost_ret (v := .agg (sha (1 :: (X ++ Y)))) (results_cell_row Try.results25 _ _ (w.heap.size + 2) 29 _ (0, 0) _ rfl (hZ4.setRow _) Try.underlying29 rfl (s24sha _)) rfl ⟨rfl, below_setRow (hB3.trans (hb4.mono hB3.size)) (by omega) _⟩
end Go.Proofs.Ytgjnbpimldjkpaa
