import Derived.Test.YtfmjapopnomkkaaTl
namespace Go.Proofs.Ytfmjapopnomkkaa
open Go.RowKit

theorem Bytes.below {w w' : World} {b off n : Nat} {B : Nat → Int} (h : Bytes w b off n B) (hb : Below w.heap.size w w') : Bytes w' b off n B := fun t ht => by
  rw [hb.cell (p := ⟨b, off + t, none⟩) (block_lt_of_cell (h t ht))]; exact h t ht
theorem Bytes.grownLit {w w' : World} {b off n c l : Nat} {B : Nat → Int} {o : Obj} (h : Bytes w b off n B) (hg : (w.alloc o).grownBy w' (Value.slice (some ⟨w.heap.size, 0, none⟩) l c).ownBlock) : Bytes w' b off n B := fun t ht => by
  have hb := block_lt_of_cell (h t ht)
  simp only at hb
  rw [World.cell?_of_block (w := w.alloc o) (a := ⟨b, off + t, none⟩) (hg.block b (by simp; omega) (by simp [Value.ownBlock]; omega)), World.cell?_alloc_lt _ _ _ hb]
  exact h t ht
theorem Arr.bel {w w' : World} {g ty : Nat} {C : Array Value} (h : Arr w g ty C) (hb : Below w.heap.size w w') : Arr w' g ty C := h.below hb h.lt
theorem s24h8 {X : List Int} (h : X.length = 32) : (Try.prog.info? 24).map (·.size) = some (h8 X).size := by rw [h8_size, h]; exact size24

set_option maxHeartbeats 1000000 in
theorem tagged_walk (sp : Option Addr) (n cap : Nat) (L X Y : List Int) (w : World) (hn : n = L.length) (hnil : sp = none → n = 0 ∧ cap = 0) (hS : SlL w sp L) (hb : n ≤ 140737488355000) (hX : X.length = 32) (hY : Y.length = 32) :
    Calls Try.prog 6 #[.slice sp n cap, .agg (h8 X), .agg (h8 Y)] w fun e w' => e = .returned (.bool true) ∧ Below w.heap.size w w' := by
  have hnI : (n : Int) ≤ 140737488355000 := by omega
  have hn0 : (0 : Int) ≤ n := by omega
  have HN := Hid.mk' hn
  have HX := Hid.mk' hX
  have HY := Hid.mk' hY
  clear hn hX hY
  have hX0 : Arr ((w.alloc (.cells (h8 X) 24)).alloc (.cells (h8 Y) 24)) w.heap.size 24 (h8 X) := (Arr.new _ _ _).alloc _
  have hY0 : Arr ((w.alloc (.cells (h8 X) 24)).alloc (.cells (h8 Y) 24)) (w.heap.size + 1) 24 (h8 Y) := by simpa using Arr.new (w.alloc (.cells (h8 X) 24)) 24 (h8 Y)
  have hS0 : SlL ((w.alloc (.cells (h8 X) 24)).alloc (.cells (h8 Y) 24)) sp L := Sl.alloc (Sl.alloc hS _) _
  have hB0 : Below w.heap.size w ((w.alloc (.cells (h8 X) 24)).alloc (.cells (h8 Y) 24)) := ((Below.refl _ _).alloc (Nat.le_refl _) _).alloc (by simp) _
  have hz0 : ((w.alloc (.cells (h8 X) 24)).alloc (.cells (h8 Y) 24)).heap.size = w.heap.size + 2 := by simp
  go_enter Try.func6, Try.ntmps6
  go_upto_region 1 with fail
  generalize (w.alloc (.cells (h8 X) 24)).alloc (.cells (h8 Y) 24) = W at *
  have hlit : (W.alloc (.cells #[.int .u8 1] 5)).drew.ownsRow (w.heap.size + 2) 5 1 (.slice (some ⟨W.heap.size, 0, none⟩) 1 1) 1 (by8 [1]) := World.ownsRow_lit _ _ _ (by rw [hz0]; exact Nat.le_refl _) (by unfold maxLen; omega) rfl
  have HZ0 := Hid.mk' hz0
  clear hz0
  go_cut [7] from 8 (fun v wc => ∃ g cap, v = .slice (some ⟨g, 0, none⟩) 65 cap ∧ 65 ≤ cap ∧ Bytes wc g 0 ([1] ++ X ++ Y).length (bat ([1] ++ X ++ Y)) ∧ Arr wc w.heap.size 24 (h8 X) ∧ Arr wc (w.heap.size + 1) 24 (h8 Y) ∧ SlL wc sp L ∧ Below w.heap.size w wc)
  case first =>
    go_region_law ((first
      | (refine step_append_bytes (by rfl) (.tmp 8) (.tmp 9) (by rfl) (w.heap.size + 2) _ 1 [1] (by rfl) hlit (some ⟨w.heap.size, 0, none⟩) 32 32 X (by rfl) HX.out.symm (fun h => by cases h) (Arr.sl (hX0.alloc _)) (by omega) (by simp [HZ0.out]) ?_; intro v2 w2 hown2 hg2)
      | (refine step_append_bytes (by rfl) (.tmp 10) (.tmp 11) (by rfl) (w.heap.size + 2) _ 33 ([1] ++ X) (by rfl) hown2 (some ⟨w.heap.size + 1, 0, none⟩) 32 32 Y (by rfl) HY.out.symm (fun h => by cases h) (Arr.sl ((hY0.alloc _).drew.grown hg2 (ne_own hlit (by omega)))) (by omega) (by have := hg2.size; simp [HZ0.out] at this; omega) ?_; intro v3 w3 hown3 hg3)))
    go_wp2_with fail
    go_meet
    obtain ⟨g, cap3, rfl, -, hc3, -, hBy, -⟩ := own_slice hown3 (by omega)
    refine ⟨g, cap3, rfl, hc3, hBy, ((hX0.alloc _).drew.grown hg2 (ne_own hlit (by omega))).grown hg3 (ne_own hown2 (by omega)), ((hY0.alloc _).drew.grown hg2 (ne_own hlit (by omega))).grown hg3 (ne_own hown2 (by omega)), ?_, ?_⟩
    · exact ((Sl.alloc hS0 _).grown (w := (W.alloc _).drew) hg2 (fun b off e h0 => ne_own hlit (by subst e; have := Sl.lt hS h0; omega))).grown hg3 (fun b off e h0 => ne_own hown2 (by subst e; have := Sl.lt hS h0; omega))
    · have := HZ0.out
      have h2 := hg2.size
      simp at h2
      exact ((hB0.alloc (by omega) _).drew.grown hg2 (by simp; omega) (fun k e => by have := own_ge hlit k e; omega)).grown hg3 (by omega) (fun k e => by have := own_ge hown2 k e; omega)
  case rest =>
    clear hX0 hY0 hS0 hB0 hlit HZ0
    obtain ⟨g, capp, rfl, hcp, hBy, hX1, hY1, hS1, hB1⟩ := hcut
    have heq : ∀ (M : List Int) (u : World), (Op.equalIn 10000 24 (.agg (sha M)) (.agg (sha M))).run Try.prog u = .ok true u := fun M u => eq24 _ u
    have hsX := s24h8 HX.out
    have hsY := s24h8 HY.out
    have hpl : Hid (65 = (1 :: (X ++ Y)).length) := by show _ = _; simp [HX.out, HY.out]
    go_wp2_with (first
      | (go_at_call 24; go_must (refine (anchored_any _).mono ?_; rintro e w4 ⟨rfl, hb4⟩; have hX4 := hX1.bel hb4; have hY4 := hY1.bel hb4; have hS4 : SlL w4 sp L := Sl.below hS1 hb4; have hBy4 := hBy.below hb4; have hB4 := hB1.trans (hb4.mono hB1.size)))
      | (go_at_call 10; go_must (refine (leaf_any sp n cap L _ HN.out hnil hS4 hb).mono ?_; rintro e w5 ⟨rfl, hb5⟩; have hX5 := hX4.bel hb5; have hY5 := hY4.bel hb5; have hS5 : SlL w5 sp L := Sl.below hS4 hb5; have hBy5 := hBy4.below hb5; have hB5 := hB4.trans (hb5.mono hB4.size)))
      | (at_builtin; go_must (refine append_bytes (by rfl) (.tmp 17) (.tmp 18) (by rfl) w5.heap.size _ 1 [0] (by rfl) (World.ownsRow_lit _ _ _ (Nat.le_refl _) (by unfold maxLen; omega) rfl) sp n cap L (by rfl) HN.out hnil (Sl.alloc hS5 _) (by omega) (by simp) ?_; intro v6 w6 hown6 hg6; have hx6 : ∀ b, b < w5.heap.size → some b ≠ (Value.slice (some ⟨w5.heap.size, 0, none⟩) 1 1).ownBlock := (fun b h => by simp [Value.ownBlock]; omega); have hX6 := (hX5.alloc _).grown hg6 (hx6 _ hX5.lt); have hY6 := (hY5.alloc _).grown hg6 (hx6 _ hY5.lt); have hBy6 : Bytes w6 g 0 (1 :: (X ++ Y)).length (bat (1 :: (X ++ Y))) := hBy5.grownLit hg6; have hB6 : Below w.heap.size w w6 := (hB5.alloc hB5.size _).grown hg6 (by have := hB5.size; simp; omega) (fun k e => by have := hB5.size; simp [Value.ownBlock] at e; omega); obtain ⟨g6, cap6, rfl, hn6, hc6, -, hBz, -⟩ := own_slice hown6 (by omega)))
      | (go_at_call_of 8 g6; go_must (refine (sum_n g6 0 (1 + n) cap6 (0 :: L) _ hn6 hBz hc6 (by omega)).mono ?_; rintro e w7 ⟨rfl, hb7⟩; have hX7 := hX6.bel hb7; have hY7 := hY6.bel hb7; have hBy7 := hBy6.below hb7; have hB7 := hB6.trans (hb7.mono hB6.size)))
      | (refine load_arr (by rfl) 24 (.tmp 4) (by rfl) w.heap.size (by rfl) 24 (h8 X) 32 5 hX7 Try.underlying24 hsX ?_)
      | (refine load_arr (by rfl) 24 (.tmp 5) (by rfl) (w.heap.size + 1) (by rfl) 24 (h8 Y) 32 5 hY7 Try.underlying24 hsY ?_)
      | (go_at_call 12; go_must (refine (pair_any X Y _ HX.out HY.out).mono ?_; rintro e w8 ⟨rfl, hb8⟩; have hBy8 := hBy7.below hb8; have hB8 := hB7.trans (hb8.mono hB7.size)))
      | (go_at_call_of 8 g; go_must (refine (sum_n g 0 65 capp (1 :: (X ++ Y)) _ hpl hBy8 hcp (by omega)).mono ?_; rintro e w9 ⟨rfl, hb9⟩; have hB9 := hB8.trans (hb9.mono hB8.size)))
      | (go_at_call 14; go_must (refine (rounds_two _ _ _).mono ?_; rintro e w10 ⟨rfl, rfl⟩)))
    go_ret
    exact ⟨rfl, hB9⟩
end Go.Proofs.Ytfmjapopnomkkaa
