/- Layer interp: what the layers below give. -/
import Derived.Test.YtmljihggooaboaaX15
import Derived.Test.YtmljihggooaboaaX01
import Derived.Test.YtmljihggooaboaaX16
import Derived.Test.YtmljihggooaboaaX17
import Derived.Test.YtmljihggooaboaaX18
import Derived.BigQuiet
import Derived.BigRegion
import Derived.Deep.DeepCutAuto
import Derived.Deep.DrawnRows
import Derived.Deep.QuietTactic
import Derived.Deep.RegionHeld3
import Derived.Deep.RegionWith
import Derived.Deep.WholeRow
import Derived.Laws.CopyOwn
import Derived.WalkKit
import Derived.WalkLawsBesides
import Derived.WalkSpells
namespace Go.Proofs.Ytmljihggooaboaa
open Go.RowKit
set_option maxRecDepth 100000
set_option linter.unusedVariables false
set_option linter.unusedSimpArgs false

theorem Arr.cells8 {w : World} {g t : Nat} {s : St} (h : Arr w g t s.cells) : w.cell? ⟨g, 0, none⟩ = some (.int .u32 s.a) ∧ w.cell? ⟨g, 1, none⟩ = some (.int .u32 s.b) ∧ w.cell? ⟨g, 2, none⟩ = some (.int .u32 s.c) ∧ w.cell? ⟨g, 3, none⟩ = some (.int .u32 s.d) ∧ w.cell? ⟨g, 4, none⟩ = some (.int .u32 s.e) ∧ w.cell? ⟨g, 5, none⟩ = some (.int .u32 s.f) ∧ w.cell? ⟨g, 6, none⟩ = some (.int .u32 s.g) ∧ w.cell? ⟨g, 7, none⟩ = some (.int .u32 s.h) :=
  ⟨h.cell 0, h.cell 1, h.cell 2, h.cell 3, h.cell 4, h.cell 5, h.cell 6, h.cell 7⟩
theorem Arr.store8 {w : World} {g t : Nat} {r : St} (h : Arr w g t r.cells) (s : St) : (storeCells ⟨g, 0, none⟩ s.cells.toList).run Try.prog w = .ok () (w.setRow g s.cells) := by
  have := run_storeCells_from (P := Try.prog) g t s.cells.toList 0 r.cells w h rfl (fun v hv => (Array.all_eq_true_iff_forall_mem.1 (St.one s)) v (by simpa using hv))
  simpa using this
/-- The eight words behind all blocks: m whole ones, and the last n bytes. -/
def shaSt (B : Nat → Int) (m r : Nat) : St :=
  absorbN kOf (padB (fun t => B (64 * m + t)) (64 * m + r) r (if 55 < r then 128 else 64)) (absorbN kOf B h0St m) (if 55 < r then 2 else 1)
theorem shaSt_two {B : Nat → Int} {m r : Nat} (h : 55 < r) : shaSt B m r = absorbN kOf (padB (fun t => B (64 * m + t)) (64 * m + r) r 128) (absorbN kOf B h0St m) 2 := by simp [shaSt, h]
theorem shaSt_one {B : Nat → Int} {m r : Nat} (h : ¬ 55 < r) : shaSt B m r = absorbN kOf (padB (fun t => B (64 * m + t)) (64 * m + r) r 64) (absorbN kOf B h0St m) 1 := by simp [shaSt, h]
set_option maxRecDepth 100000 in
set_option maxHeartbeats 2000000 in
theorem sum_some (b off m r cap : Nat) (B : Nat → Int) (w : World) (hB : Bytes w b off (64 * m + r) B) (hr : r < 64) (hcap : 64 * m + r ≤ cap) (hcap2 : 64 * m + r ≤ 140737488355328) :
    Calls Try.prog 62 #[.slice (some ⟨b, off, none⟩) (64 * m + r) cap] w fun e w' => ∃ C : Array Value, e = .returned (.agg C) ∧ C.size = 32 ∧ (∀ t, t < 32 → C[t]? = some (.int .u8 (outB (shaSt B m r) t))) ∧ Below w.heap.size w w' := by
  have hrI : (r : Int) < 64 := by omega
  have hr0 : (0 : Int) ≤ r := by omega
  have hm0 : (0 : Int) ≤ m := by omega
  have hcI : (64 * (m : Int) + r) ≤ cap := by omega
  have hcI2 : 64 * (m : Int) + r ≤ 140737488355328 := by omega
  have hcI3 : (64 * (m : Int)) ≤ cap := by omega
  have hmod : (64 * (m : Int) + r) % 64 = r := by omega
  go_enter Try.func62, Try.ntmps62
  go_upto_region 4 with (first
    | (go_at_call 76; go_must (refine (roundNumbers_any _).mono ?_; rintro e w1 ⟨rfl, hb1⟩))
    | (refine wpList_store_new w1 _ 98 (by rfl) 98 (.tmp 3) (.tmp 6) (by rfl) kCells (by rfl) (by rfl) (Eq.trans size46 (by rfl)) (by rfl) (one_ints kCells_size kCells_get) ?_)
    | (go_at_call 77; go_must (refine (firstWords_any _).mono ?_; rintro e w2 ⟨rfl, hb2⟩))
    | (refine wpList_store_new w2 _ 84 (by rfl) 84 (.tmp 4) (.tmp 7) (by rfl) h0St.cells (by rfl) (by rfl) (s48 _) (by rfl) (St.one _) ?_))
  have hA4 : Arr (w2.alloc (.cells h0St.cells 84)) w2.heap.size 84 h0St.cells := Arr.new _ _ _
  have hK3 : Arr (w2.alloc (.cells h0St.cells 84)) w1.heap.size 98 kCells := ((Arr.new w1 98 kCells).below hb2 (by simp)).alloc _
  have hg34 : w.heap.size < w1.heap.size := by have := hb1.size; simp at this; omega
  have hg45 : w1.heap.size < w2.heap.size := by have := hb2.size; simp at this; omega
  have hbl : Below w.heap.size w (w2.alloc (.cells h0St.cells 84)) :=
    ((((((Below.refl _ _).alloc (Nat.le_refl _) _).trans (hb1.mono (by simp))).alloc (by omega) _).trans (hb2.mono (by simp; omega))).alloc (by omega) _)
  have hR : ∃ Z : Array Value, Z.size = 32 ∧ Arr (w2.alloc (.cells h0St.cells 84)) w.heap.size 55 Z :=
    ⟨_, by rfl, ((((Arr.new w 55 _).below hb1 (by simp)).alloc _).below hb2 (by simp; omega)).alloc _⟩
  obtain ⟨Z, hZs, hZ⟩ := hR
  clear hb1 hb2
  generalize w2.alloc (.cells h0St.cells 84) = W at *
  generalize w2.heap.size = g4 at *
  generalize w1.heap.size = g3 at *
  go_cut [] from 6 (fun wc => Arr wc g4 84 (absorbN kOf B h0St m).cells ∧ Arr wc g3 98 kCells ∧ Arr wc w.heap.size 55 Z ∧ Below w.heap.size w wc)
  case first =>
    obtain ⟨c0, c1, c2, c3, c4, c5, c6, c7⟩ := hA4.cells8
    have hBW : Bytes W.drew b off (64 * m) B := fun t ht => (hbl.cell (p := ⟨b, off + t, none⟩) (block_lt_of_cell (hB t (by omega)))).trans (hB t (by omega))
    have hKW : Row W.drew g3 64 kOf := hK3.row kCells_get
    go_region_with (first
      | (go_at_call 78; go_must (refine (absorb_any h0St b off (64 * m) m g3 kOf B _ hBW (by omega) (by omega) hK3.lt hKW).mono ?_; rintro e w3 ⟨rfl, hb3⟩; have hA5 := hA4.drew.below hb3 hA4.lt; have hst := hA5.store8 (absorbN kOf B h0St m))))
    all_goals
      go_wp2_with fail
      go_meet
      exact ⟨hA5.setRow _, (hK3.drew.below hb3 hK3.lt).setRowOther _ (by omega), (hZ.drew.below hb3 hZ.lt).setRowOther _ (by omega), below_setRow (hbl.drew.trans (hb3.mono hbl.size)) (by omega) _⟩
  case rest =>
    clear hA4 hK3 hbl hZ
    obtain ⟨hA4, hK3, hZ, hbl⟩ := hcut
    go_upto_region 5 with fail
    have hl : 64 * m + r - 64 * m = r := by omega
    have hS : Sl wc.drew (some ⟨b, off + 64 * m, none⟩) r (fun t => B (64 * m + t)) := fun h0 => ⟨b, off + 64 * m, rfl, fun t ht => by
      have h1 := hB (64 * m + t) (by omega)
      have := (hbl.cell (p := ⟨b, off + (64 * m + t), none⟩) (block_lt_of_cell h1)).trans h1
      rw [← Nat.add_assoc] at this; exact this⟩
    obtain ⟨c0, c1, c2, c3, c4, c5, c6, c7⟩ := hA4.cells8
    go_cut [] from 6 (fun wc => Arr wc g4 84 (shaSt B m r).cells ∧ Arr wc w.heap.size 55 Z ∧ Below w.heap.size w wc)
    case first =>
      by_cases h55 : 55 < r
      · go_region_with (first
        | (go_at_call 79; go_must (refine (lastBlocks_any _ r _ 128 _ (fun t => B (64 * m + t)) wc.drew hS (Or.inl ⟨h55, rfl⟩) hr (by omega) (by omega)).mono ?_; rintro e w4 ⟨C, rfl, hC, hCs, hCw, hb4⟩; have hA6 := hA4.drew.below hb4 hA4.lt; have hK6 := (hK3.drew.below hb4 hK3.lt).row kCells_get; have hg3 := (hK3.drew.below hb4 hK3.lt).lt; have hBy : Bytes w4 wc.heap.size 0 (64 * 2) (padB (fun t => B (64 * m + t)) (64 * m + r) r 128) := (fun t ht => by rw [Nat.zero_add]; exact (hC.cell t).trans (hCw t ht)); obtain ⟨c0, c1, c2, c3, c4, c5, c6, c7⟩ := hA6.cells8; clear hCw))
        | (go_at_call 78; go_must (refine (absorb_any (absorbN kOf B h0St m) wc.heap.size 0 128 2 g3 kOf _ w4 hBy (by omega) (by omega) hg3 hK6).mono ?_; rintro e w5 ⟨rfl, hb5⟩; have hA7 := hA6.below hb5 hA6.lt; have hst := hA7.store8 (absorbN kOf (padB (fun t => B (64 * m + t)) (64 * m + r) r 128) (absorbN kOf B h0St m) 2))))
        all_goals
          go_wp2_with fail
          go_meet
          rw [shaSt_two h55]
          exact ⟨hA7.setRow _, (((hZ.drew.below hb4 hZ.lt).below hb5 (hZ.drew.below hb4 hZ.lt).lt)).setRowOther _ (by omega), below_setRow ((hbl.drew.trans (hb4.mono hbl.size)).trans (hb5.mono (Nat.le_trans hbl.size hb4.size))) (by omega) _⟩
      · by_cases hc : 64 * m = cap
        · obtain rfl : r = 0 := by omega
          subst hc
          have hS0 : Sl wc.drew (some ⟨b, off, none⟩) 0 (fun t => B (64 * m + t)) := fun h0 => absurd h0 (by omega)
          have e0 : (64 * (m : Int) + ((0 : Nat) : Int)) = 64 * m := by omega
          go_region_with (first
            | (go_at_call 79; go_must (refine (lastBlocks_any (some ⟨b, off, none⟩) 0 0 64 (64 * m) (fun t => B (64 * m + t)) wc.drew hS0 (Or.inr ⟨Nat.le_of_not_lt h55, rfl⟩) hr (by omega) (by omega)).mono ?_; rintro e w4 ⟨C, rfl, hC, hCs, hCw, hb4⟩; have hA6 := hA4.drew.below hb4 hA4.lt; have hK6 := (hK3.drew.below hb4 hK3.lt).row kCells_get; have hg3 := (hK3.drew.below hb4 hK3.lt).lt; have hBy : Bytes w4 wc.heap.size 0 (64 * 1) (padB (fun t => B (64 * m + t)) (64 * m) 0 64) := (fun t ht => by rw [Nat.zero_add]; exact (hC.cell t).trans (hCw t ht)); obtain ⟨c0, c1, c2, c3, c4, c5, c6, c7⟩ := hA6.cells8; clear hCw))
            | (go_at_call 78; go_must (refine (absorb_any (absorbN kOf B h0St m) wc.heap.size 0 64 1 g3 kOf _ w4 hBy (by omega) (by omega) hg3 hK6).mono ?_; rintro e w5 ⟨rfl, hb5⟩; have hA7 := hA6.below hb5 hA6.lt; have hst := hA7.store8 (absorbN kOf (padB (fun t => B (64 * m + t)) (64 * m) 0 64) (absorbN kOf B h0St m) 1))))
          all_goals
            go_wp2_with fail
            go_meet
            rw [shaSt_one h55, e0]
            exact ⟨hA7.setRow _, (((hZ.drew.below hb4 hZ.lt).below hb5 (hZ.drew.below hb4 hZ.lt).lt)).setRowOther _ (by omega), below_setRow ((hbl.drew.trans (hb4.mono hbl.size)).trans (hb5.mono (Nat.le_trans hbl.size hb4.size))) (by omega) _⟩
        · have hc1 : 64 * m < cap := by omega
          have hc2 : (64 * (m : Int)) < cap := by omega
          go_region_with (first
            | (go_at_call 79; go_must (refine (lastBlocks_any _ r _ 64 _ (fun t => B (64 * m + t)) wc.drew hS (Or.inr ⟨Nat.le_of_not_lt h55, rfl⟩) hr (by omega) (by omega)).mono ?_; rintro e w4 ⟨C, rfl, hC, hCs, hCw, hb4⟩; have hA6 := hA4.drew.below hb4 hA4.lt; have hK6 := (hK3.drew.below hb4 hK3.lt).row kCells_get; have hg3 := (hK3.drew.below hb4 hK3.lt).lt; have hBy : Bytes w4 wc.heap.size 0 (64 * 1) (padB (fun t => B (64 * m + t)) (64 * m + r) r 64) := (fun t ht => by rw [Nat.zero_add]; exact (hC.cell t).trans (hCw t ht)); obtain ⟨c0, c1, c2, c3, c4, c5, c6, c7⟩ := hA6.cells8; clear hCw))
            | (go_at_call 78; go_must (refine (absorb_any (absorbN kOf B h0St m) wc.heap.size 0 64 1 g3 kOf _ w4 hBy (by omega) (by omega) hg3 hK6).mono ?_; rintro e w5 ⟨rfl, hb5⟩; have hA7 := hA6.below hb5 hA6.lt; have hst := hA7.store8 (absorbN kOf (padB (fun t => B (64 * m + t)) (64 * m + r) r 64) (absorbN kOf B h0St m) 1))))
          all_goals
            go_wp2_with fail
            go_meet
            rw [shaSt_one h55]
            exact ⟨hA7.setRow _, (((hZ.drew.below hb4 hZ.lt).below hb5 (hZ.drew.below hb4 hZ.lt).lt)).setRowOther _ (by omega), below_setRow ((hbl.drew.trans (hb4.mono hbl.size)).trans (hb5.mono (Nat.le_trans hbl.size hb4.size))) (by omega) _⟩
    case rest =>
      clear hA4 hK3 hbl hZ hS c0 c1 c2 c3 c4 c5 c6 c7
      obtain ⟨hA4, hZ, hbl⟩ := hcut
      go_wp2_with (first
        | (refine wpList_load_row rfl 84 (.tmp 4) rfl g4 rfl 84 (shaSt B m r).cells (0, 0) _ hA4 Try.underlying84 rfl (s48 _) ?_)
        | (go_at_call 80; go_must (refine (fromWords_any (shaSt B m r) _).mono ?_; rintro e w6 ⟨C, rfl, hCs, hCw, hb6⟩; have hZ6 := hZ.below hb6 hZ.lt))
        | (refine wpList_store_arr rfl 55 (.tmp 2) (.tmp 29) rfl w.heap.size C rfl rfl 55 Z hZ6 (by rw [hCs]; exact size24) (by rw [hCs]; exact hZs) (one_ints hCs hCw) ?_))
      exact bodyPost_ret (v := .agg C) (results_cell_row Try.results62 _ _ w.heap.size 55 C (0, 0) _ rfl (hZ6.setRow C) Try.underlying55 rfl (by rw [hCs]; exact size24)) rfl ⟨C, rfl, hCs, hCw, below_setRow (hbl.trans (hb6.mono hbl.size)) (Nat.le_refl _) C⟩
end Go.Proofs.Ytmljihggooaboaa
