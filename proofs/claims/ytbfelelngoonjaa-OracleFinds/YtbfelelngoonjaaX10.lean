/- Ts, Tu, Cd. -/
import Derived.Test.YtbfelelngoonjaaX01
import Derived.Test.YtbfelelngoonjaaX02
import Derived.Test.YtbfelelngoonjaaX03
import Derived.Test.YtbfelelngoonjaaX04
import Derived.Test.YtbfelelngoonjaaX09
import Derived.Test.YtbfelelngoonjaaX05
import Derived.BigQuiet
import Derived.BigRegion
import Derived.Deep.DeepCutAuto
import Derived.Deep.DrawnRows
import Derived.Deep.QuietTactic
import Derived.Deep.RegionHeld3
import Derived.Deep.RegionWith
import Derived.Deep.WholeRow
import Derived.Laws.CopyOwn
import Derived.WalkKit
import Derived.WalkLawsBesides
import Derived.WalkSpells
import Derived.ChangeKeysEq
import Derived.Deep.RegionLaw
import Derived.Laws.AppendOwnNone
import Derived.Laws.BytesArg
import Derived.Lib.SlBytesConst
import Derived.Test.YtbfelelngoonjaaX06
import Derived.Deep.MidRow
import Derived.Laws.BitsLemmas
import Derived.LoopIn
import Derived.LoopNIn
import Derived.OwnWalkIn
import Derived.RangeFuncBound
import Derived.RangeFuncCalls
import Derived.RangeFuncLeaves
import Derived.RangeFuncNested
import Derived.RangeFuncRecord
import Derived.Shelf.Abstract
import Derived.Shelf.RegionOpen
import Derived.TacticsInMore
/- Layer oracle: what the layers below give. -/
namespace Go.Proofs.Ytbfelelngoonjaa
open Go.RowKit
set_option maxRecDepth 100000
set_option linter.unusedVariables false
set_option linter.unusedSimpArgs false

set_option maxRecDepth 100000 in
set_option maxHeartbeats 2000000 in
theorem sum_none (B : Nat → Int) (w : World) :
    Calls Try.prog 26 #[.slice none 0 0] w fun e w' => ∃ C : Array Value, e = .returned (.agg C) ∧ C.size = 32 ∧ (∀ t, t < 32 → C[t]? = some (.int .u8 (outB (shaSt B 0 0) t))) ∧ Below w.heap.size w w' := by
  have hS0 : ∀ (u : World) (q : Option Addr), Sl u q 0 B := fun _ _ h0 => absurd h0 (by omega)
  have E1 : shaSt B 0 0 = absorbN kOf (padB B 0 0 64) h0St 1 := by rw [shaSt_one (by omega), show (fun t => B (64 * 0 + t)) = B from funext fun t => by rw [Nat.mul_zero, Nat.zero_add]]; rfl
  have E1 := Hid.mk' E1
  go_enter Try.func26, Try.ntmps26
  go_upto_region 4 with (first
    | (go_at_call 46; go_must (refine (roundNumbers_any _).mono ?_; rintro e w1 ⟨rfl, hb1⟩))
    | (refine wpList_store_new w1 _ 100 (by rfl) 100 (.tmp 3) (.tmp 6) (by rfl) kCells (by rfl) (by rfl) (Eq.trans size46 (by rfl)) (by rfl) (one_ints kCells_size kCells_get) ?_)
    | (go_at_call 47; go_must (refine (firstWords_any _).mono ?_; rintro e w2 ⟨rfl, hb2⟩))
    | (refine wpList_store_new w2 _ 79 (by rfl) 79 (.tmp 4) (.tmp 7) (by rfl) h0St.cells (by rfl) (by rfl) (s48 _) (by rfl) (St.one _) ?_))
  have hA4 : Arr (w2.alloc (.cells h0St.cells 79)) w2.heap.size 79 h0St.cells := Arr.new _ _ _
  have hK3 : Arr (w2.alloc (.cells h0St.cells 79)) w1.heap.size 100 kCells := ((Arr.new w1 100 kCells).below hb2 (by simp)).alloc _
  have hg34 : w.heap.size < w1.heap.size := by have := hb1.size; simp at this; omega
  have hg45 : w1.heap.size < w2.heap.size := by have := hb2.size; simp at this; omega
  have hbl : Below w.heap.size w (w2.alloc (.cells h0St.cells 79)) :=
    ((((((Below.refl _ _).alloc (Nat.le_refl _) _).trans (hb1.mono (by simp))).alloc (by omega) _).trans (hb2.mono (by simp; omega))).alloc (by omega) _)
  have hR : ∃ Z : Array Value, Z.size = 32 ∧ Arr (w2.alloc (.cells h0St.cells 79)) w.heap.size 32 Z :=
    ⟨_, by rfl, ((((Arr.new w 32 _).below hb1 (by simp)).alloc _).below hb2 (by simp; omega)).alloc _⟩
  obtain ⟨Z, hZs, hZ⟩ := hR
  clear hb1 hb2
  generalize w2.alloc (.cells h0St.cells 79) = W at *
  generalize w2.heap.size = g4 at *
  generalize w1.heap.size = g3 at *
  go_cut [] from 6 (fun wc => Arr wc g4 79 h0St.cells ∧ Arr wc g3 100 kCells ∧ Arr wc w.heap.size 32 Z ∧ Below w.heap.size w wc)
  case first =>
    obtain ⟨c0, c1, c2, c3, c4, c5, c6, c7⟩ := hA4.cells8
    go_region_with (first
      | (go_at_call 48; go_must (refine (absorb_zero h0St _ _ g3 _).mono ?_; rintro e w3 ⟨rfl, hb3⟩; have hA5 := hA4.drew.below hb3 hA4.lt; have hst := hA5.store8 h0St)))
    all_goals
      go_wp2_with fail
      go_meet
      exact ⟨hA5.setRow _, (hK3.drew.below hb3 hK3.lt).setRowOther _ (by omega), (hZ.drew.below hb3 hZ.lt).setRowOther _ (by omega), below_setRow (hbl.drew.trans (hb3.mono hbl.size)) (by omega) _⟩
  case rest =>
    clear hA4 hK3 hbl hZ
    obtain ⟨hA4, hK3, hZ, hbl⟩ := hcut
    go_upto_region 5 with fail
    obtain ⟨c0, c1, c2, c3, c4, c5, c6, c7⟩ := hA4.cells8
    go_cut [] from 6 (fun wc => Arr wc g4 79 (shaSt B 0 0).cells ∧ Arr wc w.heap.size 32 Z ∧ Below w.heap.size w wc)
    case first =>
      go_region_with (first
        | (go_at_call 49; go_must (refine (lastBlocks_any _ 0 _ 64 0 B wc.drew (hS0 _ _) (Or.inr ⟨by omega, rfl⟩) (by omega) (by omega) (by omega)).mono ?_; rintro e w4 ⟨C, rfl, hC, hCs, hCw, hb4⟩; have hA6 := hA4.drew.below hb4 hA4.lt; have hK6 := (hK3.drew.below hb4 hK3.lt).row kCells_get; have hg3 := (hK3.drew.below hb4 hK3.lt).lt; have hBy : Bytes w4 wc.heap.size 0 (64 * 1) (padB B 0 0 64) := (fun t ht => by rw [Nat.zero_add]; exact (hC.cell t).trans (hCw t ht)); obtain ⟨c0, c1, c2, c3, c4, c5, c6, c7⟩ := hA6.cells8; clear hCw))
        | (go_at_call 48; go_must (refine (absorb_any h0St wc.heap.size 0 64 1 g3 kOf _ w4 hBy (by omega) (by omega) hg3 hK6).mono ?_; rintro e w5 ⟨rfl, hb5⟩; have hA7 := hA6.below hb5 hA6.lt; have hst := hA7.store8 (absorbN kOf (padB B 0 0 64) h0St 1))))
      all_goals
        go_wp2_with fail
        go_meet
        rw [E1.out]
        exact ⟨hA7.setRow _, (((hZ.drew.below hb4 hZ.lt).below hb5 (hZ.drew.below hb4 hZ.lt).lt)).setRowOther _ (by omega), below_setRow ((hbl.drew.trans (hb4.mono hbl.size)).trans (hb5.mono (Nat.le_trans hbl.size hb4.size))) (by omega) _⟩
    case rest =>
      clear hA4 hK3 hbl hZ c0 c1 c2 c3 c4 c5 c6 c7
      obtain ⟨hA4, hZ, hbl⟩ := hcut
      go_wp2_with (first
        | (refine wpList_load_row rfl 79 (.tmp 4) rfl g4 rfl 79 (shaSt B 0 0).cells (0, 0) _ hA4 Try.underlying79 rfl (s48 _) ?_)
        | (go_at_call 50; go_must (refine (fromWords_any (shaSt B 0 0) _).mono ?_; rintro e w6 ⟨C, rfl, hCs, hCw, hb6⟩; have hZ6 := hZ.below hb6 hZ.lt))
        | (refine wpList_store_arr rfl 32 (.tmp 2) (.tmp 29) rfl w.heap.size C rfl rfl 32 Z hZ6 (by rw [hCs]; exact size24) (by rw [hCs]; exact hZs) (one_ints hCs hCw) ?_))
      exact bodyPost_ret (v := .agg C) (results_cell_row Try.results26 _ _ w.heap.size 32 C (0, 0) _ rfl (hZ6.setRow C) Try.underlying32 rfl (by rw [hCs]; exact size24)) rfl ⟨C, rfl, hCs, hCw, below_setRow (hbl.trans (hb6.mono hbl.size)) (Nat.le_refl _) C⟩
set_option maxRecDepth 100000 in
set_option maxHeartbeats 2000000 in
theorem sum_ad0 (ad : Addr) (B : Nat → Int) (w : World) :
    Calls Try.prog 26 #[.slice (some ad) 0 0] w fun e w' => ∃ C : Array Value, e = .returned (.agg C) ∧ C.size = 32 ∧ (∀ t, t < 32 → C[t]? = some (.int .u8 (outB (shaSt B 0 0) t))) ∧ Below w.heap.size w w' := by
  have hS0 : ∀ (u : World) (q : Option Addr), Sl u q 0 B := fun _ _ h0 => absurd h0 (by omega)
  have E1 : shaSt B 0 0 = absorbN kOf (padB B 0 0 64) h0St 1 := by rw [shaSt_one (by omega), show (fun t => B (64 * 0 + t)) = B from funext fun t => by rw [Nat.mul_zero, Nat.zero_add]]; rfl
  have E1 := Hid.mk' E1
  go_enter Try.func26, Try.ntmps26
  go_upto_region 4 with (first
    | (go_at_call 46; go_must (refine (roundNumbers_any _).mono ?_; rintro e w1 ⟨rfl, hb1⟩))
    | (refine wpList_store_new w1 _ 100 (by rfl) 100 (.tmp 3) (.tmp 6) (by rfl) kCells (by rfl) (by rfl) (Eq.trans size46 (by rfl)) (by rfl) (one_ints kCells_size kCells_get) ?_)
    | (go_at_call 47; go_must (refine (firstWords_any _).mono ?_; rintro e w2 ⟨rfl, hb2⟩))
    | (refine wpList_store_new w2 _ 79 (by rfl) 79 (.tmp 4) (.tmp 7) (by rfl) h0St.cells (by rfl) (by rfl) (s48 _) (by rfl) (St.one _) ?_))
  have hA4 : Arr (w2.alloc (.cells h0St.cells 79)) w2.heap.size 79 h0St.cells := Arr.new _ _ _
  have hK3 : Arr (w2.alloc (.cells h0St.cells 79)) w1.heap.size 100 kCells := ((Arr.new w1 100 kCells).below hb2 (by simp)).alloc _
  have hg34 : w.heap.size < w1.heap.size := by have := hb1.size; simp at this; omega
  have hg45 : w1.heap.size < w2.heap.size := by have := hb2.size; simp at this; omega
  have hbl : Below w.heap.size w (w2.alloc (.cells h0St.cells 79)) :=
    ((((((Below.refl _ _).alloc (Nat.le_refl _) _).trans (hb1.mono (by simp))).alloc (by omega) _).trans (hb2.mono (by simp; omega))).alloc (by omega) _)
  have hR : ∃ Z : Array Value, Z.size = 32 ∧ Arr (w2.alloc (.cells h0St.cells 79)) w.heap.size 32 Z :=
    ⟨_, by rfl, ((((Arr.new w 32 _).below hb1 (by simp)).alloc _).below hb2 (by simp; omega)).alloc _⟩
  obtain ⟨Z, hZs, hZ⟩ := hR
  clear hb1 hb2
  generalize w2.alloc (.cells h0St.cells 79) = W at *
  generalize w2.heap.size = g4 at *
  generalize w1.heap.size = g3 at *
  go_cut [] from 6 (fun wc => Arr wc g4 79 h0St.cells ∧ Arr wc g3 100 kCells ∧ Arr wc w.heap.size 32 Z ∧ Below w.heap.size w wc)
  case first =>
    obtain ⟨c0, c1, c2, c3, c4, c5, c6, c7⟩ := hA4.cells8
    go_region_with (first
      | (go_at_call 48; go_must (refine (absorb_zero h0St _ _ g3 _).mono ?_; rintro e w3 ⟨rfl, hb3⟩; have hA5 := hA4.drew.below hb3 hA4.lt; have hst := hA5.store8 h0St)))
    all_goals
      go_wp2_with fail
      go_meet
      exact ⟨hA5.setRow _, (hK3.drew.below hb3 hK3.lt).setRowOther _ (by omega), (hZ.drew.below hb3 hZ.lt).setRowOther _ (by omega), below_setRow (hbl.drew.trans (hb3.mono hbl.size)) (by omega) _⟩
  case rest =>
    clear hA4 hK3 hbl hZ
    obtain ⟨hA4, hK3, hZ, hbl⟩ := hcut
    go_upto_region 5 with fail
    obtain ⟨c0, c1, c2, c3, c4, c5, c6, c7⟩ := hA4.cells8
    go_cut [] from 6 (fun wc => Arr wc g4 79 (shaSt B 0 0).cells ∧ Arr wc w.heap.size 32 Z ∧ Below w.heap.size w wc)
    case first =>
      go_region_with (first
        | (go_at_call 49; go_must (refine (lastBlocks_any _ 0 _ 64 0 B wc.drew (hS0 _ _) (Or.inr ⟨by omega, rfl⟩) (by omega) (by omega) (by omega)).mono ?_; rintro e w4 ⟨C, rfl, hC, hCs, hCw, hb4⟩; have hA6 := hA4.drew.below hb4 hA4.lt; have hK6 := (hK3.drew.below hb4 hK3.lt).row kCells_get; have hg3 := (hK3.drew.below hb4 hK3.lt).lt; have hBy : Bytes w4 wc.heap.size 0 (64 * 1) (padB B 0 0 64) := (fun t ht => by rw [Nat.zero_add]; exact (hC.cell t).trans (hCw t ht)); obtain ⟨c0, c1, c2, c3, c4, c5, c6, c7⟩ := hA6.cells8; clear hCw))
        | (go_at_call 48; go_must (refine (absorb_any h0St wc.heap.size 0 64 1 g3 kOf _ w4 hBy (by omega) (by omega) hg3 hK6).mono ?_; rintro e w5 ⟨rfl, hb5⟩; have hA7 := hA6.below hb5 hA6.lt; have hst := hA7.store8 (absorbN kOf (padB B 0 0 64) h0St 1))))
      all_goals
        go_wp2_with fail
        go_meet
        rw [E1.out]
        exact ⟨hA7.setRow _, (((hZ.drew.below hb4 hZ.lt).below hb5 (hZ.drew.below hb4 hZ.lt).lt)).setRowOther _ (by omega), below_setRow ((hbl.drew.trans (hb4.mono hbl.size)).trans (hb5.mono (Nat.le_trans hbl.size hb4.size))) (by omega) _⟩
    case rest =>
      clear hA4 hK3 hbl hZ c0 c1 c2 c3 c4 c5 c6 c7
      obtain ⟨hA4, hZ, hbl⟩ := hcut
      go_wp2_with (first
        | (refine wpList_load_row rfl 79 (.tmp 4) rfl g4 rfl 79 (shaSt B 0 0).cells (0, 0) _ hA4 Try.underlying79 rfl (s48 _) ?_)
        | (go_at_call 50; go_must (refine (fromWords_any (shaSt B 0 0) _).mono ?_; rintro e w6 ⟨C, rfl, hCs, hCw, hb6⟩; have hZ6 := hZ.below hb6 hZ.lt))
        | (refine wpList_store_arr rfl 32 (.tmp 2) (.tmp 29) rfl w.heap.size C rfl rfl 32 Z hZ6 (by rw [hCs]; exact size24) (by rw [hCs]; exact hZs) (one_ints hCs hCw) ?_))
      exact bodyPost_ret (v := .agg C) (results_cell_row Try.results26 _ _ w.heap.size 32 C (0, 0) _ rfl (hZ6.setRow C) Try.underlying32 rfl (by rw [hCs]; exact size24)) rfl ⟨C, rfl, hCs, hCw, below_setRow (hbl.trans (hb6.mono hbl.size)) (Nat.le_refl _) C⟩
set_option maxRecDepth 100000 in
set_option maxHeartbeats 2000000 in
theorem sum_ad (ad : Addr) (cap : Nat) (hc : 0 < cap) (B : Nat → Int) (w : World) :
    Calls Try.prog 26 #[.slice (some ad) 0 cap] w fun e w' => ∃ C : Array Value, e = .returned (.agg C) ∧ C.size = 32 ∧ (∀ t, t < 32 → C[t]? = some (.int .u8 (outB (shaSt B 0 0) t))) ∧ Below w.heap.size w w' := by
  have hS0 : ∀ (u : World) (q : Option Addr), Sl u q 0 B := fun _ _ h0 => absurd h0 (by omega)
  have E1 : shaSt B 0 0 = absorbN kOf (padB B 0 0 64) h0St 1 := by rw [shaSt_one (by omega), show (fun t => B (64 * 0 + t)) = B from funext fun t => by rw [Nat.mul_zero, Nat.zero_add]]; rfl
  have E1 := Hid.mk' E1
  have hcI : (0 : Int) < cap := by omega
  go_enter Try.func26, Try.ntmps26
  go_upto_region 4 with (first
    | (go_at_call 46; go_must (refine (roundNumbers_any _).mono ?_; rintro e w1 ⟨rfl, hb1⟩))
    | (refine wpList_store_new w1 _ 100 (by rfl) 100 (.tmp 3) (.tmp 6) (by rfl) kCells (by rfl) (by rfl) (Eq.trans size46 (by rfl)) (by rfl) (one_ints kCells_size kCells_get) ?_)
    | (go_at_call 47; go_must (refine (firstWords_any _).mono ?_; rintro e w2 ⟨rfl, hb2⟩))
    | (refine wpList_store_new w2 _ 79 (by rfl) 79 (.tmp 4) (.tmp 7) (by rfl) h0St.cells (by rfl) (by rfl) (s48 _) (by rfl) (St.one _) ?_))
  have hA4 : Arr (w2.alloc (.cells h0St.cells 79)) w2.heap.size 79 h0St.cells := Arr.new _ _ _
  have hK3 : Arr (w2.alloc (.cells h0St.cells 79)) w1.heap.size 100 kCells := ((Arr.new w1 100 kCells).below hb2 (by simp)).alloc _
  have hg34 : w.heap.size < w1.heap.size := by have := hb1.size; simp at this; omega
  have hg45 : w1.heap.size < w2.heap.size := by have := hb2.size; simp at this; omega
  have hbl : Below w.heap.size w (w2.alloc (.cells h0St.cells 79)) :=
    ((((((Below.refl _ _).alloc (Nat.le_refl _) _).trans (hb1.mono (by simp))).alloc (by omega) _).trans (hb2.mono (by simp; omega))).alloc (by omega) _)
  have hR : ∃ Z : Array Value, Z.size = 32 ∧ Arr (w2.alloc (.cells h0St.cells 79)) w.heap.size 32 Z :=
    ⟨_, by rfl, ((((Arr.new w 32 _).below hb1 (by simp)).alloc _).below hb2 (by simp; omega)).alloc _⟩
  obtain ⟨Z, hZs, hZ⟩ := hR
  clear hb1 hb2
  generalize w2.alloc (.cells h0St.cells 79) = W at *
  generalize w2.heap.size = g4 at *
  generalize w1.heap.size = g3 at *
  go_cut [] from 6 (fun wc => Arr wc g4 79 h0St.cells ∧ Arr wc g3 100 kCells ∧ Arr wc w.heap.size 32 Z ∧ Below w.heap.size w wc)
  case first =>
    obtain ⟨c0, c1, c2, c3, c4, c5, c6, c7⟩ := hA4.cells8
    go_region_with (first
      | (go_at_call 48; go_must (refine (absorb_zero h0St _ _ g3 _).mono ?_; rintro e w3 ⟨rfl, hb3⟩; have hA5 := hA4.drew.below hb3 hA4.lt; have hst := hA5.store8 h0St)))
    all_goals
      go_wp2_with fail
      go_meet
      exact ⟨hA5.setRow _, (hK3.drew.below hb3 hK3.lt).setRowOther _ (by omega), (hZ.drew.below hb3 hZ.lt).setRowOther _ (by omega), below_setRow (hbl.drew.trans (hb3.mono hbl.size)) (by omega) _⟩
  case rest =>
    clear hA4 hK3 hbl hZ
    obtain ⟨hA4, hK3, hZ, hbl⟩ := hcut
    go_upto_region 5 with fail
    obtain ⟨c0, c1, c2, c3, c4, c5, c6, c7⟩ := hA4.cells8
    go_cut [] from 6 (fun wc => Arr wc g4 79 (shaSt B 0 0).cells ∧ Arr wc w.heap.size 32 Z ∧ Below w.heap.size w wc)
    case first =>
      go_region_with (first
        | (go_at_call 49; go_must (refine (lastBlocks_any _ 0 _ 64 0 B wc.drew (hS0 _ _) (Or.inr ⟨by omega, rfl⟩) (by omega) (by omega) (by omega)).mono ?_; rintro e w4 ⟨C, rfl, hC, hCs, hCw, hb4⟩; have hA6 := hA4.drew.below hb4 hA4.lt; have hK6 := (hK3.drew.below hb4 hK3.lt).row kCells_get; have hg3 := (hK3.drew.below hb4 hK3.lt).lt; have hBy : Bytes w4 wc.heap.size 0 (64 * 1) (padB B 0 0 64) := (fun t ht => by rw [Nat.zero_add]; exact (hC.cell t).trans (hCw t ht)); obtain ⟨c0, c1, c2, c3, c4, c5, c6, c7⟩ := hA6.cells8; clear hCw))
        | (go_at_call 48; go_must (refine (absorb_any h0St wc.heap.size 0 64 1 g3 kOf _ w4 hBy (by omega) (by omega) hg3 hK6).mono ?_; rintro e w5 ⟨rfl, hb5⟩; have hA7 := hA6.below hb5 hA6.lt; have hst := hA7.store8 (absorbN kOf (padB B 0 0 64) h0St 1))))
      all_goals
        go_wp2_with fail
        go_meet
        rw [E1.out]
        exact ⟨hA7.setRow _, (((hZ.drew.below hb4 hZ.lt).below hb5 (hZ.drew.below hb4 hZ.lt).lt)).setRowOther _ (by omega), below_setRow ((hbl.drew.trans (hb4.mono hbl.size)).trans (hb5.mono (Nat.le_trans hbl.size hb4.size))) (by omega) _⟩
    case rest =>
      clear hA4 hK3 hbl hZ c0 c1 c2 c3 c4 c5 c6 c7
      obtain ⟨hA4, hZ, hbl⟩ := hcut
      go_wp2_with (first
        | (refine wpList_load_row rfl 79 (.tmp 4) rfl g4 rfl 79 (shaSt B 0 0).cells (0, 0) _ hA4 Try.underlying79 rfl (s48 _) ?_)
        | (go_at_call 50; go_must (refine (fromWords_any (shaSt B 0 0) _).mono ?_; rintro e w6 ⟨C, rfl, hCs, hCw, hb6⟩; have hZ6 := hZ.below hb6 hZ.lt))
        | (refine wpList_store_arr rfl 32 (.tmp 2) (.tmp 29) rfl w.heap.size C rfl rfl 32 Z hZ6 (by rw [hCs]; exact size24) (by rw [hCs]; exact hZs) (one_ints hCs hCw) ?_))
      exact bodyPost_ret (v := .agg C) (results_cell_row Try.results26 _ _ w.heap.size 32 C (0, 0) _ rfl (hZ6.setRow C) Try.underlying32 rfl (by rw [hCs]; exact size24)) rfl ⟨C, rfl, hCs, hCw, below_setRow (hbl.trans (hb6.mono hbl.size)) (Nat.le_refl _) C⟩
end Go.Proofs.Ytbfelelngoonjaa
/- Layer oracle: what the layers below give. -/
namespace Go.Proofs.Ytbfelelngoonjaa
open Go.RowKit
set_option maxRecDepth 100000
set_option linter.unusedVariables false
set_option linter.unusedSimpArgs false

/-- Sum of whatever slice. -/
theorem sum_sl (sp : Option Addr) (n cap : Nat) (L : List Int) (w : World) (hn : n = L.length) (hnil : sp = none → n = 0 ∧ cap = 0) (hS : SlL w sp L) (hcap : n ≤ cap) (hb : n ≤ 140737488355328) :
    Calls Try.prog 26 #[.slice sp n cap] w fun e w' => e = .returned (.agg (sha L)) ∧ Below w.heap.size w w' := by
  by_cases h0 : 0 < L.length
  · obtain ⟨b, off, rfl, hB⟩ := hS h0
    subst hn
    exact sum_list b off cap L w hB hcap hb
  · obtain rfl : L = [] := List.eq_nil_of_length_eq_zero (by omega)
    simp only [List.length_nil] at hn
    subst hn
    have key : ∀ (e : Ending) (w' : World), (∃ C : Array Value, e = .returned (.agg C) ∧ C.size = 32 ∧ (∀ t, t < 32 → C[t]? = some (.int .u8 (outB (shaSt (bat []) 0 0) t))) ∧ Below w.heap.size w w') → e = .returned (.agg (sha [])) ∧ Below w.heap.size w w' := by
      rintro e w' ⟨C, rfl, hs, hC, hb⟩
      exact ⟨by rw [arr_eq hs hC]; rfl, hb⟩
    cases sp with
    | none =>
      obtain ⟨-, rfl⟩ := hnil rfl
      exact (sum_none (bat []) w).mono fun e w' h => key e w' h
    | some ad =>
      by_cases hc : 0 < cap
      · exact (sum_ad ad cap hc (bat []) w).mono fun e w' h => key e w' h
      · obtain rfl : cap = 0 := by omega
        exact (sum_ad0 ad (bat []) w).mono fun e w' h => key e w' h
theorem Bytes.take {w : World} {b off : Nat} {L M : List Int} (h : Bytes w b off (L ++ M).length (bat (L ++ M))) : Bytes w b off L.length (bat L) := fun t ht => by
  rw [h t (by simp; omega)]; simp [bat, List.getElem?_append_left ht]
end Go.Proofs.Ytbfelelngoonjaa
/- Layer oracle: what the layers below give. -/
namespace Go.Proofs.Ytbfelelngoonjaa
open Go.RowKit
set_option maxRecDepth 100000
set_option linter.unusedVariables false
set_option linter.unusedSimpArgs false

/-- Do the entries i and j collide? -/
def hit (es : List En) (i j : Nat) : Bool := match es[i]?, es[j]? with
  | some e, some f => hitE e f
  | _, _ => false
theorem hit_some {es : List En} {i j : Nat} {e f : En} (h : es[i]? = some e) (h' : es[j]? = some f) : hit es i j = hitE e f := by simp [hit, h, h']
/-- What is found. -/
def Fnd (es : List En) (a b : Int) (c : Bool) : Prop :=
  (c = true ∧ ∃ i j : Nat, a = i ∧ b = j ∧ i < j ∧ j < es.length ∧ hit es i j = true ∧ (∀ j', j' < j → ∀ i', i' < j' → hit es i' j' = false) ∧ ∀ i', i' < i → hit es i' j = false)
  ∨ (c = false ∧ a = 0 ∧ b = 0 ∧ ∀ j, j < es.length → ∀ i, i < j → hit es i j = false)
theorem Fnd.one {es : List En} {a b a' b' : Int} {c c' : Bool} (h : Fnd es a b c) (h' : Fnd es a' b' c') : a' = a ∧ b' = b ∧ c' = c := by
  rcases h with ⟨rfl, i, j, rfl, rfl, h1, h2, h3, h4, h5⟩ | ⟨rfl, rfl, rfl, h1⟩
  · rcases h' with ⟨rfl, i', j', rfl, rfl, k1, k2, k3, k4, k5⟩ | ⟨rfl, rfl, rfl, k1⟩
    · have hj : j' = j := by
        rcases Nat.lt_trichotomy j' j with h | h | h
        · rw [h4 j' h i' k1] at k3; cases k3
        · exact h
        · rw [k4 j h i h1] at h3; cases h3
      subst hj
      have hi : i' = i := by
        rcases Nat.lt_trichotomy i' i with h | h | h
        · rw [h5 i' h] at k3; cases k3
        · exact h
        · rw [k5 i h] at h3; cases h3
      subst hi
      exact ⟨rfl, rfl, rfl⟩
    · rw [k1 j h2 i h1] at h3; cases h3
  · rcases h' with ⟨rfl, i', j', rfl, rfl, k1, k2, k3, k4, k5⟩ | ⟨rfl, rfl, rfl, k1⟩
    · rw [h1 j' k2 i' k1] at k3; cases k3
    · exact ⟨rfl, rfl, rfl⟩
/-- What Find answers. -/
def FPost (es : List En) (w : World) (r : Ending) (w' : World) : Prop := ∃ (a b : Int) (c : Bool), r = .returned (.tuple #[.int .i64 a, .int .i64 b, .bool c]) ∧ Fnd es a b c ∧ Below w.heap.size w w'
theorem y54 {ops : Array Oper} {S : World → Prop} {op : Oper} {a : Act} (hw : Region.wanted op (yielded ops a.tmps) = true) (x : Operand) (ho : op.op = .load 71 x)
    (b o : Nat) (hx : a.eval x = .pointer (some ⟨b, o, none⟩)) (e : En) (he : e.sm.length = 32) (hS : ∀ w, S w → w.rangeAt b o e.cells) : YieldsIf Try.prog ops S op (.agg e.arr) a :=
  yieldsIf_load_mid hw 71 x ho b o hx e.cells _ hS Try.underlying71 rfl (by rw [En.len he]; exact size54)
theorem y24 {ops : Array Oper} {S : World → Prop} {op : Oper} {a : Act} (hw : Region.wanted op (yielded ops a.tmps) = true) (x : Operand) (ho : op.op = .load 32 x)
    (b o : Nat) (hx : a.eval x = .pointer (some ⟨b, o, none⟩)) (X : List Int) (hX : X.length = 32) (hS : ∀ w, S w → w.rangeAt b o (by8 X)) : YieldsIf Try.prog ops S op (.agg (h8 X)) a :=
  yieldsIf_load_mid hw 32 x ho b o hx (by8 X) _ hS Try.underlying32 rfl (by rw [by8_len, hX]; exact size24)
end Go.Proofs.Ytbfelelngoonjaa
