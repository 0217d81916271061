/- Ch, Ts, Tu, Tp, Mo, La, ZVa, ZVf, ZVl, Pa, ZVs, Aa, ZWe, Ac, Cd, Mp. -/
import Derived.Test.YtagebcbnenehfaaGreatX10
import Derived.Great.BuildSlice
import Derived.Laws.Tables
import Derived.Maps.AppendAt
import Derived.ChangeOld
import Derived.OpenShut
import Derived.ProofKit
import Derived.ShutString
import Derived.SizedLaws
import Derived.Great.FillDense
import Derived.Laws.OwnMore
import Derived.DeepKeys3
import Derived.Laws.ResultCell
import Derived.Recover
import Derived.Laws.CopyRow
import Derived.Laws.MakeOwn
import Derived.Deep.OwnRows
import Derived.Laws.DeepBits32
import Derived.Lib.AppendZeros
namespace Go.Proofs.YtagebcbnenehfaaGreat
open Go.RowKit
set_option maxRecDepth 100000
set_option linter.unusedVariables false
set_option linter.unusedSimpArgs false
set_option maxHeartbeats 40000000
theorem own_same {w w' : World} {base n e s : Nat} {v : Value} {xs : List Value} (h : w.ownsRow base e s v n xs) (hk : ∀ k, v.ownBlock = some k → w'.heap[k]? = w.heap[k]?) : w'.ownsRow base e s v n xs := by
 refine ⟨h.1, ?_⟩
 rcases h.2 with hn | ⟨g, cap, cur, rfl, hb0, hgg, rest⟩
 · exact .inl hn
 · exact .inr ⟨g, cap, cur, rfl, hb0, by rw [hk g rfl]; exact hgg, rest⟩
theorem own_lt {w : World} {base e s n b : Nat} {v : Value} {xs : List Value} (h : w.ownsRow base e s v n xs) (hb : v.ownBlock = some b) : b < w.heap.size := by
 rcases h.2 with ⟨rfl, -⟩ | ⟨g, cap, cur, rfl, -, hgg, -⟩
 · simp [Value.ownBlock] at hb
 · simp [Value.ownBlock] at hb; subst hb; exact (Array.getElem?_eq_some_iff.1 hgg).1
set_option maxRecDepth 100000 in
theorem sum_none (B : Nat → Int) (w : World) :
   Calls Tryz.prog 90 #[.slice none 0 0] w fun e w' => ∃ C : Array Value, e = .returned (.agg C) ∧ C.size = 32 ∧ (∀ t, t < 32 → C[t]? = some (.int .u8 (outB (shaSt B 0 0) t))) ∧ Below w.heap.size w w' := by
 have hS0 : ∀ (u : World) (q : Option Addr), Sl u q 0 B := fun _ _ h0 => absurd h0 (by omega)
 have E1 : shaSt B 0 0 = absorbN kOf (padB B 0 0 64) h0St 1 := by rw [shaSt_one (by omega), show (fun t => B (64 * 0 + t)) = B from funext fun t => by rw [Nat.mul_zero, Nat.zero_add]]; rfl
 have E1 := Hid.mk' E1
 go_enter Tryz.func90, Tryz.ntmps90
 go_upto_region 4 with (first
   | (go_at_call 147; go_must (refine (roundNumbers_any _).mono ?_; rintro e w1 ⟨rfl, hb1⟩))
   | (refine wpList_store_new w1 _ 207 (by rfl) 207 (.tmp 3) (.tmp 6) (by rfl) kCells (by rfl) (by rfl) (Eq.trans size46 (by rfl)) (by rfl) (one_ints kCells_size kCells_get) ?_)
   | (go_at_call 148; go_must (refine (firstWords_any _).mono ?_; rintro e w2 ⟨rfl, hb2⟩))
   | (refine wpList_store_new w2 _ 133 (by rfl) 133 (.tmp 4) (.tmp 7) (by rfl) h0St.cells (by rfl) (by rfl) (s48 _) (by rfl) (St.one _) ?_))
 have hA4 : Arr (w2.alloc (.cells h0St.cells 133)) w2.heap.size 133 h0St.cells := Arr.new _ _ _
 have hK3 : Arr (w2.alloc (.cells h0St.cells 133)) w1.heap.size 207 kCells := ((Arr.new w1 207 kCells).below hb2 (by simp)).alloc _
 have hg34 : w.heap.size < w1.heap.size := by have := hb1.size; simp at this; omega
 have hg45 : w1.heap.size < w2.heap.size := by have := hb2.size; simp at this; omega
 have hbl : Below w.heap.size w (w2.alloc (.cells h0St.cells 133)) :=
   ((((((Below.refl _ _).alloc (Nat.le_refl _) _).trans (hb1.mono (by simp))).alloc (by omega) _).trans (hb2.mono (by simp; omega))).alloc (by omega) _)
 have hR : ∃ Z : Array Value, Z.size = 32 ∧ Arr (w2.alloc (.cells h0St.cells 133)) w.heap.size 30 Z :=
   ⟨_, by rfl, ((((Arr.new w 30 _).below hb1 (by simp)).alloc _).below hb2 (by simp; omega)).alloc _⟩
 obtain ⟨Z, hZs, hZ⟩ := hR
 clear hb1 hb2
 generalize w2.alloc (.cells h0St.cells 133) = W at *
 generalize w2.heap.size = g4 at *
 generalize w1.heap.size = g3 at *
 go_cut [] from 6 (fun wc => Arr wc g4 133 h0St.cells ∧ Arr wc g3 207 kCells ∧ Arr wc w.heap.size 30 Z ∧ Below w.heap.size w wc)
 case first =>
   obtain ⟨c0, c1, c2, c3, c4, c5, c6, c7⟩ := hA4.cells8
   go_region_with (first
     | (go_at_call 149; go_must (refine (absorb_zero h0St _ _ g3 _).mono ?_; rintro e w3 ⟨rfl, hb3⟩; have hA5 := hA4.drew.below hb3 hA4.lt; have hst := hA5.store8 h0St)))
   all_goals
     go_wp2_with fail
     go_meet
     exact ⟨hA5.setRow _, (hK3.drew.below hb3 hK3.lt).setRowOther _ (by omega), (hZ.drew.below hb3 hZ.lt).setRowOther _ (by omega), below_setRow (hbl.drew.trans (hb3.mono hbl.size)) (by omega) _⟩
 case rest =>
   clear hA4 hK3 hbl hZ
   obtain ⟨hA4, hK3, hZ, hbl⟩ := hcut
   go_upto_region 5 with fail
   obtain ⟨c0, c1, c2, c3, c4, c5, c6, c7⟩ := hA4.cells8
   go_cut [] from 6 (fun wc => Arr wc g4 133 (shaSt B 0 0).cells ∧ Arr wc w.heap.size 30 Z ∧ Below w.heap.size w wc)
   case first =>
     go_region_with (first
       | (go_at_call 150; go_must (refine (lastBlocks_any _ 0 _ 64 0 B wc.drew (hS0 _ _) (Or.inr ⟨by omega, rfl⟩) (by omega) (by omega) (by omega)).mono ?_; rintro e w4 ⟨C, rfl, hC, hCs, hCw, hb4⟩; have hA6 := hA4.drew.below hb4 hA4.lt; have hK6 := (hK3.drew.below hb4 hK3.lt).row kCells_get; have hg3 := (hK3.drew.below hb4 hK3.lt).lt; have hBy : Bytes w4 wc.heap.size 0 (64 * 1) (padB B 0 0 64) := (fun t ht => by rw [Nat.zero_add]; exact (hC.cell t).trans (hCw t ht)); obtain ⟨c0, c1, c2, c3, c4, c5, c6, c7⟩ := hA6.cells8; clear hCw))
       | (go_at_call 149; go_must (refine (absorb_any h0St wc.heap.size 0 64 1 g3 kOf _ w4 hBy (by omega) (by omega) hg3 hK6).mono ?_; rintro e w5 ⟨rfl, hb5⟩; have hA7 := hA6.below hb5 hA6.lt; have hst := hA7.store8 (absorbN kOf (padB B 0 0 64) h0St 1))))
     all_goals
       go_wp2_with fail
       go_meet
       rw [E1.out]
       exact ⟨hA7.setRow _, (((hZ.drew.below hb4 hZ.lt).below hb5 (hZ.drew.below hb4 hZ.lt).lt)).setRowOther _ (by omega), below_setRow ((hbl.drew.trans (hb4.mono hbl.size)).trans (hb5.mono (Nat.le_trans hbl.size hb4.size))) (by omega) _⟩
   case rest =>
     clear hA4 hK3 hbl hZ c0 c1 c2 c3 c4 c5 c6 c7
     obtain ⟨hA4, hZ, hbl⟩ := hcut
     go_wp2_with (first
       | (refine wpList_load_row rfl 133 (.tmp 4) rfl g4 rfl 133 (shaSt B 0 0).cells (0, 0) _ hA4 Tryz.underlying133 rfl (s48 _) ?_)
       | (go_at_call 151; go_must (refine (fromWords_any (shaSt B 0 0) _).mono ?_; rintro e w6 ⟨C, rfl, hCs, hCw, hb6⟩; have hZ6 := hZ.below hb6 hZ.lt))
       | (refine wpList_store_arr rfl 30 (.tmp 2) (.tmp 29) rfl w.heap.size C rfl rfl 30 Z hZ6 (by rw [hCs]; exact size24) (by rw [hCs]; exact hZs) (one_ints hCs hCw) ?_))
     exact bodyPost_ret (v := .agg C) (results_cell_row Tryz.results90 _ _ w.heap.size 30 C (0, 0) _ rfl (hZ6.setRow C) Tryz.underlying30 rfl (by rw [hCs]; exact size24)) rfl ⟨C, rfl, hCs, hCw, below_setRow (hbl.trans (hb6.mono hbl.size)) (Nat.le_refl _) C⟩
set_option maxRecDepth 100000 in
theorem sum_ad0 (ad : Addr) (B : Nat → Int) (w : World) :
   Calls Tryz.prog 90 #[.slice (some ad) 0 0] w fun e w' => ∃ C : Array Value, e = .returned (.agg C) ∧ C.size = 32 ∧ (∀ t, t < 32 → C[t]? = some (.int .u8 (outB (shaSt B 0 0) t))) ∧ Below w.heap.size w w' := by
 have hS0 : ∀ (u : World) (q : Option Addr), Sl u q 0 B := fun _ _ h0 => absurd h0 (by omega)
 have E1 : shaSt B 0 0 = absorbN kOf (padB B 0 0 64) h0St 1 := by rw [shaSt_one (by omega), show (fun t => B (64 * 0 + t)) = B from funext fun t => by rw [Nat.mul_zero, Nat.zero_add]]; rfl
 have E1 := Hid.mk' E1
 go_enter Tryz.func90, Tryz.ntmps90
 go_upto_region 4 with (first
   | (go_at_call 147; go_must (refine (roundNumbers_any _).mono ?_; rintro e w1 ⟨rfl, hb1⟩))
   | (refine wpList_store_new w1 _ 207 (by rfl) 207 (.tmp 3) (.tmp 6) (by rfl) kCells (by rfl) (by rfl) (Eq.trans size46 (by rfl)) (by rfl) (one_ints kCells_size kCells_get) ?_)
   | (go_at_call 148; go_must (refine (firstWords_any _).mono ?_; rintro e w2 ⟨rfl, hb2⟩))
   | (refine wpList_store_new w2 _ 133 (by rfl) 133 (.tmp 4) (.tmp 7) (by rfl) h0St.cells (by rfl) (by rfl) (s48 _) (by rfl) (St.one _) ?_))
 have hA4 : Arr (w2.alloc (.cells h0St.cells 133)) w2.heap.size 133 h0St.cells := Arr.new _ _ _
 have hK3 : Arr (w2.alloc (.cells h0St.cells 133)) w1.heap.size 207 kCells := ((Arr.new w1 207 kCells).below hb2 (by simp)).alloc _
 have hg34 : w.heap.size < w1.heap.size := by have := hb1.size; simp at this; omega
 have hg45 : w1.heap.size < w2.heap.size := by have := hb2.size; simp at this; omega
 have hbl : Below w.heap.size w (w2.alloc (.cells h0St.cells 133)) :=
   ((((((Below.refl _ _).alloc (Nat.le_refl _) _).trans (hb1.mono (by simp))).alloc (by omega) _).trans (hb2.mono (by simp; omega))).alloc (by omega) _)
 have hR : ∃ Z : Array Value, Z.size = 32 ∧ Arr (w2.alloc (.cells h0St.cells 133)) w.heap.size 30 Z :=
   ⟨_, by rfl, ((((Arr.new w 30 _).below hb1 (by simp)).alloc _).below hb2 (by simp; omega)).alloc _⟩
 obtain ⟨Z, hZs, hZ⟩ := hR
 clear hb1 hb2
 generalize w2.alloc (.cells h0St.cells 133) = W at *
 generalize w2.heap.size = g4 at *
 generalize w1.heap.size = g3 at *
 go_cut [] from 6 (fun wc => Arr wc g4 133 h0St.cells ∧ Arr wc g3 207 kCells ∧ Arr wc w.heap.size 30 Z ∧ Below w.heap.size w wc)
 case first =>
   obtain ⟨c0, c1, c2, c3, c4, c5, c6, c7⟩ := hA4.cells8
   go_region_with (first
     | (go_at_call 149; go_must (refine (absorb_zero h0St _ _ g3 _).mono ?_; rintro e w3 ⟨rfl, hb3⟩; have hA5 := hA4.drew.below hb3 hA4.lt; have hst := hA5.store8 h0St)))
   all_goals
     go_wp2_with fail
     go_meet
     exact ⟨hA5.setRow _, (hK3.drew.below hb3 hK3.lt).setRowOther _ (by omega), (hZ.drew.below hb3 hZ.lt).setRowOther _ (by omega), below_setRow (hbl.drew.trans (hb3.mono hbl.size)) (by omega) _⟩
 case rest =>
   clear hA4 hK3 hbl hZ
   obtain ⟨hA4, hK3, hZ, hbl⟩ := hcut
   go_upto_region 5 with fail
   obtain ⟨c0, c1, c2, c3, c4, c5, c6, c7⟩ := hA4.cells8
   go_cut [] from 6 (fun wc => Arr wc g4 133 (shaSt B 0 0).cells ∧ Arr wc w.heap.size 30 Z ∧ Below w.heap.size w wc)
   case first =>
     go_region_with (first
       | (go_at_call 150; go_must (refine (lastBlocks_any _ 0 _ 64 0 B wc.drew (hS0 _ _) (Or.inr ⟨by omega, rfl⟩) (by omega) (by omega) (by omega)).mono ?_; rintro e w4 ⟨C, rfl, hC, hCs, hCw, hb4⟩; have hA6 := hA4.drew.below hb4 hA4.lt; have hK6 := (hK3.drew.below hb4 hK3.lt).row kCells_get; have hg3 := (hK3.drew.below hb4 hK3.lt).lt; have hBy : Bytes w4 wc.heap.size 0 (64 * 1) (padB B 0 0 64) := (fun t ht => by rw [Nat.zero_add]; exact (hC.cell t).trans (hCw t ht)); obtain ⟨c0, c1, c2, c3, c4, c5, c6, c7⟩ := hA6.cells8; clear hCw))
       | (go_at_call 149; go_must (refine (absorb_any h0St wc.heap.size 0 64 1 g3 kOf _ w4 hBy (by omega) (by omega) hg3 hK6).mono ?_; rintro e w5 ⟨rfl, hb5⟩; have hA7 := hA6.below hb5 hA6.lt; have hst := hA7.store8 (absorbN kOf (padB B 0 0 64) h0St 1))))
     all_goals
       go_wp2_with fail
       go_meet
       rw [E1.out]
       exact ⟨hA7.setRow _, (((hZ.drew.below hb4 hZ.lt).below hb5 (hZ.drew.below hb4 hZ.lt).lt)).setRowOther _ (by omega), below_setRow ((hbl.drew.trans (hb4.mono hbl.size)).trans (hb5.mono (Nat.le_trans hbl.size hb4.size))) (by omega) _⟩
   case rest =>
     clear hA4 hK3 hbl hZ c0 c1 c2 c3 c4 c5 c6 c7
     obtain ⟨hA4, hZ, hbl⟩ := hcut
     go_wp2_with (first
       | (refine wpList_load_row rfl 133 (.tmp 4) rfl g4 rfl 133 (shaSt B 0 0).cells (0, 0) _ hA4 Tryz.underlying133 rfl (s48 _) ?_)
       | (go_at_call 151; go_must (refine (fromWords_any (shaSt B 0 0) _).mono ?_; rintro e w6 ⟨C, rfl, hCs, hCw, hb6⟩; have hZ6 := hZ.below hb6 hZ.lt))
       | (refine wpList_store_arr rfl 30 (.tmp 2) (.tmp 29) rfl w.heap.size C rfl rfl 30 Z hZ6 (by rw [hCs]; exact size24) (by rw [hCs]; exact hZs) (one_ints hCs hCw) ?_))
     exact bodyPost_ret (v := .agg C) (results_cell_row Tryz.results90 _ _ w.heap.size 30 C (0, 0) _ rfl (hZ6.setRow C) Tryz.underlying30 rfl (by rw [hCs]; exact size24)) rfl ⟨C, rfl, hCs, hCw, below_setRow (hbl.trans (hb6.mono hbl.size)) (Nat.le_refl _) C⟩
set_option maxRecDepth 100000 in
theorem sum_ad (ad : Addr) (cap : Nat) (hc : 0 < cap) (B : Nat → Int) (w : World) :
   Calls Tryz.prog 90 #[.slice (some ad) 0 cap] w fun e w' => ∃ C : Array Value, e = .returned (.agg C) ∧ C.size = 32 ∧ (∀ t, t < 32 → C[t]? = some (.int .u8 (outB (shaSt B 0 0) t))) ∧ Below w.heap.size w w' := by
 have hS0 : ∀ (u : World) (q : Option Addr), Sl u q 0 B := fun _ _ h0 => absurd h0 (by omega)
 have E1 : shaSt B 0 0 = absorbN kOf (padB B 0 0 64) h0St 1 := by rw [shaSt_one (by omega), show (fun t => B (64 * 0 + t)) = B from funext fun t => by rw [Nat.mul_zero, Nat.zero_add]]; rfl
 have E1 := Hid.mk' E1
 have hcI : (0 : Int) < cap := by omega
 go_enter Tryz.func90, Tryz.ntmps90
 go_upto_region 4 with (first
   | (go_at_call 147; go_must (refine (roundNumbers_any _).mono ?_; rintro e w1 ⟨rfl, hb1⟩))
   | (refine wpList_store_new w1 _ 207 (by rfl) 207 (.tmp 3) (.tmp 6) (by rfl) kCells (by rfl) (by rfl) (Eq.trans size46 (by rfl)) (by rfl) (one_ints kCells_size kCells_get) ?_)
   | (go_at_call 148; go_must (refine (firstWords_any _).mono ?_; rintro e w2 ⟨rfl, hb2⟩))
   | (refine wpList_store_new w2 _ 133 (by rfl) 133 (.tmp 4) (.tmp 7) (by rfl) h0St.cells (by rfl) (by rfl) (s48 _) (by rfl) (St.one _) ?_))
 have hA4 : Arr (w2.alloc (.cells h0St.cells 133)) w2.heap.size 133 h0St.cells := Arr.new _ _ _
 have hK3 : Arr (w2.alloc (.cells h0St.cells 133)) w1.heap.size 207 kCells := ((Arr.new w1 207 kCells).below hb2 (by simp)).alloc _
 have hg34 : w.heap.size < w1.heap.size := by have := hb1.size; simp at this; omega
 have hg45 : w1.heap.size < w2.heap.size := by have := hb2.size; simp at this; omega
 have hbl : Below w.heap.size w (w2.alloc (.cells h0St.cells 133)) :=
   ((((((Below.refl _ _).alloc (Nat.le_refl _) _).trans (hb1.mono (by simp))).alloc (by omega) _).trans (hb2.mono (by simp; omega))).alloc (by omega) _)
 have hR : ∃ Z : Array Value, Z.size = 32 ∧ Arr (w2.alloc (.cells h0St.cells 133)) w.heap.size 30 Z :=
   ⟨_, by rfl, ((((Arr.new w 30 _).below hb1 (by simp)).alloc _).below hb2 (by simp; omega)).alloc _⟩
 obtain ⟨Z, hZs, hZ⟩ := hR
 clear hb1 hb2
 generalize w2.alloc (.cells h0St.cells 133) = W at *
 generalize w2.heap.size = g4 at *
 generalize w1.heap.size = g3 at *
 go_cut [] from 6 (fun wc => Arr wc g4 133 h0St.cells ∧ Arr wc g3 207 kCells ∧ Arr wc w.heap.size 30 Z ∧ Below w.heap.size w wc)
 case first =>
   obtain ⟨c0, c1, c2, c3, c4, c5, c6, c7⟩ := hA4.cells8
   go_region_with (first
     | (go_at_call 149; go_must (refine (absorb_zero h0St _ _ g3 _).mono ?_; rintro e w3 ⟨rfl, hb3⟩; have hA5 := hA4.drew.below hb3 hA4.lt; have hst := hA5.store8 h0St)))
   all_goals
     go_wp2_with fail
     go_meet
     exact ⟨hA5.setRow _, (hK3.drew.below hb3 hK3.lt).setRowOther _ (by omega), (hZ.drew.below hb3 hZ.lt).setRowOther _ (by omega), below_setRow (hbl.drew.trans (hb3.mono hbl.size)) (by omega) _⟩
 case rest =>
   clear hA4 hK3 hbl hZ
   obtain ⟨hA4, hK3, hZ, hbl⟩ := hcut
   go_upto_region 5 with fail
   obtain ⟨c0, c1, c2, c3, c4, c5, c6, c7⟩ := hA4.cells8
   go_cut [] from 6 (fun wc => Arr wc g4 133 (shaSt B 0 0).cells ∧ Arr wc w.heap.size 30 Z ∧ Below w.heap.size w wc)
   case first =>
     go_region_with (first
       | (go_at_call 150; go_must (refine (lastBlocks_any _ 0 _ 64 0 B wc.drew (hS0 _ _) (Or.inr ⟨by omega, rfl⟩) (by omega) (by omega) (by omega)).mono ?_; rintro e w4 ⟨C, rfl, hC, hCs, hCw, hb4⟩; have hA6 := hA4.drew.below hb4 hA4.lt; have hK6 := (hK3.drew.below hb4 hK3.lt).row kCells_get; have hg3 := (hK3.drew.below hb4 hK3.lt).lt; have hBy : Bytes w4 wc.heap.size 0 (64 * 1) (padB B 0 0 64) := (fun t ht => by rw [Nat.zero_add]; exact (hC.cell t).trans (hCw t ht)); obtain ⟨c0, c1, c2, c3, c4, c5, c6, c7⟩ := hA6.cells8; clear hCw))
       | (go_at_call 149; go_must (refine (absorb_any h0St wc.heap.size 0 64 1 g3 kOf _ w4 hBy (by omega) (by omega) hg3 hK6).mono ?_; rintro e w5 ⟨rfl, hb5⟩; have hA7 := hA6.below hb5 hA6.lt; have hst := hA7.store8 (absorbN kOf (padB B 0 0 64) h0St 1))))
     all_goals
       go_wp2_with fail
       go_meet
       rw [E1.out]
       exact ⟨hA7.setRow _, (((hZ.drew.below hb4 hZ.lt).below hb5 (hZ.drew.below hb4 hZ.lt).lt)).setRowOther _ (by omega), below_setRow ((hbl.drew.trans (hb4.mono hbl.size)).trans (hb5.mono (Nat.le_trans hbl.size hb4.size))) (by omega) _⟩
   case rest =>
     clear hA4 hK3 hbl hZ c0 c1 c2 c3 c4 c5 c6 c7
     obtain ⟨hA4, hZ, hbl⟩ := hcut
     go_wp2_with (first
       | (refine wpList_load_row rfl 133 (.tmp 4) rfl g4 rfl 133 (shaSt B 0 0).cells (0, 0) _ hA4 Tryz.underlying133 rfl (s48 _) ?_)
       | (go_at_call 151; go_must (refine (fromWords_any (shaSt B 0 0) _).mono ?_; rintro e w6 ⟨C, rfl, hCs, hCw, hb6⟩; have hZ6 := hZ.below hb6 hZ.lt))
       | (refine wpList_store_arr rfl 30 (.tmp 2) (.tmp 29) rfl w.heap.size C rfl rfl 30 Z hZ6 (by rw [hCs]; exact size24) (by rw [hCs]; exact hZs) (one_ints hCs hCw) ?_))
     exact bodyPost_ret (v := .agg C) (results_cell_row Tryz.results90 _ _ w.heap.size 30 C (0, 0) _ rfl (hZ6.setRow C) Tryz.underlying30 rfl (by rw [hCs]; exact size24)) rfl ⟨C, rfl, hCs, hCw, below_setRow (hbl.trans (hb6.mono hbl.size)) (Nat.le_refl _) C⟩
theorem sum_sl (sp : Option Addr) (n cap : Nat) (L : List Int) (w : World) (hn : n = L.length) (hnil : sp = none → n = 0 ∧ cap = 0) (hS : SlL w sp L) (hcap : n ≤ cap) (hb : n ≤ 140737488355328) :
   Calls Tryz.prog 90 #[.slice sp n cap] w fun e w' => e = .returned (.agg (sha L)) ∧ Below w.heap.size w w' := by
 by_cases h0 : 0 < L.length
 · obtain ⟨b, off, rfl, hB⟩ := hS h0
   subst hn
   exact sum_list b off cap L w hB hcap hb
 · obtain rfl : L = [] := List.eq_nil_of_length_eq_zero (by omega)
   simp only [List.length_nil] at hn
   subst hn
   have key : ∀ (e : Ending) (w' : World), (∃ C : Array Value, e = .returned (.agg C) ∧ C.size = 32 ∧ (∀ t, t < 32 → C[t]? = some (.int .u8 (outB (shaSt (bat []) 0 0) t))) ∧ Below w.heap.size w w') → e = .returned (.agg (sha [])) ∧ Below w.heap.size w w' := by
     rintro e w' ⟨C, rfl, hs, hC, hb⟩
     exact ⟨by rw [arr_eq hs hC]; rfl, hb⟩
   cases sp with
   | none =>
     obtain ⟨-, rfl⟩ := hnil rfl
     exact (sum_none (bat []) w).mono fun e w' h => key e w' h
   | some ad =>
     by_cases hc : 0 < cap
     · exact (sum_ad ad cap hc (bat []) w).mono fun e w' h => key e w' h
     · obtain rfl : cap = 0 := by omega
       exact (sum_ad0 ad (bat []) w).mono fun e w' h => key e w' h
section
open Go.ChangeAt Go.ChangeShapes Go.RowKit Go.WideShapes
theorem own : ownKnob Tryz.prog.godebug = none := by kernel_rfl
theorem laidOut : laidOutB Tryz.prog = true := by kernel_rfl
end
section
open Go.RowKit Go.Shelf
attribute [local go_sem] Oper.semAt_some
theorem info24 : (Tryz.prog.info? 30).map (fun i => (i.zero, i.size, i.bytes)) = some (some (.agg (h8 Z32)), 32, 32) := by kernel_rfl
def flat32 (ls : List (List Int)) : List Value := (ls.map by8).flatten
theorem flat32_app (ls : List (List Int)) (X : List Int) : flat32 (ls ++ [X]) = flat32 ls ++ by8 X := by simp [flat32]
theorem wp_bld1 {o : Oper} {a : Act} {w : World} {K : Act → World → Prop} {Q : Exit → Act → World → Prop} (x : Operand) (ho : o.op = .buildSlice 81 1 #[(0, x)]) (X : List Int) (hx : a.eval x = .agg (h8 X)) (hX : X.length = 32)
   (h : K (a.put o.dst (.slice (some ⟨w.heap.size, 0, none⟩) 1 1)) (w.alloc (.cells (h8 X) 30))) : o.wp Tryz.prog a w K Q := by
 obtain ⟨i0, hi0, hz0, hz1, hz2⟩ := info_parts info24
 refine wp_buildSlice 81 30 1 _ ho (h8 X) i0 (.agg (h8 Z32)) Tryz.underlying81 hi0 hz0 (by rw [hz1]; omega) (by rw [hz1]; omega) ?_ h
 have e : (#[(0, x)].map fun (p : Nat × Operand) => (p.1, a.eval p.2)).toList = ([Value.agg (h8 X)].zipIdx 0).map fun x => (x.2, x.1) := by simp [hx]
 rw [hz1]
 refine Eq.trans (congrArg _ e) ?_
 rw [Great.fill_whole (s := 32) (by omega) [.agg (h8 X)] _ (fun v hv => by simp only [List.mem_singleton] at hv; rw [hv]; show (h8 X).size = 32; rw [h8_size, hX]) (by simp)]
 simp [Value.cells, h8]
end
structure Chg (S : Nat → Prop) (w w' : World) : Prop where
 os : w'.os = w.os
 tape : w'.tape = w.tape
 output : w'.output = w.output
 size : w.heap.size ≤ w'.heap.size
 block : ∀ b, b < w.heap.size → ¬ S b → w'.heap[b]? = w.heap[b]?
theorem Chg.refl (S : Nat → Prop) (w : World) : Chg S w w := ⟨rfl, rfl, rfl, Nat.le_refl _, fun _ _ _ => rfl⟩
theorem Chg.trans {S : Nat → Prop} {a b c : World} (h : Chg S a b) (k : Chg S b c) : Chg S a c :=
 ⟨k.os.trans h.os, k.tape.trans h.tape, k.output.trans h.output, Nat.le_trans h.size k.size, fun i hi hs => (k.block i (Nat.lt_of_lt_of_le hi h.size) hs).trans (h.block i hi hs)⟩
theorem Chg.mono {S T : Nat → Prop} {a b : World} (h : Chg S a b) (hST : ∀ i, i < a.heap.size → S i → T i) : Chg T a b :=
 ⟨h.os, h.tape, h.output, h.size, fun i hi ht => h.block i hi fun hs => ht (hST i hi hs)⟩
theorem Chg.of_below {S : Nat → Prop} {a b : World} (h : Below a.heap.size a b) : Chg S a b := ⟨h.os, h.tape, h.output, h.size, fun i hi _ => h.block i hi⟩
theorem Chg.below {S : Nat → Prop} {a b : World} {N : Nat} (h : Chg S a b) (hN : ∀ i, i < N → i < a.heap.size ∧ ¬ S i) : Below N a b := ⟨h.os, h.tape, h.output, h.size, fun i hi => h.block i (hN i hi).1 (hN i hi).2⟩
theorem Chg.alloc {S : Nat → Prop} {a b : World} (h : Chg S a b) (o : Obj) : Chg S a (b.alloc o) :=
 h.trans (Chg.of_below (alloc_bel' b o))
def U64 (x : Int) : Prop := 0 ≤ x ∧ x < 18446744073709551616
theorem U64.wrap (x : Int) : U64 (IntKind.u64.wrap x) := by
 simp only [IntKind.wrap, IntKind.bits, IntKind.signed]
 unfold U64
 simp
 omega
structure Mc where
 pc : Int
 rg : List Int
 st : Int
 me : List Int
structure Mc.ok (m : Mc) : Prop where
 pc : U64 m.pc
 r16 : m.rg.length = 16
 rg : ∀ k, U64 (m.rg.getD k 0)
 st : 0 ≤ m.st ∧ m.st < 256
 me : ∀ k, U64 (m.me.getD k 0)
def by64 (L : List Int) : List Value := L.map (Value.int .u64)
theorem by64_len (L : List Int) : (by64 L).length = L.length := by simp [by64]
theorem by64_get {L : List Int} {t : Nat} (h : t < L.length) : (by64 L)[t]? = some (.int .u64 (L.getD t 0)) := by
 simp [by64, List.getElem?_eq_getElem h, List.getD_eq_getElem?_getD]
def mcL (m : Mc) (v : Value) : List Value := .int .u64 m.pc :: (by64 m.rg ++ [.int .u8 m.st, v])
theorem mcL_len {m : Mc} (h : m.rg.length = 16) (v : Value) : (mcL m v).length = 19 := by simp [mcL, by64_len, h]
theorem mcL_reg {m : Mc} (h : m.rg.length = 16) (v : Value) (X : List Value) {a : Nat} (ha : a < 16) : (mcL m v ++ X)[1 + a]? = some (.int .u64 (m.rg.getD a 0)) := by
 rw [List.getElem?_append_left (by rw [mcL_len h]; omega), mcL, Nat.add_comm, List.getElem?_cons_succ, List.getElem?_append_left (by rw [by64_len, h]; exact ha)]
 exact by64_get (by rw [h]; exact ha)
theorem mcL_st {m : Mc} (h : m.rg.length = 16) (v : Value) (X : List Value) : (mcL m v ++ X)[17]? = some (.int .u8 m.st) := by
 rw [List.getElem?_append_left (by rw [mcL_len h]; omega), mcL, List.getElem?_cons_succ, List.getElem?_append_right (by rw [by64_len, h]; omega), by64_len, h]
 rfl
theorem mcL_me {m : Mc} (h : m.rg.length = 16) (v : Value) (X : List Value) : (mcL m v ++ X)[18]? = some v := by
 rw [List.getElem?_append_left (by rw [mcL_len h]; omega), mcL, List.getElem?_cons_succ, List.getElem?_append_right (by rw [by64_len, h]; omega), by64_len, h]
 rfl
def MW (w : World) (gm : Nat) (L : List Int) : Prop := ∃ C : Array Value, Arr w gm 22 C ∧ ∀ t, t < L.length → C[t]? = some (.int .u64 (L.getD t 0))
theorem MW.cell {w : World} {gm : Nat} {L : List Int} (h : MW w gm L) {t : Nat} (ht : t < L.length) : w.cell? ⟨gm, t, none⟩ = some (.int .u64 (L.getD t 0)) := by
 obtain ⟨C, hA, hC⟩ := h
 rw [hA.cell]; exact hC t ht
theorem MW.lt {w : World} {gm : Nat} {L : List Int} (h : MW w gm L) : gm < w.heap.size := by
 obtain ⟨C, hA, hC⟩ := h
 exact hA.lt
theorem MW.below {w w' : World} {gm B : Nat} {L : List Int} (h : MW w gm L) (hb : Below B w w') (hg : gm < B) : MW w' gm L := by
 obtain ⟨C, hA, hC⟩ := h
 exact ⟨C, hA.below hb hg, hC⟩
def Mc.get (m : Mc) (a : Nat) : Int := m.rg.getD a 0
def e8 (n : Int) : List Int := (List.range 8).map fun j => n / 2 ^ (56 - 8 * j) % 256
theorem e8_len (n : Int) : (e8 n).length = 8 := by simp [e8]
def lf (b : List Int) : List Int := shl (0 :: b)
structure MS (N : Nat) (w : World) (sp : Option Addr) (n cap : Nat) (L : List Int) : Prop where
 len : Hid (n = L.length)
 nil : sp = none → n = 0 ∧ cap = 0
 le : n ≤ cap
 big : cap ≤ 9223372036854775807
 small : n ≤ 17592186044416
 at0 : 0 < n → ∃ g off, sp = some ⟨g, off, none⟩ ∧ g < N ∧ ∀ t, t < n → w.cell? ⟨g, off + t, none⟩ = some (.int .u64 (L.getD t 0))
theorem MS.mono {N N' : Nat} {w : World} {sp : Option Addr} {n cap : Nat} {L : List Int} (h : MS N w sp n cap L) (hN : N ≤ N') : MS N' w sp n cap L :=
 ⟨h.len, h.nil, h.le, h.big, h.small, fun h0 => let ⟨b, off, e, hb, hB⟩ := h.at0 h0; ⟨b, off, e, by omega, hB⟩⟩
theorem MS.below {N : Nat} {w w' : World} {sp : Option Addr} {n cap : Nat} {L : List Int} (h : MS N w sp n cap L) (hb : Below N w w') : MS N w' sp n cap L :=
 ⟨h.len, h.nil, h.le, h.big, h.small, fun h0 => let ⟨b, off, e, hbN, hB⟩ := h.at0 h0; ⟨b, off, e, hbN, fun t ht => (hb.cell (p := ⟨b, off + t, none⟩) hbN).trans (hB t ht)⟩⟩
theorem MS.here {N : Nat} {w : World} {sp : Option Addr} {n cap : Nat} {L : List Int} (h : MS N w sp n cap L) : MS w.heap.size w sp n cap L :=
 ⟨h.len, h.nil, h.le, h.big, h.small, fun h0 => let ⟨b, off, e, hb, hB⟩ := h.at0 h0; ⟨b, off, e, block_lt_of_cell (hB 0 h0), hB⟩⟩
theorem MS.nil0 (N : Nat) (w : World) : MS N w none 0 0 [] := ⟨rfl, fun _ => ⟨rfl, rfl⟩, Nat.le_refl _, by omega, by omega, fun h => absurd h (by omega)⟩
theorem MW.ms {w : World} {gm n cap : Nat} {L : List Int} (h : MW w gm L) (hl : n = L.length) (hn : n ≤ 17592186044416) (hc : n ≤ cap ∧ cap ≤ 9223372036854775807) : MS w.heap.size w (some ⟨gm, 0, none⟩) n cap L :=
 ⟨hl, (fun e => by cases e), hc.1, hc.2, hn, fun _ => ⟨gm, 0, rfl, h.lt, fun t ht => by rw [Nat.zero_add]; exact h.cell (by omega)⟩⟩
def mcA (m : Mc) (sp : Option Addr) (n cap : Nat) : Array Value := (mcL m (.slice sp n cap)).toArray
theorem mcA_size {m : Mc} (h : m.rg.length = 16) (sp : Option Addr) (n cap : Nat) : (mcA m sp n cap).size = 19 := by simp [mcA, mcL_len h]
theorem mcA_one (m : Mc) (sp : Option Addr) (n cap : Nat) : (mcA m sp n cap).all (·.oneCell') = true := all_oneCell_toArray (by
 intro v hv
 simp only [mcL, by64, List.mem_cons, List.mem_append, List.mem_map, List.not_mem_nil, or_false] at hv
 rcases hv with rfl | ⟨x, -, rfl⟩ | rfl | rfl <;> rfl)
theorem mcA_0 (m : Mc) (sp : Option Addr) (n cap : Nat) : (mcA m sp n cap)[0]? = some (.int .u64 m.pc) := rfl
theorem mcA_17 {m : Mc} (h : m.rg.length = 16) (sp : Option Addr) (n cap : Nat) : (mcA m sp n cap)[17]? = some (.int .u8 m.st) := by
 have := mcL_st h (.slice sp n cap) []
 rw [List.append_nil] at this
 simpa [mcA] using this
theorem mcA_18 {m : Mc} (h : m.rg.length = 16) (sp : Option Addr) (n cap : Nat) : (mcA m sp n cap)[18]? = some (.slice sp n cap) := by
 have := mcL_me h (.slice sp n cap) []
 rw [List.append_nil] at this
 simpa [mcA] using this
theorem size45 : (Tryz.prog.info? 27).map (·.size) = some 19 := by kernel_rfl
theorem ld45 {ops : Array Oper} {rest : List Oper} {o : Oper} {a : Act} {w : World} {Q : Exit → Act → World → Prop} (hgd : o.guard = none) (x : Operand) (ho : o.op = .load 27 x)
   (g : Nat) (hx : a.eval x = .pointer (some ⟨g, 0, none⟩)) (C : Array Value) (hC : C.size = 19) (hA : Arr w g 27 C)
   (h : wpList Tryz.prog ops Q rest (a.put o.dst (.agg C)) w) : wpList Tryz.prog ops Q (o :: rest) a w :=
 wpList_load_row hgd 27 x ho g hx 27 C (0, 0) _ hA Tryz.underlying27 rfl (by rw [hC]; exact size45) h
theorem st45 {ops : Array Oper} {rest : List Oper} {o : Oper} {a : Act} {w : World} {Q : Exit → Act → World → Prop} (hgd : o.guard = none) (x y : Operand) (ho : o.op = .store 27 x y)
   (g : Nat) (C : Array Value) (hx : a.eval x = .pointer (some ⟨g, 0, none⟩)) (hy : a.eval y = .agg C) (hC : C.size = 19) (h1 : C.all (·.oneCell') = true) (D : Array Value) (hD : D.size = 19) (hA : Arr w g 27 D)
   (h : wpList Tryz.prog ops Q rest (a.put o.dst undef) (w.setRow g C)) : wpList Tryz.prog ops Q (o :: rest) a w :=
 wpList_store_arr hgd 27 x y ho g C hx hy 27 D hA (by rw [hC]; exact size45) (by rw [hC, hD]) h1 h
theorem st45n {ops : Array Oper} {rest : List Oper} {o : Oper} {a : Act} {Q : Exit → Act → World → Prop} (hgd : o.guard = none) (x y : Operand) (ho : o.op = .store 27 x y) (W : World) (g : Nat) (hgW : W.heap.size = g) {z : Array Value} (hz : z.size = 19)
   (C : Array Value) (hx : a.eval x = .pointer (some ⟨g, 0, none⟩)) (hy : a.eval y = .agg C) (hC : C.size = 19) (h1 : C.all (·.oneCell') = true)
   (h : wpList Tryz.prog ops Q rest (a.put o.dst undef) (W.alloc (.cells C 27))) : wpList Tryz.prog ops Q (o :: rest) a (W.alloc (.cells z 27)) := by
 subst hgW
 exact wpList_store_new W z 27 hgd 27 x y ho C hx hy (by rw [hC]; exact size45) (by rw [hz, hC]) h1 h
theorem res45 {f : Func} {w : World} {tmps : Array Value} {g t k l : Nat} {C : Array Value} {v u : Value} (hf : f.results = #[.cell t 27, .tmp k, .tmp l]) (hp : tmps.getD t undef = .pointer (some ⟨g, 0, none⟩)) (hk : tmps.getD k undef = v) (hl : tmps.getD l undef = u) (hC : C.size = 19) (hA : Arr w g 27 C) :
   (results f tmps).run Tryz.prog w = .ok (.tuple #[.agg C, v, u]) w := by
 have hr := run_loadVar_mid (P := Tryz.prog) w g 0 27 C.toList _ (fun j v hv => by rw [Nat.zero_add, hA.cell]; simpa using hv) Tryz.underlying27 rfl (by rw [Array.length_toList, hC]; exact size45)
 have hp' : tmps[t]?.getD undef = .pointer (some ⟨g, 0, none⟩) := by simpa using hp
 have hk' : tmps[k]?.getD undef = v := by simpa using hk
 have hl' : tmps[l]?.getD undef = u := by simpa using hl
 simp [results, hf, hp', hk', hl', asAddr, hr]
theorem res45b {f : Func} {w : World} {tmps : Array Value} {g t k : Nat} {C : Array Value} {v : Value} (hf : f.results = #[.cell t 27, .tmp k]) (hp : tmps.getD t undef = .pointer (some ⟨g, 0, none⟩)) (hk : tmps.getD k undef = v) (hC : C.size = 19) (hA : Arr w g 27 C) :
   (results f tmps).run Tryz.prog w = .ok (.tuple #[.agg C, v]) w := by
 have hr := run_loadVar_mid (P := Tryz.prog) w g 0 27 C.toList _ (fun j v hv => by rw [Nat.zero_add, hA.cell]; simpa using hv) Tryz.underlying27 rfl (by rw [Array.length_toList, hC]; exact size45)
 have hp' : tmps[t]?.getD undef = .pointer (some ⟨g, 0, none⟩) := by simpa using hp
 have hk' : tmps[k]?.getD undef = v := by simpa using hk
 simp [results, hf, hp', hk', asAddr, hr]
theorem res45c {f : Func} {w : World} {tmps : Array Value} {g t : Nat} {C : Array Value} (hf : f.results = #[.cell t 27]) (hp : tmps.getD t undef = .pointer (some ⟨g, 0, none⟩)) (hC : C.size = 19) (hA : Arr w g 27 C) :
   (results f tmps).run Tryz.prog w = .ok (.agg C) w := results_cell_row hf _ _ g 27 _ (0, 0) _ hp hA Tryz.underlying27 rfl (by rw [hC]; exact size45)
def szB (n : Nat) : Bool := (List.range 13).any (fun k => n == 2 ^ k)
theorem szB_all : ((List.range 4097).all fun n => (decide (1 ≤ n) && (n &&& (n - 1) == 0)) == szB n) = true := by decide +kernel
theorem szB_and {n : Nat} (h : n ≤ 4096) : (decide (1 ≤ n) && (n &&& (n - 1) == 0)) = szB n := by
 have := szB_all
 rw [List.all_eq_true] at this
 have h2 := this n (by simp; omega)
 simpa using h2
theorem szB_le {n : Nat} (h : szB n = true) : 1 ≤ n ∧ n ≤ 4096 := by
 unfold szB at h
 rw [List.any_eq_true] at h
 obtain ⟨k, hk, e⟩ := h
 simp at hk e
 subst e
 have h1 : 0 < 2 ^ k := Nat.pow_pos (by omega)
 have h2 : 2 ^ k ≤ 2 ^ 12 := Nat.pow_le_pow_right (by omega) (by omega)
 omega
theorem and_i64 {a b : Nat} (ha : a < 4611686018427387904) (hb : b < 4611686018427387904) : bits .and .i64 (a : Int) (b : Int) = ((a &&& b : Nat) : Int) := by
 have e1 : (BitVec.ofInt 64 (a : Int)).toNat = a := by rw [BitVec.ofInt_natCast, BitVec.toNat_ofNat]; exact Nat.mod_eq_of_lt (by omega)
 have e2 : (BitVec.ofInt 64 (b : Int)).toNat = b := by rw [BitVec.ofInt_natCast, BitVec.toNat_ofNat]; exact Nat.mod_eq_of_lt (by omega)
 show IntKind.i64.wrap ((BitVec.ofInt 64 (a : Int) &&& BitVec.ofInt 64 (b : Int)).toNat : Int) = _
 rw [BitVec.toNat_and, e1, e2, IntKind.wrap_i64]
 have := Nat.and_le_left (n := a) (m := b)
 omega
def szI (x : Int) : Bool := decide (0 ≤ x) && szB x.toNat
theorem szI_nat (n : Nat) : szI (n : Int) = szB n := by simp [szI]
theorem maySize_any (x : Int) (w : World) (hx : -9223372036854775808 ≤ x ∧ x ≤ 9223372036854775807) : Calls Tryz.prog 67 #[.int .i64 x] w fun e w' => e = .returned (.bool (szI x)) ∧ w' = w := by
 by_cases h1 : 1 ≤ x
 · by_cases h2 : x ≤ 4096
   · obtain ⟨n, rfl⟩ : ∃ n : Nat, x = n := ⟨x.toNat, by omega⟩
     have hb := and_i64 (a := n) (b := n - 1) (by omega) (by omega)
     rw [show ((n - 1 : Nat) : Int) = (n : Int) - 1 by omega] at hb
     have hs := szB_and (n := n) (by omega)
     have hf : ((((n &&& (n - 1) : Nat) : Int)) == 0) = szI (n : Int) := by
       rw [szI_nat, ← hs, Bool.eq_iff_iff]
       simp
       omega
     replace hf := Hid.mk' hf
     clear hs
     go_enter Tryz.func67, Tryz.ntmps67
     go_wp2
     go_ret
     exact ⟨by rw [← hf.out]; rfl, rfl⟩
   · have hf : szI x = false := by
       cases h : szI x with
       | false => rfl
       | true =>
         unfold szI at h
         have := szB_le (by simpa using (Bool.and_eq_true_iff.1 h).2)
         omega
     rw [hf]
     clear hf
     go_enter Tryz.func67, Tryz.ntmps67
     go_wp2
     go_ret
     exact ⟨rfl, rfl⟩
 · have hf : szI x = false := by
     cases h : szI x with
     | false => rfl
     | true =>
       unfold szI at h
       have := szB_le (by simpa using (Bool.and_eq_true_iff.1 h).2)
       omega
   rw [hf]
   clear hf
   go_enter Tryz.func67, Tryz.ntmps67
   go_wp2
   go_ret
   exact ⟨rfl, rfl⟩
def mayM (m : Mc) : Bool := szB m.me.length && decide (m.st ≤ 2)
theorem may_anyV (m : Mc) (sp : Option Addr) (n cap : Nat) (w : World) (hok : m.ok) (hl : Hid (n = m.me.length)) (hn : n ≤ 17592186044416) :
   Calls Tryz.prog 26 #[.agg (mcA m sp n cap)] w fun e w' => e = .returned (.bool (mayM m)) ∧ Below w.heap.size w w' := by
 have A0 := Arr.new w 27 (mcA m sp n cap)
 have c17 := (A0.cell 17).trans (mcA_17 hok.r16 sp n cap)
 have c18 := (A0.cell 18).trans (mcA_18 hok.r16 sp n cap)
 have hz : szI (n : Int) = szB m.me.length := by rw [szI_nat, hl.out]
 have hz := Hid.mk' hz
 unfold mayM
 generalize szB m.me.length = b at *
 generalize mcA m sp n cap = C at *
 cases b
 · go_enter Tryz.func26, Tryz.ntmps26
   go_wp2_with (go_at_call 67; go_must (refine (maySize_any _ _ (by omega)).mono ?_; rintro e w1 ⟨rfl, h⟩; subst h; rw [hz.out]))
   go_ret
   exact ⟨rfl, alloc_bel' _ _⟩
 · go_enter Tryz.func26, Tryz.ntmps26
   go_wp2_with (go_at_call 67; go_must (refine (maySize_any _ _ (by omega)).mono ?_; rintro e w1 ⟨rfl, h⟩; subst h; rw [hz.out]))
   go_ret
   exact ⟨rfl, alloc_bel' _ _⟩
def lw (x : Int) : List Int := lf (e8 x)
theorem lw_len (x : Int) : (lw x).length = 32 := shl_len _
def lvs (L : List Int) : List (List Int) := L.map lw
theorem lvs_len (L : List Int) : (lvs L).length = L.length := by simp [lvs]
theorem lvs_l32 (L : List Int) : ∀ x ∈ lvs L, x.length = 32 := by
 intro x hx
 obtain ⟨y, -, rfl⟩ := List.mem_map.1 hx
 exact lw_len y
theorem lvs_set (L : List Int) (i : Nat) (x : Int) : lvs (L.set i x) = (lvs L).set i (lw x) := by simp [lvs, List.map_set]
def tat (T : List (List Int)) (i : Nat) : List Int := T.getD i []
theorem tat_get {T : List (List Int)} {i : Nat} (h : i < T.length) : T[i]? = some (tat T i) := by simp [tat, List.getD_eq_getElem?_getD, List.getElem?_eq_getElem h]
theorem tat_l32 {T : List (List Int)} {i : Nat} (hT : ∀ x ∈ T, x.length = 32) (h : i < T.length) : (tat T i).length = 32 := hT _ (List.mem_of_getElem? (tat_get h))
theorem tat_app1 {T : List (List Int)} {i : Nat} (X : List Int) (h : i < T.length) : tat (T ++ [X]) i = tat T i := by simp [tat, List.getD_eq_getElem?_getD, List.getElem?_append_left h]
theorem tat_app2 (T : List (List Int)) (X : List Int) : tat (T ++ [X]) T.length = X := by simp [tat, List.getD_eq_getElem?_getD]
theorem tat_set1 {T : List (List Int)} {i : Nat} (X : List Int) (h : i < T.length) : tat (T.set i X) i = X := by simp [tat, List.getD_eq_getElem?_getD, h]
theorem tat_set2 {T : List (List Int)} {i j : Nat} (X : List Int) (h : i ≠ j) : tat (T.set i X) j = tat T j := by simp [tat, List.getD_eq_getElem?_getD, List.getElem?_set_ne h]
theorem tat_lvs {L : List Int} {i : Nat} (h : i < L.length) : tat (lvs L) i = lw (L.getD i 0) := by
 simp [tat, lvs, List.getD_eq_getElem?_getD, List.getElem?_eq_getElem h]
structure TI (n : Nat) (l T : List (List Int)) (P : Nat → Prop) : Prop where
 leaf : ∀ i, i < n → i < T.length → tat T i = tat l i
 node : ∀ k, n + k < T.length → P k → tat T (n + k) = pr (tat T (2 * k)) (tat T (2 * k + 1))
 l32 : ∀ x ∈ T, x.length = 32
theorem TI.appNode {n k : Nat} {l T : List (List Int)} (h : TI n l T (fun _ => True)) (hj : T.length = n + k) (hn : k + 1 < n) {X : List Int} (hX : X = pr (tat T (2 * k)) (tat T (2 * k + 1))) : TI n l (T ++ [X]) (fun _ => True) := by
 refine ⟨fun i hi hil => ?_, fun q hq _ => ?_, fun x hx => ?_⟩
 · rw [tat_app1 _ (by omega)]; exact h.leaf i hi (by omega)
 · by_cases e : q = k
   · subst e
     rw [← hj, tat_app2, tat_app1 _ (by omega), tat_app1 _ (by omega), hX]
   · have hq' : q < k := by simp at hq; omega
     rw [tat_app1 _ (by omega), tat_app1 _ (by omega), tat_app1 _ (by omega)]
     exact h.node q (by omega) trivial
 · rcases List.mem_append.1 hx with hx | hx
   · exact h.l32 x hx
   · simp at hx; subst hx; rw [hX]; exact pr_len _ _
theorem mem_set_or {T : List (List Int)} {i : Nat} {X x : List Int} (h : x ∈ T.set i X) : x = X ∨ x ∈ T := by
 rcases List.mem_or_eq_of_mem_set h with h | h
 · exact Or.inr h
 · exact Or.inl h
theorem TI.setLeaf {n i : Nat} {l T : List (List Int)} (h : TI n l T (fun _ => True)) (hi : i < n) (hT : n ≤ T.length) (hl : n ≤ l.length) {X : List Int} (h32 : X.length = 32) : TI n (l.set i X) (T.set i X) (fun k => k ≠ i / 2) := by
 refine ⟨fun j hj hjl => ?_, fun k hk hP => ?_, fun x hx => ?_⟩
 · by_cases e : i = j
   · subst e; rw [tat_set1 _ (by omega), tat_set1 _ (by omega)]
   · rw [tat_set2 _ e, tat_set2 _ e]; exact h.leaf j hj (by simpa using hjl)
 · rw [tat_set2 _ (by omega), tat_set2 _ (by omega), tat_set2 _ (by omega)]
   exact h.node k (by simpa using hk) trivial
 · rcases mem_set_or hx with rfl | hx
   · exact h32
   · exact h.l32 x hx
theorem TI.setNode {n a : Nat} {l T : List (List Int)} (h : TI n l T (fun k => k ≠ a / 2)) (ha : a / 2 + 1 < n) (hT : T.length = 2 * n - 1) {X : List Int} (hX : X = pr (tat T (2 * (a / 2))) (tat T (2 * (a / 2) + 1))) : TI n l (T.set (n + a / 2) X) (fun k => k ≠ (n + a / 2) / 2) := by
 refine ⟨fun j hj hjl => ?_, fun k hk hP => ?_, fun x hx => ?_⟩
 · rw [tat_set2 _ (by omega)]; exact h.leaf j hj (by simpa using hjl)
 · by_cases e : k = a / 2
   · rw [e, tat_set1 _ (by omega), tat_set2 _ (by omega), tat_set2 _ (by omega), hX]
   · rw [tat_set2 _ (by omega), tat_set2 _ (by omega), tat_set2 _ (by omega)]
     exact h.node k (by simpa using hk) e
 · rcases mem_set_or hx with rfl | hx
   · rw [hX]; exact pr_len _ _
   · exact h.l32 x hx
theorem TI.done {n a : Nat} {l T : List (List Int)} (h : TI n l T (fun k => k ≠ a / 2)) (ha : ¬ a / 2 + 1 < n) (hT : T.length = 2 * n - 1) : TI n l T (fun _ => True) :=
 ⟨h.leaf, fun k hk _ => h.node k hk (by omega), h.l32⟩
def lo (d k : Nat) : Nat := 2 ^ (d + 1) - 2 ^ (d + 1 - k)
theorem lo_zero (d : Nat) : lo d 0 = 0 := by simp [lo]
theorem lo_even {d k : Nat} (hk : k ≤ d) : ∃ q, lo d k = 2 * q ∧ 2 ^ d + q = lo d (k + 1) ∧ q + 2 ^ (d - k) = 2 ^ d := by
 obtain ⟨m, rfl⟩ : ∃ m, d = k + m := ⟨d - k, by omega⟩
 refine ⟨2 ^ (k + m) - 2 ^ m, ?_, ?_, ?_⟩
 · unfold lo
   rw [show k + m + 1 - k = m + 1 by omega, Nat.pow_succ, Nat.pow_succ]; omega
 · unfold lo
   have : 2 ^ m ≤ 2 ^ (k + m) := Nat.pow_le_pow_right (by omega) (by omega)
   rw [show k + m + 1 - (k + 1) = m by omega, Nat.pow_succ]; omega
 · have : 2 ^ m ≤ 2 ^ (k + m) := Nat.pow_le_pow_right (by omega) (by omega)
   rw [show k + m - k = m by omega]; omega
theorem TI.val {d : Nat} {l T : List (List Int)} (h : TI (2 ^ d) l T (fun _ => True)) (hT : T.length = 2 * 2 ^ d - 1) (hl : l.length = 2 ^ d) (k : Nat) : k ≤ d → ∀ j, j < 2 ^ (d - k) → tat T (lo d k + j) = tr k (l.drop (j * 2 ^ k)) := by
 have hp : 0 < 2 ^ d := Nat.pow_pos (by omega)
 induction k with
 | zero =>
   intro _ j hj
   rw [Nat.sub_zero] at hj
   rw [lo_zero, Nat.zero_add, h.leaf j hj (by omega)]
   rw [Nat.pow_zero, Nat.mul_one, List.drop_eq_getElem_cons (by omega)]
   simp [tr, tat, List.getD_eq_getElem?_getD, List.getElem?_eq_getElem (show j < l.length by omega)]
 | succ k ih =>
   intro hk j hj
   obtain ⟨q, e1, e2, e3⟩ := lo_even (show k ≤ d by omega)
   have h2 : 2 ^ (d - k) = 2 * 2 ^ (d - (k + 1)) := by rw [show d - k = d - (k + 1) + 1 by omega, Nat.pow_succ]; omega
   have h3 : 0 < 2 ^ (d - (k + 1)) := Nat.pow_pos (by omega)
   rw [← e2, Nat.add_assoc, h.node (q + j) (by omega) trivial]
   have a1 := ih (by omega) (2 * j) (by omega)
   have a2 := ih (by omega) (2 * j + 1) (by omega)
   rw [e1] at a1 a2
   rw [show 2 * (q + j) = 2 * q + 2 * j by omega, a1, show 2 * q + 2 * j + 1 = 2 * q + (2 * j + 1) by omega, a2]
   exact tr_two k j l
theorem TI.top {d : Nat} {l T : List (List Int)} (h : TI (2 ^ d) l T (fun _ => True)) (hT : T.length = 2 * 2 ^ d - 1) (hl : l.length = 2 ^ d) : tat T (2 * 2 ^ d - 2) = tr d l := by
 have := h.val hT hl d (Nat.le_refl _) 0 (by simp)
 rw [Nat.zero_mul, List.drop_zero, Nat.add_zero] at this
 rw [← this]
 congr 1
 unfold lo
 rw [show d + 1 - d = 1 by omega, Nat.pow_succ]; omega
def wy (d i k : Nat) : Nat := lo d k + i / 2 ^ k
theorem wy_zero (d i : Nat) : wy d i 0 = i := by simp [wy, lo_zero]
theorem div_lt_pow {d i k : Nat} (hi : i < 2 ^ d) (hk : k ≤ d) : i / 2 ^ k < 2 ^ (d - k) := by
 rw [Nat.div_lt_iff_lt_mul (Nat.pow_pos (by omega)), ← Nat.pow_add]
 rwa [show d - k + k = d by omega]
theorem wy_succ {d i k : Nat} (hk : k ≤ d) : wy d i (k + 1) = 2 ^ d + wy d i k / 2 := by
 obtain ⟨q, e1, e2, e3⟩ := lo_even hk
 unfold wy
 rw [← e2, e1, div_succ]
 omega
theorem wy_lt {d i k : Nat} (hi : i < 2 ^ d) (hk : k < d) : wy d i k + 2 < 2 * 2 ^ d := by
 obtain ⟨q, e1, e2, e3⟩ := lo_even (show k ≤ d by omega)
 have := div_lt_pow hi (show k ≤ d by omega)
 have h2 : 2 ^ (d - k) = 2 * 2 ^ (d - (k + 1)) := by rw [show d - k = d - (k + 1) + 1 by omega, Nat.pow_succ]; omega
 have h3 : 0 < 2 ^ (d - (k + 1)) := Nat.pow_pos (by omega)
 unfold wy
 rw [e1]
 omega
theorem wy_end {d i : Nat} (hi : i < 2 ^ d) : wy d i d = 2 * 2 ^ d - 2 := by
 unfold wy lo
 rw [Nat.div_eq_of_lt hi, show d + 1 - d = 1 by omega, Nat.pow_succ]; omega
theorem sib_wy {d i k : Nat} (hk : k ≤ d) : sib (wy d i k) = lo d k + sib (i / 2 ^ k) := by
 obtain ⟨q, e1, -, -⟩ := lo_even hk
 unfold wy sib
 rw [e1]
 generalize i / 2 ^ k = j
 split <;> split <;> omega
theorem sib_lt {m j : Nat} (h : j < 2 * m) : sib j < 2 * m := by unfold sib; split <;> omega
theorem TI.beside {d i k : Nat} {l T : List (List Int)} (h : TI (2 ^ d) l T (fun _ => True)) (hT : T.length = 2 * 2 ^ d - 1) (hl : l.length = 2 ^ d) (hi : i < 2 ^ d) (hk : k < d) : pf (k + 1) l i = pf k l i ++ [tat T (sib (wy d i k))] ∧ sib (wy d i k) < T.length := by
 have h1 := div_lt_pow hi (show k ≤ d by omega)
 have h2 : 2 ^ (d - k) = 2 * 2 ^ (d - (k + 1)) := by rw [show d - k = d - (k + 1) + 1 by omega, Nat.pow_succ]; omega
 rw [h2] at h1
 have h3 := sib_lt h1
 rw [pf_succ, sib_wy (show k ≤ d by omega), h.val hT hl k (by omega) _ (by omega)]
 refine ⟨rfl, ?_⟩
 obtain ⟨q, e1, e2, e3⟩ := lo_even (show k ≤ d by omega)
 rw [e1]
 have h4 : 0 < 2 ^ (d - (k + 1)) := Nat.pow_pos (by omega)
 omega
theorem szB_pow {n : Nat} (h : szB n = true) : ∃ d, d ≤ 12 ∧ n = 2 ^ d := by
 unfold szB at h
 rw [List.any_eq_true] at h
 obtain ⟨k, hk, e⟩ := h
 simp at hk e
 exact ⟨k, by omega, e⟩
theorem pow_szB {d : Nat} (h : d ≤ 12) : szB (2 ^ d) = true := by
 unfold szB
 rw [List.any_eq_true]
 exact ⟨d, by simp; omega, by simp⟩
def rW (L : List Int) : List Int := if szB L.length = true then tr (Nat.log2 L.length) (lvs L) else Z32
def eW (L : List Int) : Int := if szB L.length = true then 0 else 2
theorem rW_pow {L : List Int} {d : Nat} (hd : d ≤ 12) (h : L.length = 2 ^ d) : rW L = tr d (lvs L) ∧ eW L = 0 := by
 unfold rW eW
 rw [h, pow_szB hd, Nat.log2_two_pow]; simp
theorem rW_no {L : List Int} (h : szB L.length = false) : rW L = Z32 ∧ eW L = 2 := by
 unfold rW eW
 rw [h]; simp
theorem rW_len (L : List Int) : (rW L).length = 32 := by
 unfold rW; split
 · exact tr_len _ _ (lvs_l32 L)
 · exact Z32_len
structure MVV (w : World) (m : Mc) (C : Array Value) : Prop where
 ex : ∃ sp n cap, C = mcA m sp n cap ∧ MS w.heap.size w sp n cap m.me
 ok : m.ok
theorem i64_andNot1 (x : Nat) (hx : x < 4611686018427387904) : bits .andNot .i64 (x : Int) 1 = ((2 * (x / 2) : Nat) : Int) := by
 have e1 : (BitVec.ofInt 64 (x : Int)).toNat = x := by rw [BitVec.ofInt_natCast, BitVec.toNat_ofNat]; exact Nat.mod_eq_of_lt (by omega)
 have h1 : (BitVec.ofInt 64 1).toNat = 1 := by decide
 have key : x &&& 18446744073709551614 = 2 * (x / 2) := by
   have a : (x &&& 18446744073709551614) / 2 = x / 2 := by
     rw [Nat.and_div_two, show 18446744073709551614 / 2 = 2 ^ 63 - 1 by decide, Nat.and_two_pow_sub_one_eq_mod]
     exact Nat.mod_eq_of_lt (by omega)
   have b : (x &&& 18446744073709551614) % 2 = 0 := by
     have h := Nat.and_mod_two_pow (a := x) (b := 18446744073709551614) (n := 1)
     simp only [Nat.pow_one] at h
     rw [h]; simp
   omega
 show IntKind.i64.wrap ((BitVec.ofInt 64 (x : Int) &&& ~~~BitVec.ofInt 64 1).toNat : Int) = _
 rw [BitVec.toNat_and, BitVec.toNat_not, e1, h1, show 2 ^ 64 - 1 - 1 = 18446744073709551614 by decide, key, IntKind.wrap_i64]
 omega
structure HB (w : World) (g : Nat) (T : List (List Int)) : Prop where
 arr : ∃ C, Arr w g 30 C
 sum : ∀ i X, T[i]? = some X → w.rangeAt g (i * 32) (by8 X)
 l32 : ∀ X ∈ T, X.length = 32
theorem HB.below {w w' : World} {g B : Nat} {T : List (List Int)} (h : HB w g T) (hb : Below B w w') (hg : g < B) : HB w' g T :=
 ⟨let ⟨C, hC⟩ := h.arr; ⟨C, hC.below hb hg⟩, fun i X hX => range_below (h.sum i X hX) hb hg, h.l32⟩
theorem HB.lt {w : World} {g : Nat} {T : List (List Int)} (h : HB w g T) : g < w.heap.size := let ⟨_, hC⟩ := h.arr; hC.lt
theorem HB.at {w : World} {g i : Nat} {T : List (List Int)} (h : HB w g T) (hi : i < T.length) : w.rangeAt g (i * 32) (by8 (tat T i)) := h.sum i _ (tat_get hi)
theorem HB.block {w w' : World} {g : Nat} {T : List (List Int)} (h : HB w g T) (hb : w'.heap[g]? = w.heap[g]?) : HB w' g T :=
 ⟨let ⟨C, hC⟩ := h.arr; ⟨C, hb.trans hC⟩, fun i X hX j v hv => (World.cell?_of_block (a := ⟨g, i * 32 + j, none⟩) hb).trans (h.sum i X hX j v hv), h.l32⟩
theorem MW.block' {w w' : World} {g : Nat} {L : List Int} (h : MW w g L) (hb : w'.heap[g]? = w.heap[g]?) : MW w' g L :=
 let ⟨C, hC, h2⟩ := h; ⟨C, hb.trans hC, h2⟩
theorem HB.there {w : World} {g i : Nat} {T : List (List Int)} (h : HB w g T) (hi : i < T.length) : w.there g (i * 32) 32 := fun j hj => by
 obtain ⟨C, hC⟩ := h.arr
 have hX := h.at hi
 have hl := tat_l32 h.l32 hi
 exact ⟨by rw [hX j _ (by8_get (by omega))]; rfl, hC.frozen _⟩
theorem arr_setCells {g ty : Nat} : ∀ (vs : List Value) (o : Nat) (w : World), (∃ C, Arr w g ty C) → ∃ C, Arr (w.setCells g o vs) g ty C
 | [], _, _, h => h
 | v :: r, o, w, ⟨C, h⟩ => by rw [World.setCells]; exact arr_setCells r (o + 1) _ ⟨_, h.set o v⟩
theorem HB.set {w : World} {g i : Nat} {T : List (List Int)} (h : HB w g T) (hi : i < T.length) {X : List Int} (hX : X.length = 32) : HB (w.setCells g (i * 32) (by8 X)) g (T.set i X) := by
 have hth := h.there hi
 refine ⟨arr_setCells _ _ _ h.arr, fun j Y hY => ?_, fun Y hY => ?_⟩
 · by_cases e : i = j
   · subst e
     rw [List.getElem?_set_self hi] at hY
     cases hY
     exact World.rangeAt_setCells_same _ _ _ _ (by rw [by8_len, hX]; exact hth)
   · rw [List.getElem?_set_ne e] at hY
     refine World.rangeAt_setCells_apart (h.sum j Y hY) _ _ _ (.inr ?_)
     rw [by8_len, by8_len, hX, h.l32 Y (List.mem_of_getElem? hY)]
     omega
 · rcases mem_set_or hY with rfl | hY
   · exact hX
   · exact h.l32 Y hY
theorem MW.set {w : World} {g i : Nat} {L : List Int} (h : MW w g L) (hi : i < L.length) (x : Int) : MW (w.setCell ⟨g, i, none⟩ (.int .u64 x)) g (L.set i x) := by
 obtain ⟨C, hA, hC⟩ := h
 refine ⟨_, hA.set i _, fun t ht => ?_⟩
 rw [List.length_set] at ht
 have hs : i < C.size := (Array.getElem?_eq_some_iff.1 (hC i hi)).1
 by_cases e : i = t
 · subst e
   rw [Array.getElem?_setIfInBounds_self_of_lt hs]
   simp [List.getD_eq_getElem?_getD, hi]
 · rw [Array.getElem?_setIfInBounds_ne e, hC t ht]
   simp [List.getD_eq_getElem?_getD, List.getElem?_set_ne e]
theorem MW.frz {w : World} {g i : Nat} {L : List Int} (h : MW w g L) : w.frozen? ⟨g, i, none⟩ = false := by
 obtain ⟨C, hA, hC⟩ := h
 exact hA.frozen i
def fL : Value := .func (Fn.func 71) #[] #[]
structure MF (w : World) (g n m : Nat) (L : List Int) (T : List (List Int)) (gt ct gl cl : Nat) : Prop where
 c0 : w.cell? ⟨g, 0, none⟩ = some fL
 c1 : w.cell? ⟨g, 1, none⟩ = some (.slice (some ⟨gt, 0, none⟩) n ct)
 c2 : w.cell? ⟨g, 2, none⟩ = some (.slice (some ⟨gl, 0, none⟩) m cl)
 words : MW w gt L
 sums : HB w gl T
 hL : Hid (L.length = n)
 hT : Hid (T.length = m)
 hm : Hid (m + 1 = 2 * n)
 n0 : 0 < n
 n4 : n ≤ 4096
 ct1 : n ≤ ct
 ct2 : ct ≤ 9223372036854775807
 cl1 : m ≤ cl
 cl2 : cl ≤ 9223372036854775807
 ne1 : g ≠ gt
 ne2 : g ≠ gl
 ne3 : gt ≠ gl
theorem MF.lt {w : World} {g n m : Nat} {L : List Int} {T : List (List Int)} {gt ct gl cl : Nat} (h : MF w g n m L T gt ct gl cl) : g < w.heap.size ∧ gt < w.heap.size ∧ gl < w.heap.size :=
 ⟨block_lt_of_cell h.c0, h.words.lt, h.sums.lt⟩
theorem MF.block {w w' : World} {g n m : Nat} {L : List Int} {T : List (List Int)} {gt ct gl cl : Nat} (h : MF w g n m L T gt ct gl cl) (hb : ∀ k, k = g ∨ k = gt ∨ k = gl → w'.heap[k]? = w.heap[k]?) : MF w' g n m L T gt ct gl cl :=
 { h with
   c0 := (World.cell?_of_block (a := ⟨g, 0, none⟩) (hb g (.inl rfl))).trans h.c0
   c1 := (World.cell?_of_block (a := ⟨g, 1, none⟩) (hb g (.inl rfl))).trans h.c1
   c2 := (World.cell?_of_block (a := ⟨g, 2, none⟩) (hb g (.inl rfl))).trans h.c2
   words := h.words.block' (hb gt (.inr (.inl rfl)))
   sums := h.sums.block (hb gl (.inr (.inr rfl))) }
theorem MF.keep {w w' : World} {g n m : Nat} {L : List Int} {T : List (List Int)} {gt ct gl cl : Nat} (h : MF w g n m L T gt ct gl cl) (hb : Below w.heap.size w w') : MF w' g n m L T gt ct gl cl :=
 h.block (fun k hk => hb.block k (by have := h.lt; rcases hk with rfl | rfl | rfl <;> omega))
theorem MF.setWord {w : World} {g n m i : Nat} {L : List Int} {T : List (List Int)} {gt ct gl cl : Nat} (h : MF w g n m L T gt ct gl cl) (hi : i < n) (x : Int) : MF (w.setCell ⟨gt, i, none⟩ (.int .u64 x)) g n m (L.set i x) T gt ct gl cl := by
 have e : ∀ k, k ≠ gt → (w.setCell ⟨gt, i, none⟩ (.int .u64 x)).heap[k]? = w.heap[k]? := fun k hk => Below.heap_setCell _ _ _ _ hk
 exact { h with
   c0 := (World.cell?_of_block (a := ⟨g, 0, none⟩) (e g h.ne1)).trans h.c0
   c1 := (World.cell?_of_block (a := ⟨g, 1, none⟩) (e g h.ne1)).trans h.c1
   c2 := (World.cell?_of_block (a := ⟨g, 2, none⟩) (e g h.ne1)).trans h.c2
   words := h.words.set (by rw [h.hL.out]; exact hi) x
   sums := h.sums.block (e gl h.ne3.symm)
   hL := Hid.mk' (by rw [List.length_set]; exact h.hL.out) }
theorem MF.setSum {w : World} {g n m i : Nat} {L : List Int} {T : List (List Int)} {gt ct gl cl : Nat} (h : MF w g n m L T gt ct gl cl) (hi : i < m) {X : List Int} (hX : X.length = 32) : MF (w.setCells gl (i * 32) (by8 X)) g n m L (T.set i X) gt ct gl cl := by
 have e : ∀ k, k ≠ gl → (w.setCells gl (i * 32) (by8 X)).heap[k]? = w.heap[k]? := fun k hk => heap_setCells_other hk _ _ _
 exact { h with
   c0 := (World.cell?_of_block (a := ⟨g, 0, none⟩) (e g h.ne2)).trans h.c0
   c1 := (World.cell?_of_block (a := ⟨g, 1, none⟩) (e g h.ne2)).trans h.c1
   c2 := (World.cell?_of_block (a := ⟨g, 2, none⟩) (e g h.ne2)).trans h.c2
   words := h.words.block' (e gt h.ne3)
   sums := h.sums.set (by rw [h.hT.out]; exact hi) hX
   hT := Hid.mk' (by rw [List.length_set]; exact h.hT.out) }
theorem Chg.setCells' {S : Nat → Prop} {a b : World} {g : Nat} (h : Chg S a b) (hg : S g) : ∀ (vs : List Value) (o : Nat), Chg S a (b.setCells g o vs) := by
 intro vs o
 have hb := below_setCells (Below.refl 0 b) (Nat.zero_le g) vs o
 refine ⟨hb.os.trans h.os, hb.tape.trans h.tape, hb.output.trans h.output, by rw [size_setCells]; exact h.size, fun k hk hS => ?_⟩
 have hne : k ≠ g := by rintro rfl; exact hS hg
 rw [heap_setCells_other hne]; exact h.block k hk hS
theorem Chg.setCell' {S : Nat → Prop} {a b : World} {g o : Nat} (h : Chg S a b) (hg : S g) (v : Value) : Chg S a (b.setCell ⟨g, o, none⟩ v) := Chg.setCells' h hg [v] o
theorem Chg.belowS {S : Nat → Prop} {a b c : World} (h : Chg S a b) (hb : Below b.heap.size b c) : Chg S a c := h.trans (Chg.of_below hb)
structure ME (w : World) (g d n m : Nat) (L : List Int) (gt ct gl cl : Nat) : Prop where
 ex : ∃ T, MF w g n m L T gt ct gl cl ∧ TI n (lvs L) T (fun _ => True)
 hd : d ≤ 12
 hn : Hid (n = 2 ^ d)
theorem y24 {ops : Array Oper} {S : World → Prop} {op : Oper} {a : Act} (hw : Region.wanted op (yielded ops a.tmps) = true) (x : Operand) (ho : op.op = .load 30 x)
   (b o : Nat) (hx : a.eval x = .pointer (some ⟨b, o, none⟩)) (X : List Int) (hX : X.length = 32) (hS : ∀ w, S w → w.rangeAt b o (by8 X)) : YieldsIf Tryz.prog ops S op (.agg (h8 X)) a :=
 yieldsIf_load_mid hw 30 x ho b o hx (by8 X) _ hS Tryz.underlying30 rfl (by rw [by8_len, hX]; exact size24)
section
open Go.RowKit Go.Shelf
theorem flat32_at {ls : List (List Int)} (h : ∀ x ∈ ls, x.length = 32) {i : Nat} {X : List Int} (hX : ls[i]? = some X) {j : Nat} {v : Value} (hv : (by8 X)[j]? = some v) : (flat32 ls)[i * 32 + j]? = some v := by
 induction ls generalizing i with
 | nil => simp at hX
 | cons a r ih =>
   have ha := h a (by simp)
   have hj : j < 32 := by
     have := (List.getElem?_eq_some_iff.1 hv).1
     rw [by8_len, h X (List.mem_of_getElem? hX)] at this; exact this
   simp only [flat32, List.map_cons, List.flatten_cons]
   cases i with
   | zero =>
     simp at hX
     subst hX
     rw [List.getElem?_append_left (by rw [by8_len, ha]; omega)]
     simpa using hv
   | succ i =>
     have := ih (fun x hx => h x (by simp [hx])) (i := i) (by simpa using hX)
     rw [List.getElem?_append_right (by rw [by8_len, ha]; omega), by8_len, ha, show (i + 1) * 32 + j - 32 = i * 32 + j by omega]
     exact this
theorem own_hs {w : World} {base n : Nat} {v : Value} {ls : List (List Int)} (h : w.ownsRow base 30 32 v n (flat32 ls)) (hl : ∀ x ∈ ls, x.length = 32) (hn : n = ls.length) (hsm : n ≤ 1000000) : ∃ sp cap, v = .slice sp n cap ∧ HS w.heap.size w sp n cap ls ∧ ∀ b off, sp = some ⟨b, off, none⟩ → base ≤ b := by
 obtain ⟨-, h | ⟨g, cap, cur, rfl, hg, hh, hnc, hcm, hc, ht⟩⟩ := h
 · obtain ⟨rfl, rfl⟩ := h
   obtain rfl : ls = [] := List.eq_nil_of_length_eq_zero hn.symm
   exact ⟨none, 0, rfl, HS.nil0 _ _, fun b off e => by cases e⟩
 · refine ⟨_, cap, rfl, ⟨hn, (fun e => by cases e), hnc, by unfold maxLen at hcm; omega, by omega, fun h0 => ⟨g, 0, rfl, (Array.getElem?_eq_some_iff.1 hh).1, fun i X hX j u hu => ?_⟩, hl⟩, fun b off e => by cases e; exact hg⟩
   have hi := (List.getElem?_eq_some_iff.1 hX).1
   have hj : j < 32 := by
     have := (List.getElem?_eq_some_iff.1 hu).1
     rw [by8_len, hl X (List.mem_of_getElem? hX)] at this; exact this
   rw [Nat.zero_add, cell_of_row w g _ cur 30 (0, 0) hh, ← Array.getElem?_toList, ← List.getElem?_take_of_lt (show i * 32 + j < n * 32 by omega), ht]
   exact flat32_at hl hX hu
end
end Go.Proofs.YtagebcbnenehfaaGreat
