/- Ug, Mf, Mx, Mq, My. -/
import Derived.Test.YtndonaebdbbofaaX01
import Derived.Test.YtndonaebdbbofaaX03
import Derived.Test.YtndonaebdbbofaaX06
import Derived.Test.YtndonaebdbbofaaX10
import Derived.BigQuiet
import Derived.BigRegion
import Derived.ChangeKeysEq
import Derived.Deep.DeepCutAuto
import Derived.Deep.DrawnRows
import Derived.Deep.QuietTactic
import Derived.Deep.RegionHeld3
import Derived.Deep.RegionLaw
import Derived.Deep.RegionWith
import Derived.Deep.WholeRow
import Derived.Laws.AppendOwnNone
import Derived.Laws.BytesArg
import Derived.Laws.CopyOwn
import Derived.Lib.SlBytesConst
import Derived.WalkKit
import Derived.WalkLawsBesides
import Derived.WalkSpells
import Derived.Test.YtndonaebdbbofaaX14
import Derived.Deep.MidRow
import Derived.Laws.BitsLemmas
import Derived.Test.YtndonaebdbbofaaX07
import Derived.Test.YtndonaebdbbofaaX13
import Derived.Test.YtndonaebdbbofaaX11
import Derived.Great.BuildSlice
import Derived.Great.FillDense
import Derived.Laws.CopyRow
import Derived.Laws.MakeOwn
import Derived.Laws.OwnMore
import Derived.LoopIn
import Derived.LoopNIn
import Derived.OwnWalkIn
import Derived.RangeFuncBound
import Derived.RangeFuncCalls
import Derived.RangeFuncLeaves
import Derived.RangeFuncNested
import Derived.RangeFuncRecord
import Derived.Shelf.Abstract
import Derived.Shelf.RegionOpen
import Derived.TacticsInMore
/- Layer mem: what the layers below give. -/
namespace Go.Proofs.Ytndonaebdbbofaa
open Go.RowKit
set_option maxRecDepth 100000
set_option linter.unusedVariables false
set_option linter.unusedSimpArgs false

theorem Arr.storeSha {w : World} {g t : Nat} {Z : Array Value} (h : Arr w g t Z) (hZ : Z.size = 32) (M : List Int) : (storeCells ⟨g, 0, none⟩ (sha M).toList).run Try.prog w = .ok () (w.setRow g (sha M)) := by
  have := run_storeCells_from (P := Try.prog) g t (sha M).toList 0 Z w h (by simp [sha_size, hZ]) (fun v hv => (Array.all_eq_true_iff_forall_mem.1 (sha_one M)) v (by simpa using hv))
  have e : (Z.toList.drop (sha M).size) = [] := by rw [sha_size]; exact List.drop_eq_nil_of_le (by simp [hZ])
  simpa [e] using this
set_option maxRecDepth 100000 in
set_option maxHeartbeats 1000000 in
theorem refPair_any (X Y : List Int) (w : World) (hX : X.length = 32) (hY : Y.length = 32) :
    Calls Try.prog 33 #[.agg (h8 X), .agg (h8 Y)] w fun e w' => e = .returned (.agg (sha (1 :: (X ++ Y)))) ∧ Below w.heap.size w w' := by
  have HX := Hid.mk' hX
  have HY := Hid.mk' hY
  clear hX hY
  go_enter Try.func33, Try.ntmps33
  go_upto_region 1 with fail
  obtain ⟨W, hWe⟩ : ∃ W : World, W = ((w.alloc (.cells (h8 X) 43)).alloc (.cells (h8 Y) 43)).alloc (.cells #[.int .u8 0, .int .u8 0, .int .u8 0, .int .u8 0, .int .u8 0, .int .u8 0, .int .u8 0, .int .u8 0, .int .u8 0, .int .u8 0, .int .u8 0, .int .u8 0, .int .u8 0, .int .u8 0, .int .u8 0, .int .u8 0, .int .u8 0, .int .u8 0, .int .u8 0, .int .u8 0, .int .u8 0, .int .u8 0, .int .u8 0, .int .u8 0, .int .u8 0, .int .u8 0, .int .u8 0, .int .u8 0, .int .u8 0, .int .u8 0, .int .u8 0, .int .u8 0] 43) := ⟨_, rfl⟩
  rw [← hWe]
  have hX0 : Arr W w.heap.size 43 (h8 X) := by rw [hWe]; exact ((Arr.new _ _ _).alloc _).alloc _
  have hY0 : Arr W (w.heap.size + 1) 43 (h8 Y) := by rw [hWe]; exact (show Arr ((w.alloc _).alloc _) (w.heap.size + 1) 43 (h8 Y) from (by simpa using Arr.new (w.alloc (.cells (h8 X) 43)) 43 (h8 Y))).alloc _
  have hZ0 : ∃ Z : Array Value, Z.size = 32 ∧ Arr W (w.heap.size + 2) 43 Z := by
    refine ⟨_, ?_, by rw [hWe]; exact Arr.new3 w _ _ 43 _⟩
    rfl
  have hB0 : Below w.heap.size w W := by rw [hWe]; exact (((Below.refl _ _).alloc (Nat.le_refl _) _).alloc (by simp) _).alloc (by simp; omega) _
  have hz0 : W.heap.size = w.heap.size + 3 := by rw [hWe]; simp
  clear hWe
  obtain ⟨Z, hZs, hZ0⟩ := hZ0
  have hlit : (W.alloc (.cells #[.int .u8 1] 5)).drew.ownsRow (w.heap.size + 3) 5 1 (.slice (some ⟨W.heap.size, 0, none⟩) 1 1) 1 (by8 [1]) := World.ownsRow_lit _ _ _ (by rw [hz0]; exact Nat.le_refl _) (by unfold maxLen; omega) rfl
  have HZ0 := Hid.mk' hz0
  clear hz0
  have hsz := sha_size (1 :: (X ++ Y))
  go_region_law ((first
    | (refine step_append_bytes (by rfl) (.tmp 5) (.tmp 6) (by rfl) (w.heap.size + 3) _ 1 [1] (by rfl) hlit (some ⟨w.heap.size, 0, none⟩) 32 32 X (by rfl) HX.out.symm (fun h => by cases h) (Arr.sl (hX0.alloc _)) (by omega) (by simp [HZ0.out]) ?_; intro v2 w2 hown2 hg2)
    | (refine step_append_bytes (by rfl) (.tmp 7) (.tmp 8) (by rfl) (w.heap.size + 3) _ 33 ([1] ++ X) (by rfl) hown2 (some ⟨w.heap.size + 1, 0, none⟩) 32 32 Y (by rfl) HY.out.symm (fun h => by cases h) (Arr.sl ((hY0.alloc _).drew.grown hg2 (ne_own hlit (by omega)))) (by omega) (by have := hg2.size; simp [HZ0.out] at this; omega) ?_; intro v3 w3 hown3 hg3; obtain ⟨g, c3, rfl, hn3, hc3, hgg, hBy, -⟩ := own_slice hown3 (by omega); have hZ3 := (((hZ0.alloc (.cells #[.int .u8 1] 5)).drew.grown hg2 (ne_own hlit (by omega))).grown hg3 (ne_own hown2 (by omega))))
    | (go_simp; go_at_call 54; refine (refSum_any (some ⟨g, 0, none⟩) 65 c3 (1 :: (X ++ Y)) _ hn3.out (fun h => by cases h) (fun _ => ⟨g, 0, rfl, hBy⟩) (by omega)).mono ?_; rintro e w4 ⟨rfl, hb4⟩; have hZ4 := hZ3.below hb4 hZ3.lt; have hst := hZ4.storeSha hZs (1 :: (X ++ Y)); go_simp)))
  go_wp2_with fail
  have hg2s := hg2.size
  simp [HZ0.out] at hg2s
  have hB3 : Below w.heap.size w w3 := ((hB0.alloc hB0.size _).drew.grown hg2 (by simp [HZ0.out]; omega) (fun k e => by have := own_ge hlit k e; omega)).grown hg3 (by omega) (fun k e => by have := own_ge hown2 k e; omega)
  exact bodyPost_ret (v := .agg (sha (1 :: (X ++ Y)))) (results_cell_row Try.results33 _ _ (w.heap.size + 2) 43 _ (0, 0) _ rfl (hZ4.setRow _) Try.underlying43 rfl (s24sha _)) rfl ⟨rfl, below_setRow (hB3.trans (hb4.mono hB3.size)) (by omega) _⟩
end Go.Proofs.Ytndonaebdbbofaa
/- Layer mem: what the layers below give. -/
namespace Go.Proofs.Ytndonaebdbbofaa
open Go.RowKit
set_option maxRecDepth 100000
set_option linter.unusedVariables false
set_option linter.unusedSimpArgs false

theorem refPair_h (X Y : List Int) (w : World) (hX : X.length = 32) (hY : Y.length = 32) :
    Calls Try.prog 33 #[.agg (h8 X), .agg (h8 Y)] w fun e w' => e = .returned (.agg (h8 (pr X Y))) ∧ Below w.heap.size w w' := by
  have h := refPair_any X Y w hX hY
  rw [sha_h8] at h
  exact h
set_option maxRecDepth 100000 in
set_option maxHeartbeats 1000000 in
theorem refFold_ok (m : Nat) (X : List Int) (N : Nat) (sp : Option Addr) (n cap : Nat) (ls : List (List Int)) (w : World) (hX : X.length = 32) (hS : HS N w sp n cap ls) (h1 : n ≤ 16) (h2 : m < 2 ^ n) :
    Calls Try.prog 67 #[.int .i64 m, .agg (h8 X), .slice sp n cap] w fun e w' => e = .returned (.tuple #[.agg (h8 (fo m X ls)), .int .i64 0]) ∧ Below w.heap.size w w' := by
  have A0 := (Arr.new w 43 (h8 X)).alloc (.cells (h8 Z32) 43)
  have A1 := Arr.new (w.alloc (.cells (h8 X) 43)) 43 (h8 Z32)
  rw [World.size_alloc] at A1
  have hm : m ≤ 9223372036854775807 := by have := pow16 h1; omega
  have hl := hS.len
  have hsm := hS.small
  have hS := hS.here
  have hb2 : Below w.heap.size w ((w.alloc (.cells (h8 X) 43)).alloc (.cells (h8 Z32) 43)) := (alloc_bel' w _).alloc (by simp) _
  have hw16 := wrap_pow h1
  obtain ⟨p, hp⟩ : ∃ p : Int, p = (2 ^ n : Nat) := ⟨_, rfl⟩
  rw [← hp] at hw16
  have hmp : ¬ p ≤ (m : Int) := by rw [hp]; omega
  clear hp
  replace h2 := Hid.mk' h2
  have h16 : ¬ (16 : Int) < n := by omega
  go_enter Try.func67, Try.ntmps67
  go_wp2_with fail
  go_loopw [0, 8] (fun q d wr => ∃ (j : Nat) (r : List Int), q = .int .i64 ((m / 2 ^ j : Nat) : Int) ∧ d = .int .i64 (j : Int) ∧ j ≤ n ∧ Below w.heap.size w wr ∧ w.heap.size + 2 ≤ wr.heap.size ∧ Arr wr w.heap.size 43 (h8 r) ∧ Arr wr (w.heap.size + 1) 43 (h8 Z32) ∧ Hid (r.length = 32) ∧ Hid (fo (m / 2 ^ j) r (ls.drop j) = fo m X ls))
    (fun _ d _ => n - (intOf d).toNat)
  case atStart => exact ⟨0, X, by simp, rfl, by omega, hb2, by simp, A0, A1, Hid.mk' hX, Hid.mk' (by simp)⟩
  case round =>
    obtain ⟨j, r, rfl, rfl, hj, hbl, hsz, R0, R1, hr, hfo⟩ := hrel
    clear A0 A1 hb2
    by_cases hlt : j < n
    · have hI : (j : Int) < n := by omega
      have hSr := hS.below hbl
      obtain ⟨g, off, rfl, hgN, hR⟩ := hSr.at0 (by omega)
      obtain ⟨Y, hY⟩ : ∃ Y, ls[j]? = some Y := ⟨ls[j]'(by rw [← hl.out]; exact hlt), List.getElem?_eq_getElem _⟩
      have hY32 := hS.l32 Y (List.mem_of_getElem? hY)
      have hRY := hR j Y hY
      have hst := Hid.mk' (fo_step (m := m) (r := r) hY)
      have hdiv := Hid.mk' (div_succ m j)
      have hq : m / 2 ^ j ≤ 9223372036854775807 := Nat.le_trans (Nat.div_le_self _ _) hm
      replace hY := Hid.mk' hY
      obtain ⟨q, hqe⟩ : ∃ q, q = m / 2 ^ j := ⟨_, rfl⟩
      rw [← hqe] at hst hdiv hq hfo ⊢
      replace hqe := Hid.mk' hqe
      by_cases hd : q % 2 = 0
      · rw [if_pos hd] at hst
        have hd1 : ((q : Int) % 2 == 0) = true := by rw [beq_iff_eq]; omega
        clear hd
        go_wp2_with fail
        refine wp_region_held_drew (S := fun _ => True) (by kernel_rfl) trivial (fun hHeld => ?_)
        refine wpAnyH_take (i := 1) (oi := ⟨_, _, _, _, _, _⟩) (v := ?_) rfl (by kernel_rfl) (by kernel_rfl) (by kernel_rfl) (fun _ _ _ h => h) (Or.inl ⟨by rfl, ?_⟩) (by assumption) ?_
        rotate_left
        · intro u hSw
          go_simp
          try (with_reducible rfl)
        try simp only [Act.put, List.setIfInBounds_toArray, List.set_cons_zero, List.set_cons_succ]
        refine wpAnyH_take (i := 2) (oi := ⟨_, _, _, _, _, _⟩) (v := ?_) rfl (by kernel_rfl) (by kernel_rfl) (by kernel_rfl) (fun _ _ _ h => h) (Or.inl ⟨by rfl, ?_⟩) (by assumption) ?_
        rotate_left
        · intro u hSw
          go_simp
          try (with_reducible rfl)
        try simp only [Act.put, List.setIfInBounds_toArray, List.set_cons_zero, List.set_cons_succ]
        refine wpAnyH_take (i := 3) (oi := ⟨_, _, _, _, _, _⟩) (v := ?_) rfl (by kernel_rfl) (by kernel_rfl) (by kernel_rfl) (fun _ _ _ h => h) (Or.inl ⟨by rfl, ?_⟩) (by assumption) ?_
        rotate_left
        · intro u hSw
          go_simp
          try (with_reducible rfl)
        try simp only [Act.put, List.setIfInBounds_toArray, List.set_cons_zero, List.set_cons_succ]
        refine wpAnyH_ready (rs := [0, 4]) (by kernel_rfl) (by simp) ?_
        refine AllReadyH.cons (o := ⟨_, _, _, _, _, _⟩) rfl (fun K hK => ?_) (AllReadyH.cons (o := ⟨_, _, _, _, _, _⟩) rfl (fun K hK => ?_) AllReadyH.nil)
        · refine step_want rfl (wp_load_mid 43 (.tmp 4) rfl w.heap.size 0 rfl (by8 r) _ R0.drew.range Try.underlying43 rfl (by rw [by8_len, hr.out]; exact size24) ?_)
          refine hK.out _ _ trivial (fun hHeld => ?_)
          clear hK K
          try simp only [Act.put, List.setIfInBounds_toArray, List.set_cons_zero, List.set_cons_succ]
          refine wpAnyH_ready (rs := [4]) (by kernel_rfl) (by simp) ?_
          refine AllReadyH.cons (o := ⟨_, _, _, _, _, _⟩) rfl (fun K hK => ?_) AllReadyH.nil
          refine step_want rfl (wp_load_mid 43 (.tmp 37) rfl g (off + j * 32) rfl (by8 Y) _ ((World.rangeAt_drew _ _ _ _).2 hRY) Try.underlying43 rfl (by rw [by8_len, hY32]; exact size24) ?_)
          refine hK.out _ _ trivial (fun hHeld => ?_)
          clear hK K
          try simp only [Act.put, List.setIfInBounds_toArray, List.set_cons_zero, List.set_cons_succ]
          refine wpAnyH_ready (rs := [5]) (by kernel_rfl) (by simp) ?_
          refine AllReadyH.cons (o := ⟨_, _, _, _, _, _⟩) rfl (fun K hK => ?_) AllReadyH.nil
          go_simp
          refine (refPair_h r Y _ hr.out hY32).mono ?_; rintro e w3 ⟨rfl, hb3⟩; have hs3 := hb3.size; simp at hs3; have S0 := R0.drew.below hb3 (by simp <;> omega); have S1 := R1.drew.below hb3 (by simp <;> omega)
          go_wp2_with fail
          refine hK.out _ _ trivial (fun hHeld => ?_)
          clear hK K
          try simp only [Act.put, List.setIfInBounds_toArray, List.set_cons_zero, List.set_cons_succ]
          refine wpAnyH_ready (rs := [6]) (by kernel_rfl) (by simp) ?_
          refine AllReadyH.cons (o := ⟨_, _, _, _, _, _⟩) rfl (fun K hK => ?_) AllReadyH.nil
          refine step_want rfl (wp_store_row 43 (.tmp 4) (.tmp 39) rfl w.heap.size (h8 (pr r Y)) rfl rfl 43 _ S0 (s24h8 (pr_len _ _)) (by rw [h8_size, h8_size, hr.out, pr_len]) (h8_one _) ?_)
          refine hK.out _ _ trivial (fun hHeld => ?_)
          clear hK K
          try simp only [Act.put, List.setIfInBounds_toArray, List.set_cons_zero, List.set_cons_succ]
          refine wpAnyH_done (by kernel_rfl) ?_ _
          go_wp2_with fail
          go_roundw
          case rel => exact ⟨j + 1, pr r Y, by rw [hdiv.out, Int.natCast_ediv] <;> rfl, by go_num, by omega, below_setRow (hbl.drew.trans (hb3.mono (by simp <;> omega))) (Nat.le_refl _) _, by simp <;> omega, S0.setRow _, S1.setRowOther _ (by omega), Hid.mk' (pr_len _ _), Hid.mk' (by rw [← hst.out]; exact hfo.out)⟩
          case measure => simp [intOf]; omega
        · refine step_want rfl (wp_load_mid 43 (.tmp 37) rfl g (off + j * 32) rfl (by8 Y) _ ((World.rangeAt_drew _ _ _ _).2 hRY) Try.underlying43 rfl (by rw [by8_len, hY32]; exact size24) ?_)
          refine hK.out _ _ trivial (fun hHeld => ?_)
          clear hK K
          try simp only [Act.put, List.setIfInBounds_toArray, List.set_cons_zero, List.set_cons_succ]
          refine wpAnyH_ready (rs := [0]) (by kernel_rfl) (by simp) ?_
          refine AllReadyH.cons (o := ⟨_, _, _, _, _, _⟩) rfl (fun K hK => ?_) AllReadyH.nil
          refine step_want rfl (wp_load_mid 43 (.tmp 4) rfl w.heap.size 0 rfl (by8 r) _ R0.drew.range Try.underlying43 rfl (by rw [by8_len, hr.out]; exact size24) ?_)
          refine hK.out _ _ trivial (fun hHeld => ?_)
          clear hK K
          try simp only [Act.put, List.setIfInBounds_toArray, List.set_cons_zero, List.set_cons_succ]
          refine wpAnyH_ready (rs := [5]) (by kernel_rfl) (by simp) ?_
          refine AllReadyH.cons (o := ⟨_, _, _, _, _, _⟩) rfl (fun K hK => ?_) AllReadyH.nil
          go_simp
          refine (refPair_h r Y _ hr.out hY32).mono ?_; rintro e w3 ⟨rfl, hb3⟩; have hs3 := hb3.size; simp at hs3; have S0 := R0.drew.below hb3 (by simp <;> omega); have S1 := R1.drew.below hb3 (by simp <;> omega)
          go_wp2_with fail
          refine hK.out _ _ trivial (fun hHeld => ?_)
          clear hK K
          try simp only [Act.put, List.setIfInBounds_toArray, List.set_cons_zero, List.set_cons_succ]
          refine wpAnyH_ready (rs := [6]) (by kernel_rfl) (by simp) ?_
          refine AllReadyH.cons (o := ⟨_, _, _, _, _, _⟩) rfl (fun K hK => ?_) AllReadyH.nil
          refine step_want rfl (wp_store_row 43 (.tmp 4) (.tmp 39) rfl w.heap.size (h8 (pr r Y)) rfl rfl 43 _ S0 (s24h8 (pr_len _ _)) (by rw [h8_size, h8_size, hr.out, pr_len]) (h8_one _) ?_)
          refine hK.out _ _ trivial (fun hHeld => ?_)
          clear hK K
          try simp only [Act.put, List.setIfInBounds_toArray, List.set_cons_zero, List.set_cons_succ]
          refine wpAnyH_done (by kernel_rfl) ?_ _
          go_wp2_with fail
          go_roundw
          case rel => exact ⟨j + 1, pr r Y, by rw [hdiv.out, Int.natCast_ediv] <;> rfl, by go_num, by omega, below_setRow (hbl.drew.trans (hb3.mono (by simp <;> omega))) (Nat.le_refl _) _, by simp <;> omega, S0.setRow _, S1.setRowOther _ (by omega), Hid.mk' (pr_len _ _), Hid.mk' (by rw [← hst.out]; exact hfo.out)⟩
          case measure => simp [intOf]; omega
      · rw [if_neg hd] at hst
        have hd1 : ((q : Int) % 2 == 0) = false := by rw [beq_eq_false_iff_ne]; omega
        clear hd
        go_wp2_with fail
        refine wp_region_held_drew (S := fun _ => True) (by kernel_rfl) trivial (fun hHeld => ?_)
        refine wpAnyH_take (i := 0) (oi := ⟨_, _, _, _, _, _⟩) (v := ?_) rfl (by kernel_rfl) (by kernel_rfl) (by kernel_rfl) (fun _ _ _ h => h) (Or.inl ⟨by rfl, ?_⟩) (by assumption) ?_
        rotate_left
        · intro u hSw
          go_simp
          try (with_reducible rfl)
        try simp only [Act.put, List.setIfInBounds_toArray, List.set_cons_zero, List.set_cons_succ]
        refine wpAnyH_take (i := 1) (oi := ⟨_, _, _, _, _, _⟩) (v := ?_) rfl (by kernel_rfl) (by kernel_rfl) (by kernel_rfl) (fun _ _ _ h => h) (Or.inl ⟨by rfl, ?_⟩) (by assumption) ?_
        rotate_left
        · intro u hSw
          go_simp
          try (with_reducible rfl)
        try simp only [Act.put, List.setIfInBounds_toArray, List.set_cons_zero, List.set_cons_succ]
        refine wpAnyH_take (i := 2) (oi := ⟨_, _, _, _, _, _⟩) (v := ?_) rfl (by kernel_rfl) (by kernel_rfl) (by kernel_rfl) (fun _ _ _ h => h) (Or.inl ⟨by rfl, ?_⟩) (by assumption) ?_
        rotate_left
        · intro u hSw
          go_simp
          try (with_reducible rfl)
        try simp only [Act.put, List.setIfInBounds_toArray, List.set_cons_zero, List.set_cons_succ]
        refine wpAnyH_ready (rs := [3, 4]) (by kernel_rfl) (by simp) ?_
        refine AllReadyH.cons (o := ⟨_, _, _, _, _, _⟩) rfl (fun K hK => ?_) (AllReadyH.cons (o := ⟨_, _, _, _, _, _⟩) rfl (fun K hK => ?_) AllReadyH.nil)
        · refine step_want rfl (wp_load_mid 43 (.tmp 42) rfl g (off + j * 32) rfl (by8 Y) _ ((World.rangeAt_drew _ _ _ _).2 hRY) Try.underlying43 rfl (by rw [by8_len, hY32]; exact size24) ?_)
          refine hK.out _ _ trivial (fun hHeld => ?_)
          clear hK K
          try simp only [Act.put, List.setIfInBounds_toArray, List.set_cons_zero, List.set_cons_succ]
          refine wpAnyH_ready (rs := [4]) (by kernel_rfl) (by simp) ?_
          refine AllReadyH.cons (o := ⟨_, _, _, _, _, _⟩) rfl (fun K hK => ?_) AllReadyH.nil
          refine step_want rfl (wp_load_mid 43 (.tmp 4) rfl w.heap.size 0 rfl (by8 r) _ R0.drew.range Try.underlying43 rfl (by rw [by8_len, hr.out]; exact size24) ?_)
          refine hK.out _ _ trivial (fun hHeld => ?_)
          clear hK K
          try simp only [Act.put, List.setIfInBounds_toArray, List.set_cons_zero, List.set_cons_succ]
          refine wpAnyH_ready (rs := [5]) (by kernel_rfl) (by simp) ?_
          refine AllReadyH.cons (o := ⟨_, _, _, _, _, _⟩) rfl (fun K hK => ?_) AllReadyH.nil
          go_simp
          refine (refPair_h Y r _ hY32 hr.out).mono ?_; rintro e w3 ⟨rfl, hb3⟩; have hs3 := hb3.size; simp at hs3; have S0 := R0.drew.below hb3 (by simp <;> omega); have S1 := R1.drew.below hb3 (by simp <;> omega)
          go_wp2_with fail
          refine hK.out _ _ trivial (fun hHeld => ?_)
          clear hK K
          try simp only [Act.put, List.setIfInBounds_toArray, List.set_cons_zero, List.set_cons_succ]
          refine wpAnyH_ready (rs := [6]) (by kernel_rfl) (by simp) ?_
          refine AllReadyH.cons (o := ⟨_, _, _, _, _, _⟩) rfl (fun K hK => ?_) AllReadyH.nil
          refine step_want rfl (wp_store_row 43 (.tmp 4) (.tmp 45) rfl w.heap.size (h8 (pr Y r)) rfl rfl 43 _ S0 (s24h8 (pr_len _ _)) (by rw [h8_size, h8_size, hr.out, pr_len]) (h8_one _) ?_)
          refine hK.out _ _ trivial (fun hHeld => ?_)
          clear hK K
          try simp only [Act.put, List.setIfInBounds_toArray, List.set_cons_zero, List.set_cons_succ]
          refine wpAnyH_done (by kernel_rfl) ?_ _
          go_wp2_with fail
          go_roundw
          case rel => exact ⟨j + 1, pr Y r, by rw [hdiv.out, Int.natCast_ediv] <;> rfl, by go_num, by omega, below_setRow (hbl.drew.trans (hb3.mono (by simp <;> omega))) (Nat.le_refl _) _, by simp <;> omega, S0.setRow _, S1.setRowOther _ (by omega), Hid.mk' (pr_len _ _), Hid.mk' (by rw [← hst.out]; exact hfo.out)⟩
          case measure => simp [intOf]; omega
        · refine step_want rfl (wp_load_mid 43 (.tmp 4) rfl w.heap.size 0 rfl (by8 r) _ R0.drew.range Try.underlying43 rfl (by rw [by8_len, hr.out]; exact size24) ?_)
          refine hK.out _ _ trivial (fun hHeld => ?_)
          clear hK K
          try simp only [Act.put, List.setIfInBounds_toArray, List.set_cons_zero, List.set_cons_succ]
          refine wpAnyH_ready (rs := [3]) (by kernel_rfl) (by simp) ?_
          refine AllReadyH.cons (o := ⟨_, _, _, _, _, _⟩) rfl (fun K hK => ?_) AllReadyH.nil
          refine step_want rfl (wp_load_mid 43 (.tmp 42) rfl g (off + j * 32) rfl (by8 Y) _ ((World.rangeAt_drew _ _ _ _).2 hRY) Try.underlying43 rfl (by rw [by8_len, hY32]; exact size24) ?_)
          refine hK.out _ _ trivial (fun hHeld => ?_)
          clear hK K
          try simp only [Act.put, List.setIfInBounds_toArray, List.set_cons_zero, List.set_cons_succ]
          refine wpAnyH_ready (rs := [5]) (by kernel_rfl) (by simp) ?_
          refine AllReadyH.cons (o := ⟨_, _, _, _, _, _⟩) rfl (fun K hK => ?_) AllReadyH.nil
          go_simp
          refine (refPair_h Y r _ hY32 hr.out).mono ?_; rintro e w3 ⟨rfl, hb3⟩; have hs3 := hb3.size; simp at hs3; have S0 := R0.drew.below hb3 (by simp <;> omega); have S1 := R1.drew.below hb3 (by simp <;> omega)
          go_wp2_with fail
          refine hK.out _ _ trivial (fun hHeld => ?_)
          clear hK K
          try simp only [Act.put, List.setIfInBounds_toArray, List.set_cons_zero, List.set_cons_succ]
          refine wpAnyH_ready (rs := [6]) (by kernel_rfl) (by simp) ?_
          refine AllReadyH.cons (o := ⟨_, _, _, _, _, _⟩) rfl (fun K hK => ?_) AllReadyH.nil
          refine step_want rfl (wp_store_row 43 (.tmp 4) (.tmp 45) rfl w.heap.size (h8 (pr Y r)) rfl rfl 43 _ S0 (s24h8 (pr_len _ _)) (by rw [h8_size, h8_size, hr.out, pr_len]) (h8_one _) ?_)
          refine hK.out _ _ trivial (fun hHeld => ?_)
          clear hK K
          try simp only [Act.put, List.setIfInBounds_toArray, List.set_cons_zero, List.set_cons_succ]
          refine wpAnyH_done (by kernel_rfl) ?_ _
          go_wp2_with fail
          go_roundw
          case rel => exact ⟨j + 1, pr Y r, by rw [hdiv.out, Int.natCast_ediv] <;> rfl, by go_num, by omega, below_setRow (hbl.drew.trans (hb3.mono (by simp <;> omega))) (Nat.le_refl _) _, by simp <;> omega, S0.setRow _, S1.setRowOther _ (by omega), Hid.mk' (pr_len _ _), Hid.mk' (by rw [← hst.out]; exact hfo.out)⟩
          case measure => simp [intOf]; omega
    · obtain rfl : j = n := by omega
      have hI : ¬ (j : Int) < j := by omega
      have hend : r = fo m X ls := by
        have h := hfo.out
        rw [List.drop_eq_nil_of_le (by rw [← hl.out]; exact Nat.le_refl _)] at h
        exact h
      subst hend
      clear hfo
      go_wp2_with (first
        | (refine ld24 (by rfl) _ (by rfl) w.heap.size 0 (by rfl) _ hr.out R0.range ?_)
        | (refine st24 (by rfl) _ _ (by rfl) (w.heap.size + 1) _ Z32 (by rfl) (by rfl) hr.out Z32_len R1 ?_))
      exact bodyPost_ret (v := .tuple #[.agg (h8 (fo m X ls)), .int .i64 0]) (resP Try.results67 rfl rfl hr.out (R1.setRow _)) rfl ⟨rfl, below_setRow hbl (by omega) _⟩
set_option maxRecDepth 100000 in
set_option maxHeartbeats 1000000 in
theorem refFold_no (i : Int) (X : List Int) (sp : Option Addr) (n cap : Nat) (w : World) (hX : X.length = 32) (hn : n ≤ 140737488355328) (h : ¬ (n ≤ 16 ∧ 0 ≤ i ∧ i < (2 ^ n : Nat))) :
    Calls Try.prog 67 #[.int .i64 i, .agg (h8 X), .slice sp n cap] w fun e w' => e = .returned (.tuple #[.agg (h8 Z32), .int .i64 2]) ∧ Below w.heap.size w w' := by
  have A1 := Arr.new (w.alloc (.cells (h8 X) 43)) 43 (h8 Z32)
  rw [World.size_alloc] at A1
  have hb2 : Below w.heap.size w ((w.alloc (.cells (h8 X) 43)).alloc (.cells (h8 Z32) 43)) := (alloc_bel' w _).alloc (by simp) _
  by_cases h1 : n ≤ 16
  · have h16 : ¬ (16 : Int) < n := by omega
    by_cases h0 : 0 ≤ i
    · have h2 : ¬ (i < (2 ^ n : Nat)) := fun hh => h ⟨h1, h0, hh⟩
      have hw16 := wrap_pow h1
      obtain ⟨p, hp⟩ : ∃ p : Int, p = (2 ^ n : Nat) := ⟨_, rfl⟩
      rw [← hp] at hw16 h2
      have h3 : p ≤ i := by omega
      have h4 : ¬ i < 0 := by omega
      clear hp h h2
      go_enter Try.func67, Try.ntmps67
      go_wp2_with (refine st24 (by rfl) _ _ (by rfl) (w.heap.size + 1) Z32 Z32 (by rfl) (by rfl) Z32_len Z32_len A1 ?_)
      exact bodyPost_ret (v := .tuple #[.agg (h8 Z32), .int .i64 2]) (resP Try.results67 rfl rfl Z32_len (A1.setRow _)) rfl ⟨rfl, below_setRow hb2 (by omega) _⟩
    · have h4 : i < 0 := by omega
      clear h h0
      go_enter Try.func67, Try.ntmps67
      go_wp2_with (refine st24 (by rfl) _ _ (by rfl) (w.heap.size + 1) Z32 Z32 (by rfl) (by rfl) Z32_len Z32_len A1 ?_)
      exact bodyPost_ret (v := .tuple #[.agg (h8 Z32), .int .i64 2]) (resP Try.results67 rfl rfl Z32_len (A1.setRow _)) rfl ⟨rfl, below_setRow hb2 (by omega) _⟩
  · have h16 : (16 : Int) < n := by omega
    clear h
    go_enter Try.func67, Try.ntmps67
    go_wp2_with (refine st24 (by rfl) _ _ (by rfl) (w.heap.size + 1) Z32 Z32 (by rfl) (by rfl) Z32_len Z32_len A1 ?_)
    exact bodyPost_ret (v := .tuple #[.agg (h8 Z32), .int .i64 2]) (resP Try.results67 rfl rfl Z32_len (A1.setRow _)) rfl ⟨rfl, below_setRow hb2 (by omega) _⟩
theorem refFold_any (i : Int) (X : List Int) (N : Nat) (sp : Option Addr) (n cap : Nat) (ls : List (List Int)) (w : World) (hX : X.length = 32) (hS : HS N w sp n cap ls) :
    Calls Try.prog 67 #[.int .i64 i, .agg (h8 X), .slice sp n cap] w fun e w' => e = .returned (.tuple #[.agg (h8 (foR i X ls)), .int .i64 (foE i ls)]) ∧ Below w.heap.size w w' := by
  have hl := hS.len.out
  unfold foR foE
  rw [← hl]
  by_cases h : FoOK i n
  · rw [if_pos h, if_pos h]
    obtain ⟨h1, h2, h3⟩ := h
    obtain ⟨m, rfl⟩ : ∃ m : Nat, i = m := ⟨i.toNat, by omega⟩
    exact refFold_ok m X N sp n cap ls w hX hS h1 (by omega)
  · rw [if_neg h, if_neg h]
    exact refFold_no i X sp n cap w hX hS.small h
end Go.Proofs.Ytndonaebdbbofaa
/- Layer mem: what the layers below give. -/
namespace Go.Proofs.Ytndonaebdbbofaa
open Go.RowKit Go.Shelf
set_option maxRecDepth 100000
set_option linter.unusedVariables false
set_option linter.unusedSimpArgs false

set_option maxRecDepth 100000 in
set_option maxHeartbeats 400000 in
theorem refBad_any (d : Int) (n : Nat) (w : World) : Calls Try.prog 58 #[.int .i64 d, .int .i64 n] w fun e w' => e = .returned (.int .i64 (rE d n)) ∧ w' = w := by
  unfold rE
  by_cases h1 : 0 ≤ d
  · by_cases h2 : d ≤ 16
    · rw [if_pos ⟨h1, h2⟩]
      obtain ⟨m, rfl⟩ : ∃ m : Nat, d = m := ⟨d.toNat, by omega⟩
      have hm : m ≤ 16 := by omega
      have hwp := wrap_pow hm
      rw [Int.toNat_natCast]
      obtain ⟨p, hp⟩ : ∃ p : Nat, p = 2 ^ m := ⟨_, rfl⟩
      rw [← hp] at hwp ⊢
      replace hp := Hid.mk' hp
      by_cases h3 : n ≤ p
      · rw [if_pos h3]
        have h4 : ¬ (p : Int) < n := by omega
        go_enter Try.func58, Try.ntmps58
        go_wp2
        go_ret
        exact ⟨rfl, rfl⟩
      · rw [if_neg h3]
        have h4 : (p : Int) < n := by omega
        go_enter Try.func58, Try.ntmps58
        go_wp2
        go_ret
        exact ⟨rfl, rfl⟩
    · rw [if_neg (fun h => h2 h.2)]
      go_enter Try.func58, Try.ntmps58
      go_wp2
      go_ret
      exact ⟨rfl, rfl⟩
  · rw [if_neg (fun h => h1 h.1)]
    go_enter Try.func58, Try.ntmps58
    go_wp2
    go_ret
    exact ⟨rfl, rfl⟩
set_option maxRecDepth 100000 in
set_option maxHeartbeats 1000000 in
/-- The leaves of a half that are given. -/
theorem part_any (q p N : Nat) (sp : Option Addr) (n cap : Nat) (ls : List (List Int)) (w : World) (x : Int) (hx : x = (q + p : Nat)) (hq : q ≤ 9000000000) (hp : p ≤ 65536) (hS : HS N w sp n cap ls) :
    Calls Try.prog 60 #[.slice sp n cap, .int .i64 q, .int .i64 x] w fun e w' => ∃ sp' n' cap', e = .returned (.slice sp' n' cap') ∧ w' = w ∧ HS N w sp' n' cap' ((ls.drop q).take p) := by
  have hsm := hS.small
  have hln := hS.len
  have hle := hS.le
  have hbig := hS.big
  subst hx
  by_cases h1 : q < n
  · obtain ⟨g, off, rfl, hgN, hR⟩ := hS.at0 (by omega)
    have h1I : ¬ (n : Int) ≤ q := by omega
    have h1N : ¬ cap = q := by omega
    by_cases h2 : n < q + p
    · have h2I : ¬ ((q : Int) + (p : Int)) ≤ n := by omega
      have hmin : min ((q : Int) + (p : Int)) n = n := by omega
      go_enter Try.func60, Try.ntmps60
      go_wp2
      go_ret
      refine ⟨_, _, _, rfl, rfl, ?_⟩
      have h := hS.part q (n - q) (cap - q) (by omega) (by omega) (by omega) (by omega)
      rw [List.take_of_length_le (by rw [List.length_drop, ← hln.out]; omega)] at h
      rw [List.take_of_length_le (by rw [List.length_drop, ← hln.out]; omega)]
      exact h
    · have h2I : ((q : Int) + (p : Int)) ≤ n := by omega
      have hmin : min ((q : Int) + (p : Int)) n = (q : Int) + (p : Int) := by omega
      go_enter Try.func60, Try.ntmps60
      go_wp2
      go_ret
      refine ⟨_, _, _, rfl, rfl, ?_⟩
      have h := hS.part q p (cap - q) (by omega) (by omega) (by omega) (by omega)
      exact h
  · have h1I : (n : Int) ≤ q := by omega
    go_enter Try.func60, Try.ntmps60
    go_wp2
    go_ret
    refine ⟨_, _, _, rfl, rfl, ?_⟩
    rw [List.drop_eq_nil_of_le (by rw [← hln.out]; omega), List.take_nil]
    exact HS.nil0 _ _
theorem HS.fst {N : Nat} {w : World} {sp : Option Addr} {n cap : Nat} {ls : List (List Int)} (h : HS N w sp n cap ls) (p : Nat) (hp : p ≤ n) : HS N w sp p cap (ls.take p) := by
  have hl := h.len.out
  refine ⟨show p = _ by rw [List.length_take]; omega, fun e => ?_, by have := h.le; omega, h.big, by have := h.small; omega, fun h0 => ?_, fun X hX => h.l32 X (List.mem_of_mem_take hX)⟩
  · have := h.nil e; exact ⟨by omega, this.2⟩
  · obtain ⟨g, off, e, hg, hR⟩ := h.at0 (by omega)
    refine ⟨g, off, e, hg, fun i X hX => hR i X ?_⟩
    have hi : i < p := by have := (List.getElem?_eq_some_iff.1 hX).1; rw [List.length_take] at this; omega
    rw [List.getElem?_take_of_lt hi] at hX; exact hX
set_option maxRecDepth 100000 in
set_option maxHeartbeats 4000000 in
/-- The document's root, whatever is given. -/
theorem refroot_any (d : Nat) : ∀ (N : Nat) (sp : Option Addr) (n cap : Nat) (ls : List (List Int)) (w : World) (x : Int), x = (d : Int) → d ≤ 16 → HS N w sp n cap ls →
    Calls Try.prog 59 #[.int .i64 x, .slice sp n cap] w fun e w' => e = .returned (.agg (h8 (tr d ls))) ∧ Below w.heap.size w w' := by
  induction d with
  | zero =>
    intro N sp n cap ls w x hx hd hS
    obtain rfl : x = 0 := hx
    have A0 := Arr.new w 43 (h8 Z32)
    have hb0 := alloc_bel' w (.cells (h8 Z32) 43)
    have hln := hS.len
    have hle := hS.le
    have hsm := hS.small
    by_cases h0 : 0 < n
    · obtain ⟨g, off, rfl, hgN, hR⟩ := (hS.here.below hb0).at0 h0
      have hlen : 0 < ls.length := by rw [← hln.out]; exact h0
      have hX := hR 0 ls[0] (List.getElem?_eq_getElem hlen)
      have hX32 := hS.l32 ls[0] (List.getElem_mem hlen)
      have e0 : tr 0 ls = ls[0] := by cases ls with | nil => simp at hlen | cons a r => rfl
      rw [e0]
      generalize ls[0] = X at *
      rw [Nat.zero_mul, Nat.add_zero] at hX
      have h0I : (0 : Int) < n := by omega
      rw [h8_Z] at hX A0 hb0
      go_enter Try.func59, Try.ntmps59
      go_wp2_with (first
        | (refine ld24 (by rfl) _ (by rfl) g off (by rfl) X hX32 hX ?_)
        | (refine st24n (by rfl) _ _ (by rfl) w w.heap.size rfl (by rfl) X (by rfl) (by rfl) hX32 ?_))
      exact bodyPost_ret (v := .agg (h8 X)) (res24 Try.results59 rfl hX32 (Arr.new w 43 _)) rfl ⟨rfl, alloc_bel' w _⟩
    · obtain rfl : n = 0 := by omega
      obtain rfl : ls = [] := List.eq_nil_of_length_eq_zero hln.out.symm
      have e0 : tr 0 [] = Z32 := rfl
      rw [e0]
      go_enter Try.func59, Try.ntmps59
      go_wp2_with (first
        | (refine st24n (by rfl) _ _ (by rfl) w w.heap.size rfl (by rfl) Z32 (by rfl) (by rfl) Z32_len ?_))
      exact bodyPost_ret (v := .agg (h8 Z32)) (res24 Try.results59 rfl Z32_len (Arr.new w 43 _)) rfl ⟨rfl, alloc_bel' w _⟩
  | succ d ih =>
    intro N sp n cap ls w x hx hd hS
    have hS := hS.here
    have A0 := Arr.new w 43 (h8 Z32)
    have hb0 := alloc_bel' w (.cells (h8 Z32) 43)
    have hln := hS.len
    have hle := hS.le
    have hsm := hS.small
    have hbig := hS.big
    have hx1 : x - 1 = (d : Int) := by omega
    have hx0 : ¬ x = 0 := by omega
    have hxl : 0 < x := by omega
    have hxu : x ≤ 17 := by omega
    have hd16 : d ≤ 16 := by omega
    have hwp := wrap_pow hd16
    have hp16 := pow16 hd16
    have hwd : IntKind.i64.wrap (d : Int) = d := by rw [IntKind.wrap_i64]; omega
    obtain ⟨p, hp⟩ : ∃ p : Nat, p = 2 ^ d := ⟨_, rfl⟩
    have hp0 : 0 < p := by rw [hp]; exact Nat.pow_pos (by omega)
    rw [← hp] at hwp hp16
    have hH0 := hS.below hb0
    have htl : ∀ l : List (List Int), (∀ X ∈ l, X.length = 32) → (tr d l).length = 32 := fun l hl => tr_len d l hl
    have hall := hS.l32
    replace hx := Hid.mk' hx
    by_cases h0 : n = 0
    · have hnil : ls = [] := List.eq_nil_of_length_eq_zero (by rw [← hln.out]; exact h0)
      rw [hnil, tr_nil]
      have hX := htl [] (fun X h => by cases h)
      have ihc := fun w x hx => ih _ none 0 0 [] w x hx hd16 (HS.nil0 w.heap.size w)
      generalize tr d [] = X at *
      have hXX := pr_len X X
      subst h0
      rw [h8_Z] at A0 hb0
      clear hH0
      go_enter Try.func59, Try.ntmps59
      go_wp2_with (first
        | (go_at_call 33; go_must (refine (refPair_h X X _ hX hX).mono ?_; rintro e w3 ⟨rfl, hb3⟩; have hs3 := hb3.size; simp at hs3; have S3 := A2.below hb3 (by simp; omega); have bw3 := bw2.trans (hb3.mono (by simp; omega))))
        | (go_at_call 59; go_must (refine (ihc _ _ (by first | exact hx1 | rfl | exact hwd)).mono ?_; rintro e w2 ⟨rfl, hb2⟩; have hs2 := hb2.size; simp at hs2; have A2 := (A0.below hb2 (by simp)).alloc (.cells (h8 X) 43); have V2 := Arr.new w2 43 (h8 X); have bw2 := (hb0.trans (hb2.mono (by simp))).alloc (by omega) (.cells (h8 X) 43)))
        | (refine st24 (by rfl) _ _ (by rfl) w.heap.size (pr X X) Z32 (by rfl) (by rfl) hXX Z32_len S3 ?_)
        | (refine st24n (by rfl) _ _ (by rfl) w2 w2.heap.size rfl (by rfl) X (by rfl) (by rfl) hX ?_)
        | (refine ld24 (by rfl) _ (by rfl) w2.heap.size 0 (by rfl) X hX V2.range ?_))
      exact bodyPost_ret (v := .agg (h8 (pr X X))) (res24 Try.results59 rfl hXX (S3.setRow _)) rfl ⟨rfl, below_setRow bw3 (Nat.le_refl _) _⟩
    · have h0I : ¬ (n : Int) = 0 := by omega
      by_cases h1 : n ≤ p
      · have h1I : (n : Int) ≤ p := by omega
        have e1 : tr (d + 1) ls = pr (tr d ls) (tr d []) := by rw [tr_succ, List.drop_eq_nil_of_le (by rw [← hln.out, ← hp]; exact h1)]
        rw [e1]
        replace hp := Hid.mk' hp
        have hX := htl [] (fun X h => by cases h)
        have hY := htl ls hall
        have ihc := fun w x hx => ih _ none 0 0 [] w x hx hd16 (HS.nil0 w.heap.size w)
        have ihd := fun N w x hx hS => ih N sp n cap ls w x hx hd16 hS
        generalize tr d [] = X at *
        generalize tr d ls = Y at *
        have hYX := pr_len Y X
        rw [h8_Z] at A0 hb0 hH0
        go_enter Try.func59, Try.ntmps59
        go_wp2_with (first
          | (go_at_call 33; go_must (refine (refPair_h Y X _ hY hX).mono ?_; rintro e w4 ⟨rfl, hb4⟩; have hs4 := hb4.size; have S4 := A3.below hb4 (by omega); have bw4 := bw3.trans (hb4.mono (by omega))))
          | (go_at_call 59; go_must (first
            | (refine (ihc w2 _ (by first | exact hx1 | rfl | exact hwd)).mono ?_; rintro e w3 ⟨rfl, hb3⟩; have hs3 := hb3.size; have A3 := A2.below hb3 (by omega); have bw3 := bw2.trans (hb3.mono (by omega)))
            | (refine (ihd _ _ _ (by first | exact hx1 | rfl | exact hwd) hH0).mono ?_; rintro e w2 ⟨rfl, hb2⟩; have hs2 := hb2.size; simp at hs2; have A2 := A0.below hb2 (by simp); have bw2 := hb0.trans (hb2.mono (by simp)))))
          | (refine st24 (by rfl) _ _ (by rfl) w.heap.size (pr Y X) Z32 (by rfl) (by rfl) hYX Z32_len S4 ?_))
        exact bodyPost_ret (v := .agg (h8 (pr Y X))) (res24 Try.results59 rfl hYX (S4.setRow _)) rfl ⟨rfl, below_setRow bw4 (Nat.le_refl _) _⟩
      · have h1I : ¬ (n : Int) ≤ p := by omega
        obtain ⟨g, off, rfl, hgN, hR⟩ := hS.at0 (by omega)
        have hc1 : ¬ cap = p := by omega
        have hc2 : p ≤ cap := by omega
        have hpn : p ≤ n := by omega
        have e1 : tr (d + 1) ls = pr (tr d (ls.take p)) (tr d (ls.drop p)) := by rw [hp]; rfl
        rw [e1]
        have hX1 := htl (ls.take p) (fun X hX => hall X (List.mem_of_mem_take hX))
        have hX2 := htl (ls.drop p) (fun X hX => hall X (List.mem_of_mem_drop hX))
        have hYX := pr_len (tr d (ls.take p)) (tr d (ls.drop p))
        rw [h8_Z] at A0 hb0 hH0
        have hF0 := hH0.fst p hpn
        have hG0 := hH0.part p (n - p) (cap - p) (by omega) (by omega) (by omega) (by omega)
        rw [List.take_of_length_le (by rw [List.length_drop, ← hln.out]; omega)] at hG0
        replace hp := Hid.mk' hp
        go_enter Try.func59, Try.ntmps59
        go_upto_region 11 with fail
        try simp only [hx1, hwp, Int.toNat_natCast]
        have hsV : w.heap.size < (w.alloc (.cells (h8 Z32) 43)).heap.size := by simp
        rw [h8_Z] at hsV
        generalize w.alloc (.cells _ 43) = V at *
        have hF1 : HS w.heap.size V.drew (some ⟨g, off, none⟩) p cap (ls.take p) := hF0.below ((Below.refl _ _).drew)
        have hF2 : HS V.heap.size V (some ⟨g, off + p * 32, none⟩) (n - p) (cap - p) (ls.drop p) := hG0.mono (by omega)
        refine wp_region_held_drew (S := fun _ => True) (by kernel_rfl) trivial (fun hHeld => ?_)
        refine wpAnyH_take (i := 0) (oi := ⟨_, _, _, _, _, _⟩) (v := ?_) rfl (by kernel_rfl) (by kernel_rfl) (by kernel_rfl) (fun _ _ _ h => h) (Or.inl ⟨by rfl, ?_⟩) (by assumption) ?_
        rotate_left
        · intro u hSw
          go_simp
          try (with_reducible rfl)
        try simp only [Act.put, List.setIfInBounds_toArray, List.set_cons_zero, List.set_cons_succ]
        refine wpAnyH_take (i := 1) (oi := ⟨_, _, _, _, _, _⟩) (v := ?_) rfl (by kernel_rfl) (by kernel_rfl) (by kernel_rfl) (fun _ _ _ h => h) (Or.inl ⟨by rfl, ?_⟩) (by assumption) ?_
        rotate_left
        · intro u hSw
          go_simp
          try (with_reducible rfl)
        try simp only [Act.put, List.setIfInBounds_toArray, List.set_cons_zero, List.set_cons_succ]
        refine wpAnyH_take (i := 2) (oi := ⟨_, _, _, _, _, _⟩) (v := ?_) rfl (by kernel_rfl) (by kernel_rfl) (by kernel_rfl) (fun _ _ _ h => h) (Or.inl ⟨by rfl, ?_⟩) (by assumption) ?_
        rotate_left
        · intro u hSw
          go_simp
          try (with_reducible rfl)
        try simp only [Act.put, List.setIfInBounds_toArray, List.set_cons_zero, List.set_cons_succ]
        refine wpAnyH_take (i := 3) (oi := ⟨_, _, _, _, _, _⟩) (v := ?_) rfl (by kernel_rfl) (by kernel_rfl) (by kernel_rfl) (fun _ _ _ h => h) (Or.inl ⟨by rfl, ?_⟩) (by assumption) ?_
        rotate_left
        · intro u hSw
          go_simp
          try (with_reducible rfl)
        try simp only [Act.put, List.setIfInBounds_toArray, List.set_cons_zero, List.set_cons_succ]
        refine wpAnyH_take (i := 4) (oi := ⟨_, _, _, _, _, _⟩) (v := ?_) rfl (by kernel_rfl) (by kernel_rfl) (by kernel_rfl) (fun _ _ _ h => h) (Or.inl ⟨by rfl, ?_⟩) (by assumption) ?_
        rotate_left
        · intro u hSw
          go_simp
          try (with_reducible rfl)
        try simp only [Act.put, List.setIfInBounds_toArray, List.set_cons_zero, List.set_cons_succ]
        refine wpAnyH_take (i := 6) (oi := ⟨_, _, _, _, _, _⟩) (v := ?_) rfl (by kernel_rfl) (by kernel_rfl) (by kernel_rfl) (fun _ _ _ h => h) (Or.inl ⟨by rfl, ?_⟩) (by assumption) ?_
        rotate_left
        · intro u hSw
          go_simp
          try (with_reducible rfl)
        try simp only [Act.put, List.setIfInBounds_toArray, List.set_cons_zero, List.set_cons_succ]
        refine wpAnyH_take (i := 7) (oi := ⟨_, _, _, _, _, _⟩) (v := ?_) rfl (by kernel_rfl) (by kernel_rfl) (by kernel_rfl) (fun _ _ _ h => h) (Or.inl ⟨by rfl, ?_⟩) (by assumption) ?_
        rotate_left
        · intro u hSw
          go_simp
          try (with_reducible rfl)
        try simp only [Act.put, List.setIfInBounds_toArray, List.set_cons_zero, List.set_cons_succ]
        refine wpAnyH_take (i := 8) (oi := ⟨_, _, _, _, _, _⟩) (v := ?_) rfl (by kernel_rfl) (by kernel_rfl) (by kernel_rfl) (fun _ _ _ h => h) (Or.inl ⟨by rfl, ?_⟩) (by assumption) ?_
        rotate_left
        · intro u hSw
          go_simp
          try (with_reducible rfl)
        try simp only [Act.put, List.setIfInBounds_toArray, List.set_cons_zero, List.set_cons_succ]
        refine wpAnyH_take (i := 9) (oi := ⟨_, _, _, _, _, _⟩) (v := ?_) rfl (by kernel_rfl) (by kernel_rfl) (by kernel_rfl) (fun _ _ _ h => h) (Or.inl ⟨by rfl, ?_⟩) (by assumption) ?_
        rotate_left
        · intro u hSw
          go_simp
          try (with_reducible rfl)
        try simp only [Act.put, List.setIfInBounds_toArray, List.set_cons_zero, List.set_cons_succ]
        refine wpAnyH_take (i := 10) (oi := ⟨_, _, _, _, _, _⟩) (v := ?_) rfl (by kernel_rfl) (by kernel_rfl) (by kernel_rfl) (fun _ _ _ h => h) (Or.inl ⟨by rfl, ?_⟩) (by assumption) ?_
        rotate_left
        · intro u hSw
          go_simp
          try (with_reducible rfl)
        try simp only [Act.put, List.setIfInBounds_toArray, List.set_cons_zero, List.set_cons_succ]
        refine wpAnyH_ready (rs := [5]) (by kernel_rfl) (by simp) ?_
        refine AllReadyH.cons (o := ⟨_, _, _, _, _, _⟩) rfl (fun K hK => ?_) AllReadyH.nil
        go_simp
        refine (ih _ _ p cap (ls.take p) _ _ (by first | exact hx1 | rfl | exact hwd) (by omega) hF1).mono ?_; rintro e u1 ⟨rfl, hu1⟩; have hsu1 := hu1.size; simp at hsu1; have hH1 : Below V.heap.size V u1 := ((Below.refl V.heap.size V).drew).trans (hu1.mono (by simp))
        go_wp2_with fail
        refine hK.out _ _ trivial (fun hHeld => ?_)
        clear hK K
        try simp only [Act.put, List.setIfInBounds_toArray, List.set_cons_zero, List.set_cons_succ]
        refine wpAnyH_ready (rs := [11]) (by kernel_rfl) (by simp) ?_
        refine AllReadyH.cons (o := ⟨_, _, _, _, _, _⟩) rfl (fun K hK => ?_) AllReadyH.nil
        go_simp
        refine (ih _ _ (n - p) (cap - p) (ls.drop p) _ _ (by first | exact hx1 | rfl | exact hwd) (by omega) (hF2.below hH1)).mono ?_; rintro e u2 ⟨rfl, hu2⟩; have hsu2 := hu2.size; have hH2 : Below V.heap.size V u2 := hH1.trans (hu2.mono (by omega))
        go_wp2_with fail
        refine hK.out _ _ trivial (fun hHeld => ?_)
        clear hK K
        try simp only [Act.put, List.setIfInBounds_toArray, List.set_cons_zero, List.set_cons_succ]
        refine wpAnyH_ready (rs := [12]) (by kernel_rfl) (by simp) ?_
        refine AllReadyH.cons (o := ⟨_, _, _, _, _, _⟩) rfl (fun K hK => ?_) AllReadyH.nil
        go_simp
        refine (refPair_h _ _ _ hX1 hX2).mono ?_; rintro e u3 ⟨rfl, hu3⟩; have hsu3 := hu3.size; have hH3 : Below V.heap.size V u3 := hH2.trans (hu3.mono (by omega)); have S3 := A0.below hH3 (by omega)
        go_wp2_with fail
        refine hK.out _ _ trivial (fun hHeld => ?_)
        clear hK K
        try simp only [Act.put, List.setIfInBounds_toArray, List.set_cons_zero, List.set_cons_succ]
        refine wpAnyH_ready (rs := [13]) (by kernel_rfl) (by simp) ?_
        refine AllReadyH.cons (o := ⟨_, _, _, _, _, _⟩) rfl (fun K hK => ?_) AllReadyH.nil
        refine step_want rfl (wp_store_row 43 (.tmp 4) (.tmp 53) rfl w.heap.size (h8 (pr (tr d (ls.take p)) (tr d (ls.drop p)))) rfl rfl 43 _ S3 (s24h8 (pr_len _ _)) (by rw [h8_size, pr_len]; rfl) (h8_one _) ?_)
        refine hK.out _ _ trivial (fun hHeld => ?_)
        clear hK K
        try simp only [Act.put, List.setIfInBounds_toArray, List.set_cons_zero, List.set_cons_succ]
        refine wpAnyH_done (by kernel_rfl) ?_ _
        go_wp2_with fail
        exact bodyPost_ret (v := .agg (h8 (pr (tr d (ls.take p)) (tr d (ls.drop p))))) (res24 Try.results59 rfl hYX (S3.setRow _)) rfl ⟨rfl, below_setRow (hb0.trans (hH3.mono (by omega))) (Nat.le_refl _) _⟩
set_option maxRecDepth 100000 in
set_option maxHeartbeats 1000000 in
/-- The document's Root. -/
theorem refRoot_any (d : Int) (N : Nat) (sp : Option Addr) (n cap : Nat) (ls : List (List Int)) (w : World) (hS : HS N w sp n cap ls) :
    Calls Try.prog 40 #[.int .i64 d, .slice sp n cap] w fun e w' => e = .returned (.tuple #[.agg (h8 (rR d ls)), .int .i64 (rE d ls.length)]) ∧ Below w.heap.size w w' := by
  have hln := hS.len
  have hbd := refBad_any d n
  rw [← hln.out]
  have hb0 := alloc_bel' w (.cells (h8 Z32) 43)
  have hH0 := hS.here.below hb0
  have A0 := Arr.new w 43 (h8 Z32)
  have hRL := rR_len (d := d) hS.l32
  by_cases h : rE d n = 0
  · have e1 : rR d ls = tr d.toNat ls := by unfold rR; rw [← hln.out, if_pos h]
    have hd : 0 ≤ d ∧ d ≤ 16 := by
      unfold rE at h
      by_cases h2 : 0 ≤ d ∧ d ≤ 16
      · exact h2
      · rw [if_neg h2] at h; cases h
    have hr := refroot_any d.toNat w.heap.size sp n cap ls (w.alloc (.cells (h8 Z32) 43)) d (by omega) (by omega) hH0
    rw [← e1] at hr
    rw [h] at hbd ⊢
    clear e1 h
    generalize rR d ls = R at *
    rw [h8_Z] at hr hb0 A0
    clear hH0
    replace hr := Hid.mk' hr
    go_enter Try.func40, Try.ntmps40
    go_wp2_with (first
      | (go_at_call 58; go_must (refine (hbd _).mono ?_; rintro e w1 ⟨rfl, rfl⟩))
      | (go_at_call 59; go_must (refine hr.out.mono ?_; rintro e w2 ⟨rfl, hb2⟩; have S2 := A0.below hb2 (by simp)))
      | (refine st24 (by rfl) _ _ (by rfl) w.heap.size R Z32 (by rfl) (by rfl) hRL Z32_len S2 ?_))
    exact bodyPost_ret (v := .tuple #[.agg (h8 R), .int .i64 0]) (resP Try.results40 rfl rfl hRL (S2.setRow _)) rfl ⟨rfl, below_setRow (hb0.trans (hb2.mono (by simp))) (Nat.le_refl _) _⟩
  · have e1 : rR d ls = Z32 := by unfold rR; rw [← hln.out, if_neg h]
    rw [e1]
    generalize rE d n = c at *
    have hc : (c != 0) = true := by simpa using h
    rw [h8_Z] at hb0 A0
    clear hH0
    go_enter Try.func40, Try.ntmps40
    go_wp2_with (first
      | (go_at_call 58; go_must (refine (hbd _).mono ?_; rintro e w1 ⟨rfl, rfl⟩))
      | (refine st24n (by rfl) _ _ (by rfl) w w.heap.size rfl (by rfl) Z32 (by rfl) (by rfl) Z32_len ?_))
    exact bodyPost_ret (v := .tuple #[.agg (h8 Z32), .int .i64 c]) (resP Try.results40 rfl rfl Z32_len (Arr.new w 43 _)) rfl ⟨rfl, alloc_bel' w _⟩
end Go.Proofs.Ytndonaebdbbofaa
/- Layer mem: what the layers below give. -/
namespace Go.Proofs.Ytndonaebdbbofaa
open Go.RowKit Go.Shelf
set_option maxRecDepth 100000
set_option linter.unusedVariables false
set_option linter.unusedSimpArgs false

theorem b1L {ops : Array Oper} {rest : List Oper} {o : Oper} {a : Act} {w : World} {Q : Exit → Act → World → Prop} (hgd : Region.wanted o (yielded ops a.tmps) = true) (x : Operand) (ho : o.op = .buildSlice 36 1 #[(0, x)]) (X : List Int) (hx : a.eval x = .agg (h8 X)) (hX : X.length = 32)
    (h : wpList Try.prog ops Q rest (a.put o.dst (.slice (some ⟨w.heap.size, 0, none⟩) 1 1)) (w.alloc (.cells (h8 X) 43))) : wpList Try.prog ops Q (o :: rest) a w :=
  wpList_want hgd fun _ hK => wp_bld1 x ho X hx hX (hK _ _ h)
end Go.Proofs.Ytndonaebdbbofaa
/- Layer mem: what the layers below give. -/
namespace Go.Proofs.Ytndonaebdbbofaa
open Go.RowKit Go.Shelf
set_option maxRecDepth 100000
set_option linter.unusedVariables false
set_option linter.unusedSimpArgs false

/-- append of a sum to a slice of the call's own, which may grow. -/
theorem ag24 {ops : Array Oper} {rest : List Oper} {o : Oper} {a : Act} {w : World} {Q : Exit → Act → World → Prop} (hgd : o.guard = none) (s x : Operand) (ho : o.op = .call { callee := .builtin .append, args := #[s, x], argTypes := #[36, 36] })
    (base k : Nat) (v : Value) (ls : List (List Int)) (X : List Int) (hs : a.eval s = v) (hown : w.ownsRow base 43 32 v k (flat32 ls))
    (gx c : Nat) (hx : a.eval x = .slice (some ⟨gx, 0, none⟩) 1 c) (hA : Arr w gx 43 (h8 X)) (hX : X.length = 32) (hk : k ≤ 1000) (hbase : base ≤ w.heap.size)
    (h : ∀ v' w', w'.ownsRow base 43 32 v' (k + 1) (flat32 (ls ++ [X])) → w.grownBy w' v.ownBlock → wpList Try.prog ops Q rest (a.put o.dst v') w') : wpList Try.prog ops Q (o :: rest) a w := by
  obtain ⟨i0, hi0, hz0, hz1, hz2⟩ := info_parts info24
  refine wpList_append_own w hgd s x 36 ho base 43 i0 (.agg (h8 Z32)) 32 32 Try.underlying36 hi0 hz0 hz1 hz2 (by show (h8 Z32).size = 32; rw [h8_size, Z32_len]) (by omega) v k _ hs hown ⟨gx, 0, none⟩ 1 c (by8 X) hx (by rw [by8_len, hX]) (fun j u hj => by
    rw [Addr.add_mid]; exact hA.range j u hj) (by8_one X) (by unfold maxLen; omega) (by omega) hbase (fun v' w' h1 h2 _ => h v' w' (by rw [flat32_app]; exact h1) h2)
theorem grown_below {B : Nat} {a w w' : World} {r : Option Nat} (h : Below B a w) (hg : w.grownBy w' r) (hr : ∀ k, r = some k → B ≤ k) (hB : B ≤ w.heap.size) : Below B a w' :=
  h.trans ⟨hg.os, hg.tape, hg.output, hg.size, fun k hk => hg.block k (by omega) (fun e => by have := hr k e.symm; omega)⟩
theorem sib_le2 {j m : Nat} (h : j ≤ m) : sib j ≤ m + 1 := by unfold sib; split <;> omega
set_option maxRecDepth 100000 in
set_option maxHeartbeats 2000000 in
/-- The document's Proof, where it has no error. -/
theorem refProof_ok (d i N : Nat) (sp : Option Addr) (n cap : Nat) (ls : List (List Int)) (w : World) (hd : d ≤ 16) (hi : i < 2 ^ d) (hn : n ≤ 2 ^ d) (hS : HS N w sp n cap ls) :
    Calls Try.prog 37 #[.int .i64 d, .slice sp n cap, .int .i64 i] w fun e w' => ∃ v, e = .returned (.tuple #[v, .int .i64 0]) ∧ w'.ownsRow w.heap.size 43 32 v d (flat32 (pf d ls i)) ∧ Below w.heap.size w w' := by
  have hS := hS.here
  have hsm := hS.small
  have hl := hS.len
  have hbad : ∀ w, Calls Try.prog 58 #[.int .i64 d, .int .i64 n] w fun e w' => e = .returned (.int .i64 0) ∧ w' = w := fun w => by
    have h := refBad_any d n w
    have e : rE d n = 0 := by unfold rE; rw [if_pos ⟨by omega, by omega⟩, if_pos (by simpa using hn)]
    rwa [e] at h
  have hwd := wrap_pow hd
  have hp16 := pow16 hd
  obtain ⟨p, hp⟩ : ∃ p : Nat, p = 2 ^ d := ⟨_, rfl⟩
  rw [← hp] at hwd hi hn hp16
  replace hp := Hid.mk' hp
  have hiI : ¬ (p : Int) ≤ i := by omega
  have hdI : ¬ (16 : Int) < d := by omega
  go_enter Try.func37, Try.ntmps37
  go_wp2_with (first
    | (go_at_call 58; go_must (refine (hbad _).mono ?_; rintro e w1 ⟨rfl, hw1⟩; replace hw1 := hw1.symm; subst hw1)))
  go_loopw [9, 10] (fun q1 q2 wr => ∃ (v : Value) (k : Nat), q1 = v ∧ q2 = .int .i64 (k : Int) ∧ k ≤ d ∧ wr.ownsRow w.heap.size 43 32 v k (flat32 (pf k ls i)) ∧ Below w.heap.size w wr) (fun _ q _ => d - (intOf q).toNat)
  case atStart => exact ⟨_, 0, rfl, rfl, by omega, World.ownsRow_nil _ _ _ _, Below.refl _ _⟩
  case round =>
    obtain ⟨v, k, rfl, rfl, hk, hown, hbl⟩ := hrel
    have hsz := hbl.size
    by_cases hlt : k < d
    · have hI : (k : Int) < d := by omega
      have hk16 : k ≤ 16 := by omega
      have hwk := wrap_pow hk16
      have hq16 := pow16 hk16
      have hq0 : 0 < 2 ^ k := Nat.pow_pos (by omega)
      have hpf : pf (k + 1) ls i = pf k ls i ++ [tr k ((ls.drop (sib (i / 2 ^ k) * 2 ^ k)).take (2 ^ k))] := by rw [pf_succ, tr_take]
      obtain ⟨s, hs⟩ : ∃ s : Nat, s = 2 ^ k := ⟨_, rfl⟩
      rw [← hs] at hwk hq16 hq0 hpf
      replace hs := Hid.mk' hs
      have hsz0 : ¬ (s : Int) = 0 := by omega
      obtain ⟨c, hc⟩ : ∃ c : Nat, c = i / s := ⟨_, rfl⟩
      have hcI : (i : Int) / (s : Int) = (c : Int) := by rw [hc]; exact (Int.natCast_ediv i s).symm
      have hc16 : c ≤ 65536 := by rw [hc]; exact Nat.le_trans (Nat.div_le_self i s) (by omega)
      have hxb := i64_xor1 c (by omega)
      have hb16 := sib_le2 hc16
      rw [← hc] at hpf
      obtain ⟨b, hb⟩ : ∃ b : Nat, b = sib c := ⟨_, rfl⟩
      rw [← hb] at hpf hxb hb16
      replace hb := Hid.mk' hb
      replace hc := Hid.mk' hc
      have hbs : b * s ≤ 65537 * 65536 := Nat.mul_le_mul hb16 hq16
      obtain ⟨q, hq⟩ : ∃ q : Nat, q = b * s := ⟨_, rfl⟩
      rw [← hq] at hpf hbs
      have hqI : (b : Int) * (s : Int) = (q : Int) := by rw [hq]; exact (Int.natCast_mul b s).symm
      have hqI2 : ((b : Int) + 1) * (s : Int) = ((q + s : Nat) : Int) := by rw [Int.add_mul, hqI, Int.one_mul]; exact (Int.natCast_add q s).symm
      replace hq := Hid.mk' hq
      have hpart := fun w x hx hS => part_any q s w.heap.size sp n cap ls w x hx (by omega) hq16 hS
      have hH := (hS.below hbl).mono (show w.heap.size ≤ wr.heap.size by omega)
      have hl32 : ∀ X ∈ (ls.drop q).take s, X.length = 32 := fun X hX => hS.l32 X (List.mem_of_mem_drop (List.mem_of_mem_take hX))
      generalize (ls.drop q).take s = hl at *
      have ht32 := tr_len k hl hl32
      have hroot := fun N sp n cap w x hx hS => refroot_any k N sp n cap hl w x hx hk16 hS
      replace hpf := Hid.mk' hpf
      generalize tr k hl = Y at *
      go_wp2_with (first
        | (refine ag24 (by rfl) _ _ (by rfl) w.heap.size k _ (pf k ls i) Y (by rfl) (own3.alloc _) w3.heap.size 1 (by rfl) (Arr.new w3 43 (h8 Y)) ht32 (by omega) (by simp; omega) ?_; intro v' w4 hown4 hg4)
        | (refine b1L (by rfl) _ (by rfl) Y (by rfl) ht32 ?_)
        | (go_at_call 59; go_must (refine (hroot _ _ _ _ _ _ (by rfl) hP).mono ?_; rintro e w3 ⟨rfl, hb3⟩; have hs3 := hb3.size; have own3 := own_same hown (fun k hk => hb3.block k (hown.lt k hk).2)))
        | (go_at_call 60; go_must (refine (hpart _ _ (by first | rfl | exact hqI2) hH).mono ?_; rintro e w2 ⟨sp', n', cap', rfl, hw2, hP⟩; cases hw2)))
      go_roundw
      case rel => exact ⟨_, k + 1, rfl, by go_num, by omega, by rw [hpf.out]; exact hown4, grown_below ((hbl.trans (hb3.mono hsz)).alloc (by omega) _) hg4 (fun k hk => (hown.lt k hk).1) (by simp; omega)⟩
      case measure => simp [intOf]; omega
    · obtain rfl : k = d := by omega
      have hI : ¬ (k : Int) < k := by omega
      go_wp2
      go_ret2
      exact ⟨_, rfl, hown, hbl⟩
end Go.Proofs.Ytndonaebdbbofaa
