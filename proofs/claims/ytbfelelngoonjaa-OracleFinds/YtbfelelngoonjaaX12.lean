/- Layer oracle: what the layers below give. -/
import Derived.Test.YtbfelelngoonjaaX01
import Derived.Test.YtbfelelngoonjaaX02
import Derived.Test.YtbfelelngoonjaaX03
import Derived.Test.YtbfelelngoonjaaX04
import Derived.Test.YtbfelelngoonjaaX05
import Derived.Test.YtbfelelngoonjaaX09
import Derived.Test.YtbfelelngoonjaaX10
import Derived.Test.YtbfelelngoonjaaX06
import Derived.Test.YtbfelelngoonjaaX11
import Derived.BigQuiet
import Derived.BigRegion
import Derived.ChangeKeysEq
import Derived.Deep.DeepCutAuto
import Derived.Deep.DrawnRows
import Derived.Deep.MidRow
import Derived.Deep.QuietTactic
import Derived.Deep.RegionHeld3
import Derived.Deep.RegionLaw
import Derived.Deep.RegionWith
import Derived.Deep.WholeRow
import Derived.Great.BuildSlice
import Derived.Laws.AppendOwnNone
import Derived.Laws.BitsLemmas
import Derived.Laws.BytesArg
import Derived.Laws.CopyOwn
import Derived.Laws.Tables
import Derived.Lib.SlBytesConst
import Derived.LoopIn
import Derived.LoopNIn
import Derived.OwnWalkIn
import Derived.RangeFuncBound
import Derived.RangeFuncCalls
import Derived.RangeFuncLeaves
import Derived.RangeFuncNested
import Derived.RangeFuncRecord
import Derived.Shelf.Abstract
import Derived.Shelf.RegionOpen
import Derived.TacticsInMore
import Derived.WalkKit
import Derived.WalkLawsBesides
import Derived.WalkSpells
namespace Go.Proofs.Ytbfelelngoonjaa
open Go.RowKit
set_option maxRecDepth 100000
set_option linter.unusedVariables false
set_option linter.unusedSimpArgs false

theorem gb_bel {w w1 : World} (h : Below w.heap.size w w1) (g : Nat) : w.grownBy w1 (some g) := ⟨h.os, h.tape, h.output, h.size, fun k hk _ => h.block k hk⟩
theorem gb_setCell {w w1 : World} {g : Nat} (h : w.grownBy w1 (some g)) (o : Nat) (v : Value) : w.grownBy (w1.setCell ⟨g, o, none⟩ v) (some g) :=
  ⟨h.os, h.tape, h.output, by simpa [World.setCell] using h.size, fun k hk hne => (Below.heap_setCell _ _ _ _ (fun e => hne (by rw [e]))).trans (h.block k hk hne)⟩
theorem gb_setCells {w w1 : World} {g : Nat} (h : w.grownBy w1 (some g)) : ∀ (vs : List Value) (o : Nat), w.grownBy (w1.setCells g o vs) (some g) := by
  intro vs
  induction vs generalizing w1 with
  | nil => intro o; exact h
  | cons v r ih => intro o; rw [World.setCells]; exact ih (gb_setCell h o v) (o + 1)
theorem gb_setRow {w w1 : World} {g b : Nat} (h : w.grownBy w1 (some g)) (hb : w.heap.size ≤ b) (D : Array Value) : w.grownBy (w1.setRow b D) (some g) :=
  ⟨h.os, h.tape, h.output, by simpa using h.size, fun k hk hne => (setRow_other w1 b k D (by omega)).trans (h.block k hk hne)⟩
theorem gb_row (w : World) (g : Nat) (D : Array Value) : w.grownBy (w.setRow g D) (some g) := ⟨rfl, rfl, rfl, by simp, fun k hk hne => setRow_other w g k D (fun e => hne (by rw [e]))⟩
/-- A climber in block g. -/
structure CL (w : World) (g : Nat) (m : Int) (X : List Int) : Prop where
  c0 : w.cell? ⟨g, 0, none⟩ = some (.func (Fn.func 26) #[] #[])
  c1 : w.cell? ⟨g, 1, none⟩ = some (.int .i64 m)
  rg : w.rangeAt g 2 (by8 X)
  th : w.there g 0 34
theorem CL.below {w w' : World} {g B : Nat} {m : Int} {X : List Int} (h : CL w g m X) (hb : Below B w w') (hg : g < B) : CL w' g m X :=
  ⟨(hb.cell (p := ⟨g, 0, none⟩) hg).trans h.c0, (hb.cell (p := ⟨g, 1, none⟩) hg).trans h.c1, range_below h.rg hb hg, there_below h.th hb hg⟩
theorem CL.lt {w : World} {g : Nat} {m : Int} {X : List Int} (h : CL w g m X) : g < w.heap.size := block_lt_of_cell h.c0
theorem CL.grown {w w' : World} {g g' : Nat} {m : Int} {X : List Int} (h : CL w g m X) (hg : w.grownBy w' (some g')) (hne : g ≠ g') : CL w' g m X := by
  have hb := hg.block g h.lt (fun e => hne (Option.some.inj e))
  refine ⟨(World.cell?_of_block (w := w) (a := ⟨g, 0, none⟩) hb).trans h.c0, (World.cell?_of_block (w := w) (a := ⟨g, 1, none⟩) hb).trans h.c1, fun j v hv => (World.cell?_of_block (w := w) (a := ⟨g, 2 + j, none⟩) hb).trans (h.rg j v hv), fun j hj => ⟨?_, ?_⟩⟩
  · rw [World.cell?_of_block (w := w) (a := ⟨g, 0 + j, none⟩) hb]; exact (h.th j hj).1
  · have h2 := (h.th j hj).2; simp only [World.frozen?] at h2 ⊢; rw [hb]; exact h2
theorem CL.of_arr {w : World} {g ty : Nat} {m : Int} {X : List Int} (h : Arr w g ty (clA m X)) (hX : X.length = 32) : CL w g m X := by
  unfold clA at h
  refine ⟨by rw [h.cell]; simp [clm], by rw [h.cell]; simp [clm], fun j v hv => ?_, fun j hj => ⟨?_, h.frozen _⟩⟩
  · rw [h.cell]; simp [clm, Nat.add_comm 2 j]; exact hv
  · rw [h.cell, Nat.zero_add]
    have : j < (clm m X).toArray.size := by simp [clm_len hX]; exact hj
    rw [Array.getElem?_eq_getElem this]; rfl
theorem CL.place {w : World} {g : Nat} {m m' : Int} {X : List Int} (h : CL w g m X) : CL (w.setCell ⟨g, 1, none⟩ (.int .i64 m')) g m' X := by
  have ht := h.th 1 (by omega)
  obtain ⟨v, hv⟩ := Option.isSome_iff_exists.1 ht.1
  have r := World.rangeAt_setCells_apart h.rg g 1 [.int .i64 m'] (.inr (.inr (by simp)))
  have e : w.setCells g 1 [.int .i64 m'] = w.setCell ⟨g, 1, none⟩ (.int .i64 m') := rfl
  have hth : w.there g 1 1 := fun j hj => by
    obtain rfl : j = 0 := by omega
    exact ht
  have rs := World.rangeAt_setCells_same w g 1 [.int .i64 m'] hth
  have r0 := World.rangeAt_setCells_apart (w := w) (b' := g) (o' := 0) (cs := [.func (Fn.func 26) #[] #[]]) (fun j v hv => by
    have : j = 0 := by have := (List.getElem?_eq_some_iff.1 hv).1; simpa using this
    subst this; simp at hv; subst hv; exact h.c0) g 1 [.int .i64 m'] (.inr (.inl (by simp)))
  have t := World.there_setCells h.th g 1 [.int .i64 m']
  rw [e] at r rs r0 t
  exact ⟨by simpa using r0 0 _ rfl, by simpa using rs 0 _ rfl, r, t⟩
theorem CL.node {w : World} {g : Nat} {m : Int} {X Y : List Int} (h : CL w g m X) (hY : Y.length = 32) : CL (w.setCells g 2 (by8 Y)) g m Y := by
  have r0 := World.rangeAt_setCells_apart (w := w) (b' := g) (o' := 0) (cs := [.func (Fn.func 26) #[] #[], .int .i64 m]) (fun j v hv => by
    have hj : j < 2 := by have := (List.getElem?_eq_some_iff.1 hv).1; simpa using this
    match j, hj with
    | 0, _ => simp at hv; subst hv; exact h.c0
    | 1, _ => simp at hv; subst hv; exact h.c1) g 2 (by8 Y) (.inr (.inl (by simp)))
  exact ⟨by simpa using r0 0 _ rfl, by simpa using r0 1 _ rfl, World.rangeAt_setCells_same w g 2 (by8 Y) (fun j hj => by
    rw [by8_len, hY] at hj
    have := h.th (2 + j) (by omega); rwa [Nat.zero_add] at this), World.there_setCells h.th g 2 (by8 Y)⟩
/-- The bytes of the level above, of the place m. -/
def pb (m : Nat) (X Y : List Int) : List Int := 1 :: (if m % 2 = 1 then Y ++ X else X ++ Y)
/-- What a level up comes to. -/
def UPost (g m : Nat) (X Y : List Int) (w : World) (e : Ending) (w' : World) : Prop :=
  ∃ sp cap, e = .returned (.agg (En.arr ⟨sp, 65, cap, pb m X Y, shl (pb m X Y)⟩)) ∧ BS w'.heap.size w' sp 65 cap (pb m X Y) ∧ (∀ g off, sp = some ⟨g, off, none⟩ → w.heap.size ≤ g) ∧ CL w' g ((m / 2 : Nat) : Int) (shl (pb m X Y)) ∧ w.grownBy w' (some g)
theorem res54 {f : Func} {w : World} {tmps : Array Value} {g t : Nat} {e : En} (hf : f.results = #[.cell t 71]) (hp : tmps.getD t undef = .pointer (some ⟨g, 0, none⟩)) (he : e.sm.length = 32) (hA : Arr w g 71 e.arr) :
    (results f tmps).run Try.prog w = .ok (.agg e.arr) w := results_cell_row hf _ _ g 71 _ (0, 0) _ hp hA Try.underlying71 rfl (s54 he)
theorem sum_h (sp : Option Addr) (n cap : Nat) (L : List Int) (N : Nat) (w : World) (hB : BS N w sp n cap L) :
    Calls Try.prog 26 #[.slice sp n cap] w fun e w' => e = .returned (.agg (h8 (shl L))) ∧ Below w.heap.size w w' := by
  have h := sum_sl sp n cap L w hB.len.out hB.nil hB.sl hB.le (by have := hB.small; omega)
  rw [sha_h8] at h
  exact h
set_option maxRecDepth 100000 in
set_option maxHeartbeats 2000000 in
theorem up_any (g m : Nat) (X Y : List Int) (w : World) (hC : CL w g (m : Int) X) (hX : X.length = 32) (hY : Y.length = 32) (bX : Bts X) (bY : Bts Y) (hm : m ≤ 9223372036854775807) :
    Calls Try.prog 88 #[.pointer (some ⟨g, 0, none⟩), .agg (h8 Y)] w (UPost g m X Y w) := by
  have hgw := hC.lt
  have AY := (Arr.new w 32 (h8 Y)).alloc (.cells #[.slice none 0 0, .int .u8 0, .int .u8 0, .int .u8 0, .int .u8 0, .int .u8 0, .int .u8 0, .int .u8 0, .int .u8 0, .int .u8 0, .int .u8 0, .int .u8 0, .int .u8 0, .int .u8 0, .int .u8 0, .int .u8 0, .int .u8 0, .int .u8 0, .int .u8 0, .int .u8 0, .int .u8 0, .int .u8 0, .int .u8 0, .int .u8 0, .int .u8 0, .int .u8 0, .int .u8 0, .int .u8 0, .int .u8 0, .int .u8 0, .int .u8 0, .int .u8 0, .int .u8 0] 71)
  have AR := Arr.new (w.alloc (.cells (h8 Y) 32)) 71 #[.slice none 0 0, .int .u8 0, .int .u8 0, .int .u8 0, .int .u8 0, .int .u8 0, .int .u8 0, .int .u8 0, .int .u8 0, .int .u8 0, .int .u8 0, .int .u8 0, .int .u8 0, .int .u8 0, .int .u8 0, .int .u8 0, .int .u8 0, .int .u8 0, .int .u8 0, .int .u8 0, .int .u8 0, .int .u8 0, .int .u8 0, .int .u8 0, .int .u8 0, .int .u8 0, .int .u8 0, .int .u8 0, .int .u8 0, .int .u8 0, .int .u8 0, .int .u8 0, .int .u8 0]
  rw [World.size_alloc] at AR
  have hbV : Below w.heap.size w ((w.alloc (.cells (h8 Y) 32)).alloc (.cells #[.slice none 0 0, .int .u8 0, .int .u8 0, .int .u8 0, .int .u8 0, .int .u8 0, .int .u8 0, .int .u8 0, .int .u8 0, .int .u8 0, .int .u8 0, .int .u8 0, .int .u8 0, .int .u8 0, .int .u8 0, .int .u8 0, .int .u8 0, .int .u8 0, .int .u8 0, .int .u8 0, .int .u8 0, .int .u8 0, .int .u8 0, .int .u8 0, .int .u8 0, .int .u8 0, .int .u8 0, .int .u8 0, .int .u8 0, .int .u8 0, .int .u8 0, .int .u8 0, .int .u8 0] 71)) := (alloc_bel' w _).alloc (by simp) _
  have hV := hC.below hbV hgw
  have hp : (bits .and .i64 (m : Int) 1 == 1) = decide (m % 2 = 1) := by
    rw [i64_and1, Bool.eq_iff_iff, beq_iff_eq, decide_eq_true_eq]
    omega
  have hdv : Hid ((m : Int) / 2 = ((m / 2 : Nat) : Int)) := Hid.mk' (by omega)
  go_enter Try.func88, Try.ntmps88
  go_wp2_with fail
  have hVs : w.heap.size + 2 = ((w.alloc (.cells (h8 Y) 32)).alloc (.cells #[.slice none 0 0, .int .u8 0, .int .u8 0, .int .u8 0, .int .u8 0, .int .u8 0, .int .u8 0, .int .u8 0, .int .u8 0, .int .u8 0, .int .u8 0, .int .u8 0, .int .u8 0, .int .u8 0, .int .u8 0, .int .u8 0, .int .u8 0, .int .u8 0, .int .u8 0, .int .u8 0, .int .u8 0, .int .u8 0, .int .u8 0, .int .u8 0, .int .u8 0, .int .u8 0, .int .u8 0, .int .u8 0, .int .u8 0, .int .u8 0, .int .u8 0, .int .u8 0, .int .u8 0] 71)).heap.size := by simp
  generalize (w.alloc (.cells (h8 Y) 32)).alloc (.cells #[.slice none 0 0, .int .u8 0, .int .u8 0, .int .u8 0, .int .u8 0, .int .u8 0, .int .u8 0, .int .u8 0, .int .u8 0, .int .u8 0, .int .u8 0, .int .u8 0, .int .u8 0, .int .u8 0, .int .u8 0, .int .u8 0, .int .u8 0, .int .u8 0, .int .u8 0, .int .u8 0, .int .u8 0, .int .u8 0, .int .u8 0, .int .u8 0, .int .u8 0, .int .u8 0, .int .u8 0, .int .u8 0, .int .u8 0, .int .u8 0, .int .u8 0, .int .u8 0, .int .u8 0] 71) = V at *
  have hgV : g < V.heap.size := by omega
  go_cut [5, 6] (fun s t wc => ∃ ga gb, s = .pointer (some ⟨ga, 0, none⟩) ∧ t = .pointer (some ⟨gb, 0, none⟩) ∧ ga ≠ gb ∧ V.heap.size ≤ ga ∧ V.heap.size ≤ gb ∧ Arr wc ga 32 (h8 X) ∧ Arr wc gb 32 (h8 Y) ∧ Below V.heap.size V wc)
  case first =>
    refine wp_region_held_drew (S := fun u => Below V.heap.size V u) (by kernel_rfl) ((Below.refl _ _).drew) (fun hHeld => ?_)
    refine wpAnyH_take (i := 0) (oi := ⟨_, _, _, _, _, _⟩) (v := ?_) rfl (by kernel_rfl) (by kernel_rfl) (by kernel_rfl) (fun _ _ _ h => h) (Or.inl ⟨by rfl, ?_⟩) (by assumption) ?_
    rotate_left
    · intro u hSw
      go_simp
      try (with_reducible rfl)
    try simp only [Act.put, List.setIfInBounds_toArray, List.set_cons_zero, List.set_cons_succ]
    refine wpAnyH_take (i := 1) (oi := ⟨_, _, _, _, _, _⟩) (v := ?_) rfl (by kernel_rfl) (by kernel_rfl) (by kernel_rfl) (fun _ _ _ h => h) (Or.inl ⟨by rfl, ?_⟩) (by assumption) ?_
    rotate_left
    · intro u hSw
      go_simp
      try (with_reducible rfl)
    try simp only [Act.put, List.setIfInBounds_toArray, List.set_cons_zero, List.set_cons_succ]
    refine wpAnyH_take (i := 2) (oi := ⟨_, _, _, _, _, _⟩) (v := ?_) rfl (by kernel_rfl) (by kernel_rfl) (by kernel_rfl) (fun _ _ _ h => h) (Or.inl ⟨by rfl, ?_⟩) (by assumption) ?_
    rotate_left
    · intro u hSw
      go_simp
      try (with_reducible rfl)
    try simp only [Act.put, List.setIfInBounds_toArray, List.set_cons_zero, List.set_cons_succ]
    refine wpAnyH_take (i := 3) (oi := ⟨_, _, _, _, _, _⟩) rfl (by kernel_rfl) (by kernel_rfl) (by kernel_rfl) (fun _ _ _ h => h) (y24 (by rfl) (.tmp 10) rfl (g) (2) rfl X hX (fun u hu => range_below hV.rg hu hgV)) (by assumption) ?_
    try simp only [Act.put, List.setIfInBounds_toArray, List.set_cons_zero, List.set_cons_succ]
    refine wpAnyH_take (i := 4) (oi := ⟨_, _, _, _, _, _⟩) rfl (by kernel_rfl) (by kernel_rfl) (by kernel_rfl) (fun _ _ _ h => h) (y24 (by rfl) (.tmp 3) rfl (w.heap.size) (0) rfl Y hY (fun u hu => range_below AY.range hu (by omega))) (by assumption) ?_
    try simp only [Act.put, List.setIfInBounds_toArray, List.set_cons_zero, List.set_cons_succ]
    refine wpAnyH_ready (rs := [5, 6]) (by kernel_rfl) (by simp) ?_
    refine AllReadyH.cons (o := ⟨_, _, _, _, _, _⟩) rfl (fun K hK => ?_) (AllReadyH.cons (o := ⟨_, _, _, _, _, _⟩) rfl (fun K hK => ?_) AllReadyH.nil)
    · have hb1 : Below V.heap.size V (V.drew.alloc (.cells (h8 Z32) 32)) := (Below.refl V.heap.size V).drew.alloc (by simp) _
      have ha2 : Arr (V.drew.alloc (.cells (h8 Z32) 32)) V.heap.size 32 (h8 Z32) := Arr.new V.drew 32 (h8 Z32)
      go_simp
      go_wp2_with fail
      refine hK.out _ _ hb1 (fun hHeld => ?_)
      clear hK K
      try simp only [Act.put, List.setIfInBounds_toArray, List.set_cons_zero, List.set_cons_succ]
      refine wpAnyH_ready (rs := [6]) (by kernel_rfl) (by simp) ?_
      refine AllReadyH.cons (o := ⟨_, _, _, _, _, _⟩) rfl (fun K hK => ?_) AllReadyH.nil
      have hb3 : Below V.heap.size V ((V.drew.alloc (.cells (h8 Z32) 32)).alloc (.cells (h8 Z32) 32)) := hb1.alloc (by simp) _
      have ha4 : Arr ((V.drew.alloc (.cells (h8 Z32) 32)).alloc (.cells (h8 Z32) 32)) (V.heap.size + 1) 32 (h8 Z32) := by have h := Arr.new (V.drew.alloc (.cells (h8 Z32) 32)) 32 (h8 Z32); rw [show (V.drew.alloc (.cells (h8 Z32) 32)).heap.size = V.heap.size + 1 by simp] at h; exact h
      have hc5 := Arr.alloc ha2 (.cells (h8 Z32) 32)
      go_simp
      go_wp2_with fail
      refine hK.out _ _ hb3 (fun hHeld => ?_)
      clear hK K
      try simp only [Act.put, List.setIfInBounds_toArray, List.set_cons_zero, List.set_cons_succ]
      refine wpAnyH_ready (rs := [7]) (by kernel_rfl) (by simp) ?_
      refine AllReadyH.cons (o := ⟨_, _, _, _, _, _⟩) rfl (fun K hK => ?_) AllReadyH.nil
      have hb6 : Below V.heap.size V (((V.drew.alloc (.cells (h8 Z32) 32)).alloc (.cells (h8 Z32) 32)).setRow V.heap.size (h8 X)) := below_setRow hb3 (by omega) _
      have ha7 := Arr.setRow hc5 (h8 X)
      have hc8 := Arr.setRowOther ha4 (k := V.heap.size) (h8 X) (by omega)
      refine step_want rfl (wp_store_row 32 (.tmp 5) (.tmp 11) rfl V.heap.size (h8 X) rfl rfl 32 _ hc5 (s24h8 hX) (by rw [h8_size, h8_size, hX, Z32_len]) (h8_one X) ?_)
      refine hK.out _ _ hb6 (fun hHeld => ?_)
      clear hK K
      try simp only [Act.put, List.setIfInBounds_toArray, List.set_cons_zero, List.set_cons_succ]
      refine wpAnyH_ready (rs := [8]) (by kernel_rfl) (by simp) ?_
      refine AllReadyH.cons (o := ⟨_, _, _, _, _, _⟩) rfl (fun K hK => ?_) AllReadyH.nil
      have hb9 : Below V.heap.size V ((((V.drew.alloc (.cells (h8 Z32) 32)).alloc (.cells (h8 Z32) 32)).setRow V.heap.size (h8 X)).setRow (V.heap.size + 1) (h8 Y)) := below_setRow hb6 (by omega) _
      have ha10 := Arr.setRow hc8 (h8 Y)
      have hc11 := Arr.setRowOther ha7 (k := (V.heap.size + 1)) (h8 Y) (by omega)
      refine step_want rfl (wp_store_row 32 (.tmp 6) (.tmp 12) rfl (V.heap.size + 1) (h8 Y) rfl rfl 32 _ hc8 (s24h8 hY) (by rw [h8_size, h8_size, hY, Z32_len]) (h8_one Y) ?_)
      refine hK.out _ _ hb9 (fun hHeld => ?_)
      clear hK K
      try simp only [Act.put, List.setIfInBounds_toArray, List.set_cons_zero, List.set_cons_succ]
      refine wpAnyH_done (by kernel_rfl) ?_ _
      go_wp2_with fail
      go_meet
      exact ⟨_, _, rfl, rfl, by omega, by omega, by omega, hc11, ha10, hb9⟩
    · have hb12 : Below V.heap.size V (V.drew.alloc (.cells (h8 Z32) 32)) := (Below.refl V.heap.size V).drew.alloc (by simp) _
      have ha13 : Arr (V.drew.alloc (.cells (h8 Z32) 32)) V.heap.size 32 (h8 Z32) := Arr.new V.drew 32 (h8 Z32)
      go_simp
      go_wp2_with fail
      refine hK.out _ _ hb12 (fun hHeld => ?_)
      clear hK K
      try simp only [Act.put, List.setIfInBounds_toArray, List.set_cons_zero, List.set_cons_succ]
      refine wpAnyH_ready (rs := [5]) (by kernel_rfl) (by simp) ?_
      refine AllReadyH.cons (o := ⟨_, _, _, _, _, _⟩) rfl (fun K hK => ?_) AllReadyH.nil
      have hb14 : Below V.heap.size V ((V.drew.alloc (.cells (h8 Z32) 32)).alloc (.cells (h8 Z32) 32)) := hb12.alloc (by simp) _
      have ha15 : Arr ((V.drew.alloc (.cells (h8 Z32) 32)).alloc (.cells (h8 Z32) 32)) (V.heap.size + 1) 32 (h8 Z32) := by have h := Arr.new (V.drew.alloc (.cells (h8 Z32) 32)) 32 (h8 Z32); rw [show (V.drew.alloc (.cells (h8 Z32) 32)).heap.size = V.heap.size + 1 by simp] at h; exact h
      have hc16 := Arr.alloc ha13 (.cells (h8 Z32) 32)
      go_simp
      go_wp2_with fail
      refine hK.out _ _ hb14 (fun hHeld => ?_)
      clear hK K
      try simp only [Act.put, List.setIfInBounds_toArray, List.set_cons_zero, List.set_cons_succ]
      refine wpAnyH_ready (rs := [7]) (by kernel_rfl) (by simp) ?_
      refine AllReadyH.cons (o := ⟨_, _, _, _, _, _⟩) rfl (fun K hK => ?_) AllReadyH.nil
      have hb17 : Below V.heap.size V (((V.drew.alloc (.cells (h8 Z32) 32)).alloc (.cells (h8 Z32) 32)).setRow (V.heap.size + 1) (h8 X)) := below_setRow hb14 (by omega) _
      have ha18 := Arr.setRow ha15 (h8 X)
      have hc19 := Arr.setRowOther hc16 (k := (V.heap.size + 1)) (h8 X) (by omega)
      refine step_want rfl (wp_store_row 32 (.tmp 5) (.tmp 11) rfl (V.heap.size + 1) (h8 X) rfl rfl 32 _ ha15 (s24h8 hX) (by rw [h8_size, h8_size, hX, Z32_len]) (h8_one X) ?_)
      refine hK.out _ _ hb17 (fun hHeld => ?_)
      clear hK K
      try simp only [Act.put, List.setIfInBounds_toArray, List.set_cons_zero, List.set_cons_succ]
      refine wpAnyH_ready (rs := [8]) (by kernel_rfl) (by simp) ?_
      refine AllReadyH.cons (o := ⟨_, _, _, _, _, _⟩) rfl (fun K hK => ?_) AllReadyH.nil
      have hb20 : Below V.heap.size V ((((V.drew.alloc (.cells (h8 Z32) 32)).alloc (.cells (h8 Z32) 32)).setRow (V.heap.size + 1) (h8 X)).setRow V.heap.size (h8 Y)) := below_setRow hb17 (by omega) _
      have ha21 := Arr.setRow hc19 (h8 Y)
      have hc22 := Arr.setRowOther ha18 (k := V.heap.size) (h8 Y) (by omega)
      refine step_want rfl (wp_store_row 32 (.tmp 6) (.tmp 12) rfl V.heap.size (h8 Y) rfl rfl 32 _ hc19 (s24h8 hY) (by rw [h8_size, h8_size, hY, Z32_len]) (h8_one Y) ?_)
      refine hK.out _ _ hb20 (fun hHeld => ?_)
      clear hK K
      try simp only [Act.put, List.setIfInBounds_toArray, List.set_cons_zero, List.set_cons_succ]
      refine wpAnyH_done (by kernel_rfl) ?_ _
      go_wp2_with fail
      go_meet
      exact ⟨_, _, rfl, rfl, by omega, by omega, by omega, hc22, ha21, hb20⟩

  case rest =>
    obtain ⟨ga, gb, rfl, rfl, hab, hga, hgb, AA, AB, hVc⟩ := hcut
    have hCc := hV.below hVc hgV
    have cc1 := hCc.c1
    cases hd : decide (m % 2 = 1) with
    | true =>
      rw [hd] at hp
      obtain ⟨L, hL⟩ : ∃ L, L = pb m X Y := ⟨_, rfl⟩
      obtain ⟨S, hS⟩ : ∃ S, S = shl L := ⟨_, rfl⟩
      have hpo : ∀ w, Calls Try.prog 104 #[.agg (h8 Y), .agg (h8 X)] w (BPo L 65 w) := fun w => by rw [hL]; unfold pb; rw [if_pos (of_decide_eq_true hd)]; exact pairOf_any Y X w hY hX bY bX
      have hsh : S.length = 32 := by rw [hS]; exact shl_len _
      replace hL := Hid.mk' hL
      replace hS := Hid.mk' hS
      clear hd
      go_upto_region 4 with (first | (refine ld24 (by rfl) (.tmp 6) (by rfl) gb 0 (by rfl) Y hY AB.range ?_) | (refine ld24 (by rfl) (.tmp 5) (by rfl) ga 0 (by rfl) X hX AA.range ?_) | (refine st24 (by rfl) (.tmp 5) (.tmp 19) (by rfl) ga Y X (by rfl) (by rfl) hY hX AA ?_; have AA1 := AA.setRow (h8 Y); have AB1 := AB.setRowOther (k := ga) (h8 Y) (Ne.symm hab)) | (refine st24 (by rfl) (.tmp 6) (.tmp 20) (by rfl) gb X Y (by rfl) (by rfl) hX hY AB1 ?_; have AB2 := AB1.setRow (h8 X); have AA2 := AA1.setRowOther (k := gb) (h8 X) hab))
      have hVd := below_setRow (below_setRow hVc (g := ga) hga (h8 Y)) (g := gb) hgb (h8 X)
      go_upto_region 5 with (first | (refine ld24 (by rfl) (.tmp 5) (by rfl) ga 0 (by rfl) Y hY AA2.range ?_) | (refine ld24 (by rfl) (.tmp 6) (by rfl) gb 0 (by rfl) X hX AB2.range ?_) | (go_at_call 104; go_must (refine (hpo _).mono ?_; rintro e w5 ⟨sp, cp, rfl, hb5, hg5, hbl5⟩)))
      have hwd := hVc.size
      have hV5 : Below V.heap.size V w5 := hVd.trans (hbl5.mono (by have := hVd.size; simpa using this))
      have hC5 := hV.below hV5 hgV
      have hsp5 : Hid (∀ g' off, sp = some ⟨g', off, none⟩ → V.heap.size ≤ g') := Hid.mk' (fun g' off e => Nat.le_trans hVd.size (hg5 g' off e))
      clear hg5
      have c0 := hC5.c0
      have c1 := hC5.c1
      have hsu : ∀ (N : Nat) (w : World), BS N w sp 65 cp L → Calls Try.prog 26 #[.slice sp 65 cp] w fun e w' => e = .returned (.agg (h8 S)) ∧ Below w.heap.size w w' := fun N w h => by rw [hS.out]; exact sum_h sp 65 cp L N w h
      go_upto_region 6 with (first | (go_at_call 26; go_must (refine (hsu _ w5 hb5).mono ?_; rintro e w6 ⟨rfl, hb6⟩; have hC6 := hC5.below hb6 (Nat.lt_of_lt_of_le hgV hV5.size))) | (refine wpList_store_mid (by rfl) 32 (.tmp 32) (.tmp 30) (by rfl) g 2 (h8 S) (by rfl) (by rfl) (fun j hj => by rw [h8_size, hsh] at hj; have := hC6.th (2 + j) (by omega); rwa [Nat.zero_add] at this) (s24h8 hsh) (h8_one _) ?_))
      simp only [h8_list]
      have hC7 := hC6.node hsh
      have hV6 : Below V.heap.size V w6 := hV5.trans (hb6.mono hV5.size)
      have AR6 := AR.below hV6 (by omega)
      have AR7 := AR6.setCellsOther (k := g) (by omega) 2 (by8 S)
      have G7 : w.grownBy (w6.setCells g 2 (by8 S)) (some g) := gb_setCells (gb_bel (hbV.trans (hV6.mono (by omega))) g) _ _
      have B6 := hb5.below hb6
      have B7 := (B6.grown (gb_setCells (World.grownBy.refl w6 (some g)) (by8 S) 2) (fun b off e => by have := hsp5.out b off e; omega))
      replace c1 := hC7.c1
      have z7 := hC7.th 1 (by omega)
      rw [Nat.zero_add] at z7
      generalize hW7 : w6.setCells g 2 (by8 S) = W7 at *
      have hw67 : W7.heap.size = w6.heap.size := by rw [← hW7]; exact size_setCells _ _ _ _
      clear hW7
      go_upto_region 7 with fail
      have hC8 := hC7.place (m' := ((m / 2 : Nat) : Int))
      have G8 := gb_setCell G7 1 (.int .i64 ((m / 2 : Nat) : Int))
      have AR8 := AR7.setOther (a := ⟨g, 1, none⟩) (.int .i64 ((m / 2 : Nat) : Int)) (by show w.heap.size + 1 ≠ g; omega)
      have B8 := B7.grown (gb_setCell (World.grownBy.refl W7 (some g)) 1 (.int .i64 ((m / 2 : Nat) : Int))) (fun b off e => by have := hsp5.out b off e; omega)
      have r8 := hC8.rg
      rw [hdv.out]
      have hw8 : (W7.setCell ⟨g, 1, none⟩ (.int .i64 ((m / 2 : Nat) : Int))).heap.size = w6.heap.size := by rw [← hw67]; simp [World.setCell]
      generalize W7.setCell ⟨g, 1, none⟩ (.int .i64 ((m / 2 : Nat) : Int)) = W8 at *
      go_wp2_with (first | (refine ld24 (by rfl) (.tmp 43) (by rfl) g 2 (by rfl) _ hsh r8 ?_) | (refine bdT (by rfl) 71 _ (by rfl) (by rfl) (built54 sp 65 cp _ hsh (L)) ?_) | (refine wpList_store_arr (by rfl) 71 (.tmp 4) (.tmp 45) (by rfl) (w.heap.size + 1) (En.arr ⟨sp, 65, cp, L, S⟩) (by rfl) (by rfl) 71 _ AR8 (s54 (e := ⟨sp, 65, cp, L, S⟩) hsh) (En.size (e := ⟨sp, 65, cp, L, S⟩) hsh).symm (En.oneA _) ?_))
      have Gr := gb_row W8 (w.heap.size + 1) (En.arr ⟨sp, 65, cp, L, S⟩)
      have hpost : UPost g m X Y w (.returned (.agg (En.arr ⟨sp, 65, cp, L, S⟩))) (W8.setRow (w.heap.size + 1) (En.arr ⟨sp, 65, cp, L, S⟩)) := by
        unfold UPost
        rw [← hL.out, ← hS.out]
        exact ⟨sp, cp, rfl, (B8.grown Gr (fun b off e => by have := hsp5.out b off e; omega)).here, (fun b off e => by have := hsp5.out b off e; omega), hC8.grown Gr (by omega), gb_setRow G8 (by omega) _⟩
      exact bodyPost_ret (v := .agg (En.arr ⟨sp, 65, cp, L, S⟩)) (res54 (e := ⟨sp, 65, cp, L, S⟩) Try.results88 rfl hsh (AR8.setRow _)) rfl hpost
    | false =>
      rw [hd] at hp
      obtain ⟨L, hL⟩ : ∃ L, L = pb m X Y := ⟨_, rfl⟩
      obtain ⟨S, hS⟩ : ∃ S, S = shl L := ⟨_, rfl⟩
      have hpo : ∀ w, Calls Try.prog 104 #[.agg (h8 X), .agg (h8 Y)] w (BPo L 65 w) := fun w => by rw [hL]; unfold pb; rw [if_neg (of_decide_eq_false hd)]; exact pairOf_any X Y w hX hY bX bY
      have hsh : S.length = 32 := by rw [hS]; exact shl_len _
      replace hL := Hid.mk' hL
      replace hS := Hid.mk' hS
      clear hd
      go_upto_region 4 with fail
      have hVd := hVc
      go_upto_region 5 with (first | (refine ld24 (by rfl) (.tmp 5) (by rfl) ga 0 (by rfl) X hX AA.range ?_) | (refine ld24 (by rfl) (.tmp 6) (by rfl) gb 0 (by rfl) Y hY AB.range ?_) | (go_at_call 104; go_must (refine (hpo _).mono ?_; rintro e w5 ⟨sp, cp, rfl, hb5, hg5, hbl5⟩)))
      have hwd := hVc.size
      have hV5 : Below V.heap.size V w5 := hVd.trans (hbl5.mono (by have := hVd.size; simpa using this))
      have hC5 := hV.below hV5 hgV
      have hsp5 : Hid (∀ g' off, sp = some ⟨g', off, none⟩ → V.heap.size ≤ g') := Hid.mk' (fun g' off e => Nat.le_trans hVd.size (hg5 g' off e))
      clear hg5
      have c0 := hC5.c0
      have c1 := hC5.c1
      have hsu : ∀ (N : Nat) (w : World), BS N w sp 65 cp L → Calls Try.prog 26 #[.slice sp 65 cp] w fun e w' => e = .returned (.agg (h8 S)) ∧ Below w.heap.size w w' := fun N w h => by rw [hS.out]; exact sum_h sp 65 cp L N w h
      go_upto_region 6 with (first | (go_at_call 26; go_must (refine (hsu _ w5 hb5).mono ?_; rintro e w6 ⟨rfl, hb6⟩; have hC6 := hC5.below hb6 (Nat.lt_of_lt_of_le hgV hV5.size))) | (refine wpList_store_mid (by rfl) 32 (.tmp 32) (.tmp 30) (by rfl) g 2 (h8 S) (by rfl) (by rfl) (fun j hj => by rw [h8_size, hsh] at hj; have := hC6.th (2 + j) (by omega); rwa [Nat.zero_add] at this) (s24h8 hsh) (h8_one _) ?_))
      simp only [h8_list]
      have hC7 := hC6.node hsh
      have hV6 : Below V.heap.size V w6 := hV5.trans (hb6.mono hV5.size)
      have AR6 := AR.below hV6 (by omega)
      have AR7 := AR6.setCellsOther (k := g) (by omega) 2 (by8 S)
      have G7 : w.grownBy (w6.setCells g 2 (by8 S)) (some g) := gb_setCells (gb_bel (hbV.trans (hV6.mono (by omega))) g) _ _
      have B6 := hb5.below hb6
      have B7 := (B6.grown (gb_setCells (World.grownBy.refl w6 (some g)) (by8 S) 2) (fun b off e => by have := hsp5.out b off e; omega))
      replace c1 := hC7.c1
      have z7 := hC7.th 1 (by omega)
      rw [Nat.zero_add] at z7
      generalize hW7 : w6.setCells g 2 (by8 S) = W7 at *
      have hw67 : W7.heap.size = w6.heap.size := by rw [← hW7]; exact size_setCells _ _ _ _
      clear hW7
      go_upto_region 7 with fail
      have hC8 := hC7.place (m' := ((m / 2 : Nat) : Int))
      have G8 := gb_setCell G7 1 (.int .i64 ((m / 2 : Nat) : Int))
      have AR8 := AR7.setOther (a := ⟨g, 1, none⟩) (.int .i64 ((m / 2 : Nat) : Int)) (by show w.heap.size + 1 ≠ g; omega)
      have B8 := B7.grown (gb_setCell (World.grownBy.refl W7 (some g)) 1 (.int .i64 ((m / 2 : Nat) : Int))) (fun b off e => by have := hsp5.out b off e; omega)
      have r8 := hC8.rg
      rw [hdv.out]
      have hw8 : (W7.setCell ⟨g, 1, none⟩ (.int .i64 ((m / 2 : Nat) : Int))).heap.size = w6.heap.size := by rw [← hw67]; simp [World.setCell]
      generalize W7.setCell ⟨g, 1, none⟩ (.int .i64 ((m / 2 : Nat) : Int)) = W8 at *
      go_wp2_with (first | (refine ld24 (by rfl) (.tmp 43) (by rfl) g 2 (by rfl) _ hsh r8 ?_) | (refine bdT (by rfl) 71 _ (by rfl) (by rfl) (built54 sp 65 cp _ hsh (L)) ?_) | (refine wpList_store_arr (by rfl) 71 (.tmp 4) (.tmp 45) (by rfl) (w.heap.size + 1) (En.arr ⟨sp, 65, cp, L, S⟩) (by rfl) (by rfl) 71 _ AR8 (s54 (e := ⟨sp, 65, cp, L, S⟩) hsh) (En.size (e := ⟨sp, 65, cp, L, S⟩) hsh).symm (En.oneA _) ?_))
      have Gr := gb_row W8 (w.heap.size + 1) (En.arr ⟨sp, 65, cp, L, S⟩)
      have hpost : UPost g m X Y w (.returned (.agg (En.arr ⟨sp, 65, cp, L, S⟩))) (W8.setRow (w.heap.size + 1) (En.arr ⟨sp, 65, cp, L, S⟩)) := by
        unfold UPost
        rw [← hL.out, ← hS.out]
        exact ⟨sp, cp, rfl, (B8.grown Gr (fun b off e => by have := hsp5.out b off e; omega)).here, (fun b off e => by have := hsp5.out b off e; omega), hC8.grown Gr (by omega), gb_setRow G8 (by omega) _⟩
      exact bodyPost_ret (v := .agg (En.arr ⟨sp, 65, cp, L, S⟩)) (res54 (e := ⟨sp, 65, cp, L, S⟩) Try.results88 rfl hsh (AR8.setRow _)) rfl hpost
end Go.Proofs.Ytbfelelngoonjaa
