/- Layer oracle: what the layers below give. -/
import Derived.Test.YtbfelelngoonjaaX01
import Derived.Test.YtbfelelngoonjaaX02
import Derived.Test.YtbfelelngoonjaaX03
import Derived.Test.YtbfelelngoonjaaX04
import Derived.Test.YtbfelelngoonjaaX09
import Derived.Test.YtbfelelngoonjaaX33
import Derived.Test.YtbfelelngoonjaaX05
import Derived.Test.YtbfelelngoonjaaX06
import Derived.Test.YtbfelelngoonjaaX10
import Derived.Test.YtbfelelngoonjaaX11
import Derived.Test.YtbfelelngoonjaaX12
import Derived.Test.YtbfelelngoonjaaX13
import Derived.Test.YtbfelelngoonjaaX14
import Derived.Test.YtbfelelngoonjaaX16
import Derived.Test.YtbfelelngoonjaaX17
import Derived.Test.YtbfelelngoonjaaX18
import Derived.Test.YtbfelelngoonjaaX19
import Derived.Test.YtbfelelngoonjaaX21
import Derived.BigQuiet
import Derived.BigRegion
import Derived.ChangeKeysEq
import Derived.Deep.DeepCutAuto
import Derived.Deep.DrawnRows
import Derived.Deep.MidRow
import Derived.Deep.QuietTactic
import Derived.Deep.RegionHeld3
import Derived.Deep.RegionLaw
import Derived.Deep.RegionWith
import Derived.Deep.WholeRow
import Derived.Great.BuildSlice
import Derived.Great.FillDense
import Derived.Laws.AppendOwnNone
import Derived.Laws.BitsLemmas
import Derived.Laws.BytesArg
import Derived.Laws.CopyOwn
import Derived.Laws.CopyRow
import Derived.Laws.MakeOwn
import Derived.Laws.OwnMore
import Derived.Laws.Tables
import Derived.Lib.AppendZeros
import Derived.Lib.SlBytesConst
import Derived.LoopIn
import Derived.LoopNIn
import Derived.Maps.AppendAt
import Derived.OwnWalkIn
import Derived.RangeFuncBound
import Derived.RangeFuncCalls
import Derived.RangeFuncLeaves
import Derived.RangeFuncNested
import Derived.RangeFuncRecord
import Derived.Shelf.Abstract
import Derived.Shelf.RegionOpen
import Derived.TacticsInMore
import Derived.WalkKit
import Derived.WalkLawsBesides
import Derived.WalkSpells
namespace Go.Proofs.Ytbfelelngoonjaa
open Go.RowKit
set_option maxRecDepth 100000
set_option linter.unusedVariables false
set_option linter.unusedSimpArgs false

theorem refPair_s (X Y : List Int) (w : World) (hX : X.length = 32) (hY : Y.length = 32) :
    Calls Try.prog 58 #[.agg (h8 X), .agg (h8 Y)] w fun e w' => e = .returned (.agg (h8 (shl (1 :: (X ++ Y))))) ∧ Below w.heap.size w w' := by
  have h := refPair_any X Y w hX hY
  rw [sha_h8] at h
  exact h
theorem bs_row {N : Nat} {w : World} {sp : Option Addr} {n cap g : Nat} {L : List Int} (h : BS N w sp n cap L) {D : Array Value} (hne : ∀ b off, sp = some ⟨b, off, none⟩ → b ≠ g) : BS N (w.setRow g D) sp n cap L := by
  refine ⟨h.len, h.nil, h.le, h.big, h.small, fun h0 => ?_, h.bts⟩
  obtain ⟨b, off, q, hbN, hB⟩ := h.at0 h0
  exact ⟨b, off, q, hbN, fun u hu => (World.cell?_of_block (w := w) (a := ⟨b, off + u, none⟩) (setRow_other w g b _ (hne b off q))).trans (hB u hu)⟩
set_option maxHeartbeats 4000000 in
theorem entry_any (X Y : List Int) (w : World) (hX : X.length = 32) (hY : Y.length = 32) (bX : Bts X) (bY : Bts Y) : Calls Try.prog 41 #[.agg (h8 X), .agg (h8 Y)] w (PoPost X Y w) := by
  have X0 := ((Arr.new w 32 (h8 X)).alloc (.cells (h8 Y) 32)).alloc (.cells (En.arr ⟨none, 0, 0, [], Z32⟩) 71)
  have Y0 := (show Arr ((w.alloc (.cells (h8 X) 32)).alloc (.cells (h8 Y) 32)) (w.heap.size + 1) 32 (h8 Y) from (by simpa using Arr.new (w.alloc (.cells (h8 X) 32)) 32 (h8 Y))).alloc (.cells (En.arr ⟨none, 0, 0, [], Z32⟩) 71)
  have V0 := Arr.new3 w (.cells (h8 X) 32) (.cells (h8 Y) 32) 71 (En.arr ⟨none, 0, 0, [], Z32⟩)
  have B0 := ((alloc_bel' w (.cells (h8 X) 32)).alloc (by simp) (.cells (h8 Y) 32)).alloc (by simp; omega) (.cells (En.arr ⟨none, 0, 0, [], Z32⟩) 71)
  have hzz : (En.arr ⟨none, 0, 0, [], Z32⟩).size = 33 := En.size Z32_len
  have hPr := Hid.mk' (fun u => refPair_s X Y u hX hY)
  obtain ⟨L, hLe⟩ : ∃ L, L = 1 :: (X ++ Y) := ⟨_, rfl⟩
  have hLb : Bts L := by rw [hLe]; exact Bts.one (bX.app bY)
  have hL : Hid ([1] ++ X ++ Y = L) := Hid.mk' (by rw [hLe]; simp)
  obtain ⟨Sm, hSe⟩ : ∃ S, S = shl L := ⟨_, rfl⟩
  have hS32 : Sm.length = 32 := by rw [hSe]; exact shl_len _
  rw [← hLe, ← hSe] at hPr
  have hfin := Hid.mk' (fun (uf : World) sp9 cp9 (hb : BS uf.heap.size uf sp9 65 cp9 L) (hg : ∀ b off, sp9 = some ⟨b, off, none⟩ → w.heap.size + 3 ≤ b) (hB : Below w.heap.size w uf) => show PoPost X Y w (.returned (.agg (En.arr ⟨sp9, 65, cp9, L, Sm⟩))) uf from
    ⟨⟨sp9, 65, cp9, L, Sm⟩, rfl, ⟨hb, hS32⟩, Hid.mk' ⟨hLe, by rw [← hLe]; exact hSe⟩, fun b off e => by have := hg b off e; omega, hB⟩)
  clear hLe hSe
  go_enter Try.func41, Try.ntmps41
  go_upto_region 1 with fail
  rw [← z77]
  replace B0 := B0.drew
  replace X0 := X0.drew
  replace Y0 := Y0.drew
  replace V0 := V0.drew
  obtain ⟨u0, hu0⟩ : ∃ u : World, u = (((w.alloc (.cells (h8 X) 32)).alloc (.cells (h8 Y) 32)).alloc (.cells (En.arr ⟨none, 0, 0, [], Z32⟩) 71)).drew := ⟨_, rfl⟩
  rw [← hu0] at B0 X0 Y0 V0
  have hsz0 := V0.lt
  refine wp_region_held_drew (S := fun u => Below w.heap.size w u ∧ Arr u w.heap.size 32 (h8 X) ∧ Arr u (w.heap.size + 1) 32 (h8 Y)) (by kernel_rfl) (by rw [← hu0]; exact ⟨B0, X0, Y0⟩) (fun hHeld => ?_)
  rw [← hu0]
  rw [← hu0] at hHeld
  clear hu0
  refine wpAnyH_take (i := 1) (oi := ⟨_, _, _, _, _, _⟩) (v := ?_) rfl (by kernel_rfl) (by kernel_rfl) (by kernel_rfl) (fun _ _ _ h => h) (Or.inl ⟨by rfl, ?_⟩) (by assumption) ?_
  rotate_left
  · intro u hSw
    go_simp
    try (with_reducible rfl)
  try simp only [Act.put, List.setIfInBounds_toArray, List.set_cons_zero, List.set_cons_succ]
  refine wpAnyH_take (i := 3) (oi := ⟨_, _, _, _, _, _⟩) (v := ?_) rfl (by kernel_rfl) (by kernel_rfl) (by kernel_rfl) (fun _ _ _ h => h) (Or.inl ⟨by rfl, ?_⟩) (by assumption) ?_
  rotate_left
  · intro u hSw
    go_simp
    try (with_reducible rfl)
  try simp only [Act.put, List.setIfInBounds_toArray, List.set_cons_zero, List.set_cons_succ]
  refine wpAnyH_take (i := 5) (oi := ⟨_, _, _, _, _, _⟩) rfl (by kernel_rfl) (by kernel_rfl) (by kernel_rfl) (fun _ _ _ h => h) (y24c (by rfl) (.tmp 2) rfl w.heap.size 0 rfl X hX (fun u hu => hu.2.1.range)) (by assumption) ?_
  try simp only [Act.put, List.setIfInBounds_toArray, List.set_cons_zero, List.set_cons_succ]
  refine wpAnyH_take (i := 6) (oi := ⟨_, _, _, _, _, _⟩) rfl (by kernel_rfl) (by kernel_rfl) (by kernel_rfl) (fun _ _ _ h => h) (y24c (by rfl) (.tmp 3) rfl (w.heap.size + 1) 0 rfl Y hY (fun u hu => hu.2.2.range)) (by assumption) ?_
  try simp only [Act.put, List.setIfInBounds_toArray, List.set_cons_zero, List.set_cons_succ]

  refine wpAnyH_ready (rs := [0]) (by kernel_rfl) (by simp) ?_
  refine AllReadyH.cons (o := ⟨_, _, _, _, _, _⟩) rfl (fun K hK => ?_) AllReadyH.nil
  have hb1 := alloc_bel' u0 (.cells #[.int .u8 1] 5)
  have B1 := B0.trans (hb1.mono B0.size)
  have X1 := X0.below hb1 X0.lt
  have Y1 := Y0.below hb1 Y0.lt
  have V1 := V0.below hb1 V0.lt
  have hsz1 := V1.lt
  have ow1 : (u0.alloc (.cells #[.int .u8 1] 5)).ownsRow (w.heap.size + 3) 5 1 (.slice (some ⟨u0.heap.size, 0, none⟩) 1 1) 1 (by8 [1]) := World.ownsRow_lit _ _ _ (by have := V0.lt; omega) (by unfold maxLen; omega) rfl
  go_simp
  go_wp2_with fail
  refine hK.out _ _ ⟨B1, X1, Y1⟩ (fun hHeld => ?_)
  clear hK K
  try simp only [Act.put, List.setIfInBounds_toArray, List.set_cons_zero, List.set_cons_succ]
  obtain ⟨u1, huq⟩ : ∃ u, u = u0.alloc (.cells #[.int .u8 1] 5) := ⟨_, rfl⟩
  rw [← huq] at B1 X1 Y1 V1 ow1 hsz1 hHeld ⊢
  clear huq hb1
  refine wpAnyH_ready (rs := [2]) (by kernel_rfl) (by simp) ?_
  refine AllReadyH.cons (o := ⟨_, _, _, _, _, _⟩) rfl (fun K hK => ?_) AllReadyH.nil
  refine step_append_bytes rfl (.tmp 5) (.tmp 6) rfl (w.heap.size + 3) _ 1 [1] rfl ow1 (some ⟨w.heap.size, 0, none⟩) 32 32 X rfl hX.symm (fun h => by cases h) (Arr.sl X1) (by omega) (by omega) (fun v2 u2 ow2 hg2 => ?_)
  have B2 := B1.grown hg2 (by have := B1.size; omega) (fun k e => by have := own_ge ow1 k e; omega)
  have X2 := X1.grown hg2 (fun e => by have := own_ge ow1 _ e.symm; omega)
  have Y2 := Y1.grown hg2 (fun e => by have := own_ge ow1 _ e.symm; omega)
  have V2 := V1.grown hg2 (fun e => by have := own_ge ow1 _ e.symm; omega)
  have hsz2 := V2.lt
  refine hK.out _ _ ⟨B2, X2, Y2⟩ (fun hHeld => ?_)
  clear hK K
  try simp only [Act.put, List.setIfInBounds_toArray, List.set_cons_zero, List.set_cons_succ]
  refine wpAnyH_ready (rs := [4]) (by kernel_rfl) (by simp) ?_
  refine AllReadyH.cons (o := ⟨_, _, _, _, _, _⟩) rfl (fun K hK => ?_) AllReadyH.nil
  refine step_append_bytes rfl (.tmp 7) (.tmp 8) rfl (w.heap.size + 3) _ 33 ([1] ++ X) rfl ow2 (some ⟨(w.heap.size + 1), 0, none⟩) 32 32 Y rfl hY.symm (fun h => by cases h) (Arr.sl Y2) (by omega) (by omega) (fun v3 u3 ow3 hg3 => ?_)
  have B3 := B2.grown hg3 (by have := B2.size; omega) (fun k e => by have := own_ge ow2 k e; omega)
  have X3 := X2.grown hg3 (fun e => by have := own_ge ow2 _ e.symm; omega)
  have Y3 := Y2.grown hg3 (fun e => by have := own_ge ow2 _ e.symm; omega)
  have V3 := V2.grown hg3 (fun e => by have := own_ge ow2 _ e.symm; omega)
  have hsz3 := V3.lt
  refine hK.out _ _ ⟨B3, X3, Y3⟩ (fun hHeld => ?_)
  clear hK K
  try simp only [Act.put, List.setIfInBounds_toArray, List.set_cons_zero, List.set_cons_succ]
  rw [hL.out] at ow3
  refine wpAnyH_ready (rs := [7]) (by kernel_rfl) (by simp) ?_
  refine AllReadyH.cons (o := ⟨_, _, _, _, _, _⟩) rfl (fun K hK => ?_) AllReadyH.nil
  go_simp
  refine (hPr.out u3).mono ?_; rintro e u4 ⟨rfl, hb4⟩
  have B4 := B3.trans (hb4.mono B3.size)
  have X4 := X3.below hb4 X3.lt
  have Y4 := Y3.below hb4 Y3.lt
  have V4 := V3.below hb4 V3.lt
  have hsz4 := V4.lt
  have ow4 := own_same ow3 (fun k hk => hb4.block k (ow3.lt k hk).2)
  go_wp2_with fail
  refine hK.out _ _ ⟨B4, X4, Y4⟩ (fun hHeld => ?_)
  clear hK K
  try simp only [Act.put, List.setIfInBounds_toArray, List.set_cons_zero, List.set_cons_succ]
  obtain ⟨sp9, cp9, rfl, hb9, hg9⟩ := own_bs ow4 hLb (by omega)
  refine wpAnyH_ready (rs := [8]) (by kernel_rfl) (by simp) ?_
  refine AllReadyH.cons (o := ⟨_, _, _, _, _, _⟩) rfl (fun K hK => ?_) AllReadyH.nil
  refine step_want rfl (wp_bdT 71 _ rfl rfl (built54 sp9 65 cp9 Sm hS32 L) ?_)
  refine hK.out _ _ ⟨B4, X4, Y4⟩ (fun hHeld => ?_)
  clear hK K
  try simp only [Act.put, List.setIfInBounds_toArray, List.set_cons_zero, List.set_cons_succ]
  refine wpAnyH_ready (rs := [9]) (by kernel_rfl) (by simp) ?_
  refine AllReadyH.cons (o := ⟨_, _, _, _, _, _⟩) rfl (fun K hK => ?_) AllReadyH.nil
  refine step_want rfl (wp_store_row 71 (.tmp 4) (.tmp 13) rfl (w.heap.size + 2) (En.arr ⟨sp9, 65, cp9, L, Sm⟩) rfl rfl 71 _ V4 (s54 hS32) (by first | exact hzz.trans (En.size (e := ⟨sp9, 65, cp9, L, Sm⟩) hS32).symm | exact (En.size (e := ⟨sp9, 65, cp9, L, Sm⟩) hS32).trans hzz.symm) (En.oneA _) ?_)
  have Bf := below_setRow B4 (g := w.heap.size + 2) (by omega) (En.arr ⟨sp9, 65, cp9, L, Sm⟩)
  have Vf := V4.setRow (En.arr ⟨sp9, 65, cp9, L, Sm⟩)
  have hbf := bs_row hb9 (D := En.arr ⟨sp9, 65, cp9, L, Sm⟩) (g := w.heap.size + 2) (fun b off e => by have := (hg9 b off e).1; omega)
  have Xf := X4.setRowOther (k := w.heap.size + 2) (En.arr ⟨sp9, 65, cp9, L, Sm⟩) (by omega)
  have Yf := Y4.setRowOther (k := w.heap.size + 2) (En.arr ⟨sp9, 65, cp9, L, Sm⟩) (by omega)
  generalize u4.setRow (w.heap.size + 2) (En.arr ⟨sp9, 65, cp9, L, Sm⟩) = uf at *
  refine hK.out _ _ ⟨Bf, Xf, Yf⟩ (fun hHeld => ?_)
  clear hK K
  try simp only [Act.put, List.setIfInBounds_toArray, List.set_cons_zero, List.set_cons_succ]
  refine wpAnyH_done (by kernel_rfl) ?_ _
  go_wp2_with fail
  exact bodyPost_ret (v := .agg (En.arr ⟨sp9, 65, cp9, L, Sm⟩)) (res54 Try.results41 rfl hS32 Vf) rfl (hfin.out uf sp9 cp9 hbf.here (fun b off e => (hg9 b off e).1) Bf)
end Go.Proofs.Ytbfelelngoonjaa
