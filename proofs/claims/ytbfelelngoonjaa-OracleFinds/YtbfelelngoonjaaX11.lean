/- Layer oracle: what the layers below give. -/
import Derived.Test.YtbfelelngoonjaaX01
import Derived.Test.YtbfelelngoonjaaX02
import Derived.Test.YtbfelelngoonjaaX03
import Derived.Test.YtbfelelngoonjaaX04
import Derived.Test.YtbfelelngoonjaaX06
import Derived.Test.YtbfelelngoonjaaX10
import Derived.BigQuiet
import Derived.BigRegion
import Derived.ChangeKeysEq
import Derived.Deep.DeepCutAuto
import Derived.Deep.DrawnRows
import Derived.Deep.MidRow
import Derived.Deep.QuietTactic
import Derived.Deep.RegionHeld3
import Derived.Deep.RegionLaw
import Derived.Deep.RegionWith
import Derived.Deep.WholeRow
import Derived.Great.BuildSlice
import Derived.Laws.AppendOwnNone
import Derived.Laws.BitsLemmas
import Derived.Laws.BytesArg
import Derived.Laws.CopyOwn
import Derived.Laws.Tables
import Derived.Lib.SlBytesConst
import Derived.LoopIn
import Derived.LoopNIn
import Derived.OwnWalkIn
import Derived.RangeFuncBound
import Derived.RangeFuncCalls
import Derived.RangeFuncLeaves
import Derived.RangeFuncNested
import Derived.RangeFuncRecord
import Derived.Shelf.Abstract
import Derived.Shelf.RegionOpen
import Derived.TacticsInMore
import Derived.WalkKit
import Derived.WalkLawsBesides
import Derived.WalkSpells
namespace Go.Proofs.Ytbfelelngoonjaa
open Go.RowKit
set_option maxRecDepth 100000
set_option linter.unusedVariables false
set_option linter.unusedSimpArgs false

/-- A list of 32 is that. -/
theorem list32 {P : List Int → Prop} (h : ∀ x0 x1 x2 x3 x4 x5 x6 x7 x8 x9 x10 x11 x12 x13 x14 x15 x16 x17 x18 x19 x20 x21 x22 x23 x24 x25 x26 x27 x28 x29 x30 x31 : Int, P [x0, x1, x2, x3, x4, x5, x6, x7, x8, x9, x10, x11, x12, x13, x14, x15, x16, x17, x18, x19, x20, x21, x22, x23, x24, x25, x26, x27, x28, x29, x30, x31]) (X : List Int) (hX : X.length = 32) : P X := by
  match X, hX with
  | [x0, x1, x2, x3, x4, x5, x6, x7, x8, x9, x10, x11, x12, x13, x14, x15, x16, x17, x18, x19, x20, x21, x22, x23, x24, x25, x26, x27, x28, x29, x30, x31], _ => exact h x0 x1 x2 x3 x4 x5 x6 x7 x8 x9 x10 x11 x12 x13 x14 x15 x16 x17 x18 x19 x20 x21 x22 x23 x24 x25 x26 x27 x28 x29 x30 x31
set_option maxRecDepth 100000 in
theorem built54 (sp : Option Addr) (n cap : Nat) (X : List Int) (hX : X.length = 32) (bs : List Int) : Try.prog.built 71 [(0, .slice sp n cap), (1, .agg (h8 X))] = some (En.arr ⟨sp, n, cap, bs, X⟩) :=
  list32 (P := fun X => Try.prog.built 71 [(0, .slice sp n cap), (1, .agg (h8 X))] = some (En.arr ⟨sp, n, cap, bs, X⟩)) (fun x0 x1 x2 x3 x4 x5 x6 x7 x8 x9 x10 x11 x12 x13 x14 x15 x16 x17 x18 x19 x20 x21 x22 x23 x24 x25 x26 x27 x28 x29 x30 x31 => by kernel_rfl) X hX
/-- What a climber's cells are. -/
def clm (m : Int) (X : List Int) : List Value := .func (Fn.func 26) #[] #[] :: .int .i64 m :: by8 X
/-- .. as an array. -/
def clA (m : Int) (X : List Int) : Array Value := (clm m X).toArray
theorem clm_len {m : Int} {X : List Int} (hX : X.length = 32) : (clm m X).length = 34 := by simp [clm, by8_len, hX]
theorem clm_one (m : Int) (X : List Int) : ∀ v ∈ clm m X, v.oneCell' = true := by
  intro v hv
  rcases List.mem_cons.1 hv with rfl | h
  · rfl
  · rcases List.mem_cons.1 h with rfl | h
    · rfl
    · exact by8_one _ v h
set_option maxRecDepth 100000 in
theorem built64 (m : Int) (X : List Int) (hX : X.length = 32) : Try.prog.built 136 [(0, .func (Fn.func 26) #[] #[]), (1, .int .i64 m), (2, .agg (h8 X))] = some (clA m X) :=
  list32 (P := fun X => Try.prog.built 136 [(0, .func (Fn.func 26) #[] #[]), (1, .int .i64 m), (2, .agg (h8 X))] = some (clA m X)) (fun x0 x1 x2 x3 x4 x5 x6 x7 x8 x9 x10 x11 x12 x13 x14 x15 x16 x17 x18 x19 x20 x21 x22 x23 x24 x25 x26 x27 x28 x29 x30 x31 => by kernel_rfl) X hX
theorem wp_bdT {o : Oper} {a : Act} {w : World} {K : Act → World → Prop} {Q : Exit → Act → World → Prop} (t : TypeId) (parts : Array (Nat × Operand)) (ho : o.op = .build t parts) {ps : List (Nat × Value)} (hp : parts.toList.map (fun p => (p.1, a.eval p.2)) = ps) {C : Array Value} (hb : Try.prog.built t ps = some C)
    (h : K (a.put o.dst (.agg C)) w) : o.wp Try.prog a w K Q := by
  have e : (parts.map fun (i, x) => (i, a.eval x)).toList = ps := by rw [Array.toList_map]; exact hp
  refine wp_build t parts ho (by rw [e, hb]; rfl) ?_
  rw [e, hb]; exact h
theorem bdT {ops : Array Oper} {rest : List Oper} {o : Oper} {a : Act} {w : World} {Q : Exit → Act → World → Prop} (hg : o.guard = none) (t : TypeId) (parts : Array (Nat × Operand)) (ho : o.op = .build t parts) {ps : List (Nat × Value)} (hp : parts.toList.map (fun p => (p.1, a.eval p.2)) = ps) {C : Array Value} (hb : Try.prog.built t ps = some C)
    (h : wpList Try.prog ops Q rest (a.put o.dst (.agg C)) w) : wpList Try.prog ops Q (o :: rest) a w :=
  wpList_plain hg fun _ hK => wp_bdT t parts ho hp hb (hK _ _ h)
/-- The bytes of a pair are told. -/
def BPo (L : List Int) (m : Nat) (w : World) (e : Ending) (w' : World) : Prop := ∃ sp cap, e = .returned (.slice sp m cap) ∧ BS w'.heap.size w' sp m cap L ∧ (∀ g off, sp = some ⟨g, off, none⟩ → w.heap.size ≤ g) ∧ Below w.heap.size w w'
set_option maxRecDepth 100000 in
set_option maxHeartbeats 600000 in
theorem pairOf_any (X Y : List Int) (w : World) (hX : X.length = 32) (hY : Y.length = 32) (bX : Bts X) (bY : Bts Y) : Calls Try.prog 104 #[.agg (h8 X), .agg (h8 Y)] w (BPo (1 :: (X ++ Y)) 65 w) := by
  obtain ⟨i0, hi, hz0, hz1, hz2⟩ := info_parts info5
  have HX := Hid.mk' hX
  have HY := Hid.mk' hY
  have hbt := Hid.mk' (Bts.one (bX.app bY))
  clear hX hY
  go_enter Try.func104, Try.ntmps104
  go_wp2_with (first
    | (at_make; go_must (refine wpList_make_own _ (by rfl) (.const (.int .i64 0)) (.const (.int .i64 65)) 29 (by rfl) (w.heap.size + 2) 5 i0 (.int .u8 0) 1 Try.underlying29 hi hz0 hz1 .i64 .i64 _ 65 (by rfl) (by rfl) (by omega) (by rw [hz2]; omega) (Nat.le_trans (by omega) maxLen_ge) (by simp) ?_; intro w1 hown1 hg1; have hown1 : w1.ownsRow (w.heap.size + 2) 5 1 (.slice (some ⟨w.heap.size + 2, 0, none⟩) 0 65) 0 [] := (by simpa using hown1); have hs1 : w.heap.size + 2 ≤ w1.heap.size := (by have := hg1.size; simpa using this); have hX1 : Arr w1 w.heap.size 32 (h8 X) := ((Arr.new w 32 _).alloc _).grown hg1 (by simp); have hY1 : Arr w1 (w.heap.size + 1) 32 (h8 Y) := (show Arr ((w.alloc _).alloc _) (w.heap.size + 1) 32 (h8 Y) from (by simpa using Arr.new (w.alloc (.cells (h8 X) 32)) 32 (h8 Y))).grown hg1 (by simp); have hB1 : Below w.heap.size w w1 := (((Below.refl _ _).alloc (Nat.le_refl _) _).alloc (by simp) _).grown hg1 (by simp; omega) (by simp)))
    | (at_builtin; refine append_bytes (by rfl) (.tmp 7) (.tmp 8) (by rfl) (w.heap.size + 2) _ 0 [] (by rfl) (hown1.alloc _) (some ⟨w1.heap.size, 0, none⟩) 1 1 [1] (by rfl) (by rfl) (fun h => by cases h) (Arr.sl (Arr.new w1 5 _)) (by omega) (by simp; omega) ?_; intro v2 w2 hown2 hg2; have hX2 := (hX1.alloc _).grown hg2 (ne_own hown1 (by omega)); have hY2 := (hY1.alloc _).grown hg2 (ne_own hown1 (by omega)); have hB2 := (hB1.alloc (by omega) _).grown hg2 (by simp; omega) (fun k e => by have := own_ge hown1 k e; omega); have hs2 : w.heap.size + 2 ≤ w2.heap.size := (by have := hg2.size; simp at this; omega))
    | (at_builtin; refine append_bytes (by rfl) (.tmp 10) (.tmp 11) (by rfl) (w.heap.size + 2) _ 1 [1] (by rfl) hown2 (some ⟨w.heap.size, 0, none⟩) 32 32 X (by rfl) HX.out.symm (fun h => by cases h) (Arr.sl hX2) (by omega) hs2 ?_; intro v3 w3 hown3 hg3; have hY3 := hY2.grown hg3 (ne_own hown2 (by omega)); have hB3 := hB2.grown hg3 (by omega) (fun k e => by have := own_ge hown2 k e; omega); have hs3 : w.heap.size + 2 ≤ w3.heap.size := Nat.le_trans hs2 hg3.size)
    | (at_builtin; refine append_bytes (by rfl) (.tmp 13) (.tmp 14) (by rfl) (w.heap.size + 2) _ 33 ([1] ++ X) (by rfl) hown3 (some ⟨w.heap.size + 1, 0, none⟩) 32 32 Y (by rfl) HY.out.symm (fun h => by cases h) (Arr.sl hY3) (by omega) hs3 ?_; intro v4 w4 hown4 hg4; have hB4 := hB3.grown hg4 (by omega) (fun k e => by have := own_ge hown3 k e; omega); obtain ⟨sp4, cap4, rfl, hb4, hg4⟩ := own_bs hown4 hbt.out (by omega)))
  go_ret
  exact ⟨sp4, cap4, rfl, hb4, fun g off e => by have := (hg4 g off e).1; omega, hB4⟩
end Go.Proofs.Ytbfelelngoonjaa
