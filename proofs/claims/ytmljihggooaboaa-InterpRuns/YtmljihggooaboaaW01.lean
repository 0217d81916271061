/- ZVa, QVa, Ia, Tw, I0, Ib, Ic. -/
import Derived.Test.YtmljihggooaboaaRows
import Derived.BigQuiet
import Derived.BigRegion
import Derived.ChangeKeysEq
import Derived.Deep.DeepCutAuto
import Derived.Deep.DrawnRows
import Derived.Deep.MidRow
import Derived.Deep.QuietTactic
import Derived.Deep.RegionHeld3
import Derived.Deep.RegionLaw
import Derived.Deep.RegionWith
import Derived.Deep.WholeRow
import Derived.DeepKeys3
import Derived.Great.BuildSlice
import Derived.Laws.AppendOwnNone
import Derived.Laws.BitsLemmas
import Derived.Laws.BytesArg
import Derived.Laws.CopyOwn
import Derived.Laws.ResultCell
import Derived.Laws.Tables
import Derived.Lib.SlBytesConst
import Derived.LoopIn
import Derived.LoopNIn
import Derived.Maps.AppendAt
import Derived.OwnWalkIn
import Derived.RangeFuncBound
import Derived.RangeFuncCalls
import Derived.RangeFuncLeaves
import Derived.RangeFuncNested
import Derived.RangeFuncRecord
import Derived.Shelf.Abstract
import Derived.Shelf.RegionOpen
import Derived.TacticsInMore
import Derived.WalkKit
import Derived.WalkLawsBesides
import Derived.WalkSpells
import Derived.Handy
import Derived.LoopTactic
import Derived.SizedLaws
/- Layer interp: what the layers below give. -/
namespace Go.Proofs.Ytmljihggooaboaa
open Go.RowKit
set_option maxRecDepth 100000
set_option linter.unusedVariables false
set_option linter.unusedSimpArgs false

/-- Is it a number of 64 bits? -/
def U64 (x : Int) : Prop := 0 ≤ x ∧ x < 18446744073709551616
theorem U64.wrap (x : Int) : U64 (IntKind.u64.wrap x) := by
  simp only [IntKind.wrap, IntKind.bits, IntKind.signed]
  unfold U64
  simp
  omega
end Go.Proofs.Ytmljihggooaboaa
/- Layer interp: what the layers below give. -/
namespace Go.Proofs.Ytmljihggooaboaa
open Go.RowKit
set_option maxRecDepth 100000
set_option linter.unusedVariables false
set_option linter.unusedSimpArgs false

theorem wrap_mod (x : Int) : IntKind.u64.wrap x = x % 18446744073709551616 := by
  simp only [IntKind.wrap, IntKind.bits, IntKind.signed]
  simp
/-- Moved up, moved down. -/
def sl64 (x y : Int) : Int := IntKind.u64.wrap (x * 2 ^ min y.toNat 64)
def sr64 (x y : Int) : Int := x / 2 ^ min y.toNat 64
theorem sl64_big {x y : Int} (h : 64 ≤ y) : sl64 x y = 0 := by
  unfold sl64
  rw [show min y.toNat 64 = 64 from Nat.min_eq_right (by omega), wrap_mod]
  omega
theorem sr64_big {x y : Int} (hx : U64 x) (h : 64 ≤ y) : sr64 x y = 0 := by
  have h1 := hx.1
  have h2 := hx.2
  unfold sr64
  rw [show min y.toNat 64 = 64 from Nat.min_eq_right (by omega)]
  omega
/-- What an instruction from ADD to EQ makes of two words. -/
def rk (op x y : Int) : Option Int :=
  if op = 5 then some (IntKind.u64.wrap (x + y)) else if op = 6 then some (IntKind.u64.wrap (x - y)) else if op = 7 then some (IntKind.u64.wrap (x * y))
  else if op = 8 then (if y = 0 then none else some (x / y)) else if op = 9 then (if y = 0 then none else some (x % y))
  else if op = 10 then some (bits .and .u64 x y) else if op = 11 then some (bits .or .u64 x y) else if op = 12 then some (bits .xor .u64 x y)
  else if op = 13 then some (sl64 x y) else if op = 14 then some (sr64 x y)
  else if op = 15 then some (if x < y then 1 else 0) else some (if x = y then 1 else 0)
theorem ops12 {op : Int} (h : 5 ≤ op ∧ op ≤ 16) : op = 5 ∨ op = 6 ∨ op = 7 ∨ op = 8 ∨ op = 9 ∨ op = 10 ∨ op = 11 ∨ op = 12 ∨ op = 13 ∨ op = 14 ∨ op = 15 ∨ op = 16 := by omega
end Go.Proofs.Ytmljihggooaboaa
/- Layer interp: programs as trees, and which may be (pure). -/
namespace Go.Proofs.Ytmljihggooaboaa
open Go.RowKit
set_option maxRecDepth 100000
set_option linter.unusedVariables false
set_option linter.unusedSimpArgs false

/-- An expression, and what stands below it. -/
structure ExN (α : Type) where
  k : Int
  n : Int
  v : Int
  o : Int
  l : List α
/-- An expression down to a depth. -/
def ExT : Nat → Type
  | 0 => Unit
  | d + 1 => ExN (ExT d)
structure StN (α : Type) where
  k : Int
  v : Int
  f : Int
  t : Int
  a : List (ExT 8)
  th : List α
  el : List α
def StT : Nat → Type
  | 0 => Unit
  | d + 1 => StN (StT d)
structure FuT where
  p : Int
  v : Int
  b : List (StT 8)
structure PgT where
  fs : List FuT
  da : Int
/-- What is left behind all parts of a list, each of which needs some. -/
def fld {α : Type} (f : α → Nat → Option Nat) : List α → Nat → Option Nat
  | [], n => some n
  | a :: r, n => (f a n).bind (fld f r)
def mayE {α : Type} (vs : Int) (t : ExN α) : Bool :=
  if t.k = 1 then decide ((t.l.length : Int) = 0 ∧ t.v = 0 ∧ t.o = 0)
  else if t.k = 2 then decide ((0 ≤ t.v ∧ t.v < vs) ∧ (t.l.length : Int) = 0 ∧ t.n = 0 ∧ t.o = 0)
  else if t.k = 3 then decide (5 ≤ t.o ∧ t.o ≤ 16 ∧ (t.l.length : Int) = 2 ∧ t.n = 0 ∧ t.v = 0)
  else if t.k = 4 then decide ((t.l.length : Int) = 1 ∧ t.n = 0 ∧ t.v = 0 ∧ t.o = 0)
  else false
def exN (vs : Int) : (d : Nat) → ExT d → Nat → Option Nat
  | 0, _, _ => none
  | d + 1, t, n => if n = 0 ∨ mayE vs (α := ExT d) t = false then none else fld (exN vs d) (ExN.l (α := ExT d) t) (n - 1)
/-- ps: how many arguments the functions ahead take. -/
def tkB (ps : List Int) (f a : Int) : Bool := decide (0 ≤ f ∧ f < ps.length ∧ a = ps.getD f.toNat 0)
def mayS {α : Type} (ps : List Int) (vs : Int) (s : StN α) : Bool :=
  if s.k = 1 ∨ s.k = 9 then decide ((0 ≤ s.v ∧ s.v < vs) ∧ (s.a.length : Int) = 1 ∧ s.f = 0 ∧ s.t = 0 ∧ (s.th.length : Int) = 0 ∧ (s.el.length : Int) = 0)
  else if s.k = 2 then decide ((s.a.length : Int) = 2 ∧ s.v = 0 ∧ s.f = 0 ∧ s.t = 0 ∧ (s.th.length : Int) = 0 ∧ (s.el.length : Int) = 0)
  else if s.k = 3 then decide ((s.a.length : Int) = 1 ∧ s.v = 0 ∧ s.f = 0 ∧ s.t = 0)
  else if s.k = 4 then decide ((s.a.length : Int) = 1 ∧ s.v = 0 ∧ s.f = 0 ∧ s.t = 0 ∧ (s.el.length : Int) = 0)
  else if s.k = 5 then decide ((s.a.length : Int) = 1 ∧ s.v = 0 ∧ s.f = 0 ∧ s.t = 0 ∧ (s.th.length : Int) = 0 ∧ (s.el.length : Int) = 0)
  else if s.k = 6 then decide ((0 ≤ s.v ∧ s.v < vs) ∧ tkB ps s.f s.a.length = true ∧ s.t = 0 ∧ (s.th.length : Int) = 0 ∧ (s.el.length : Int) = 0)
  else if s.k = 7 then decide (0 ≤ s.t ∧ s.t ≤ 256 ∧ (s.a.length : Int) = 3 ∧ s.v = 0 ∧ s.f = 0 ∧ (s.th.length : Int) = 0 ∧ (s.el.length : Int) = 0)
  else if s.k = 8 then decide ((0 ≤ s.v ∧ s.v < vs) ∧ (s.a.length : Int) = 2 ∧ s.f = 0 ∧ s.t = 0 ∧ (s.th.length : Int) = 0 ∧ (s.el.length : Int) = 0)
  else false
def stN (ps : List Int) (vs : Int) : (d : Nat) → StT d → Nat → Option Nat
  | 0, _, _ => none
  | d + 1, s, n => if n = 0 ∨ mayS ps vs (α := StT d) s = false then none else
      (fld (exN vs 8) (StN.a (α := StT d) s) (n - 1)).bind fun n1 => (fld (stN ps vs d) (StN.th (α := StT d) s) n1).bind (fld (stN ps vs d) (StN.el (α := StT d) s))
/-- ps: of the functions ahead. -/
def fnN : List FuT → List Int → Nat → Option Nat
  | [], _, n => some n
  | f :: r, ps, n => if 0 ≤ f.v ∧ f.v ≤ 64 ∧ 0 ≤ f.p ∧ f.p ≤ f.v then (fld (stN ps f.v 8) f.b n).bind (fnN r (ps ++ [f.p])) else none
def begB (p : PgT) : Bool := decide (0 < p.fs.length ∧ p.fs.length ≤ 32 ∧ (p.fs.getLast?.map FuT.p) = some 0 ∧ 0 ≤ p.da ∧ p.da ≤ 1024)
/-- How many nodes are left behind a program that may be. -/
def pgN (p : PgT) : Option Nat := if begB p = true then fnN p.fs [] 4096 else none
theorem fld_le {α : Type} {f : α → Nat → Option Nat} (hf : ∀ a n m, f a n = some m → m ≤ n) : ∀ (l : List α) (n m : Nat), fld f l n = some m → m ≤ n
  | [], n, m, h => by cases h; omega
  | a :: r, n, m, h => by
    unfold fld at h
    cases h1 : f a n with
    | none => rw [h1] at h; cases h
    | some k => rw [h1] at h; exact Nat.le_trans (fld_le hf r k m h) (hf a n k h1)
theorem exN_le {vs : Int} : ∀ (d : Nat) (t : ExT d) (n m : Nat), exN vs d t n = some m → m ≤ n
  | 0, _, _, _, h => by cases h
  | d + 1, t, n, m, h => by
    unfold exN at h
    split at h
    · cases h
    · exact Nat.le_trans (fld_le (exN_le d) _ _ _ h) (by omega)
theorem stN_le {ps : List Int} {vs : Int} : ∀ (d : Nat) (t : StT d) (n m : Nat), stN ps vs d t n = some m → m ≤ n
  | 0, _, _, _, h => by cases h
  | d + 1, t, n, m, h => by
    unfold stN at h
    split at h
    · cases h
    · cases h1 : fld (exN vs 8) (StN.a (α := StT d) t) (n - 1) with
      | none => rw [h1] at h; cases h
      | some k =>
        rw [h1] at h
        replace h : (fld (stN ps vs d) (StN.th (α := StT d) t) k).bind (fld (stN ps vs d) (StN.el (α := StT d) t)) = some m := h
        cases h2 : fld (stN ps vs d) (StN.th (α := StT d) t) k with
        | none => rw [h2] at h; cases h
        | some k2 =>
          rw [h2] at h
          have a1 := fld_le (exN_le 8) _ _ _ h1
          have a2 := fld_le (stN_le d) _ _ _ h2
          have a3 := fld_le (stN_le d) _ _ _ h
          omega
end Go.Proofs.Ytmljihggooaboaa
/- Layer interp: what the layers below give. -/
namespace Go.Proofs.Ytmljihggooaboaa
open Go.RowKit
set_option maxRecDepth 100000
set_option linter.unusedVariables false
set_option linter.unusedSimpArgs false

/-- Block g holds the cells C, and may be written. -/
def Arr (w : World) (g : Nat) (ty : TypeId) (C : Array Value) : Prop := w.heap[g]? = some (.cells C ty (0, 0))
theorem Arr.cell {w : World} {g ty : Nat} {C : Array Value} (h : Arr w g ty C) (j : Nat) : w.cell? ⟨g, j, none⟩ = C[j]? := by
  unfold Arr at h; simp [World.cell?, h]
theorem Arr.frozen {w : World} {g ty : Nat} {C : Array Value} (h : Arr w g ty C) (j : Nat) : w.frozen? ⟨g, j, none⟩ = false := by
  unfold Arr at h; simp [World.frozen?, h]
theorem Arr.lt {w : World} {g ty : Nat} {C : Array Value} (h : Arr w g ty C) : g < w.heap.size := by
  unfold Arr at h; exact (Array.getElem?_eq_some_iff.1 h).1
theorem Arr.set {w : World} {g ty : Nat} {C : Array Value} (h : Arr w g ty C) (j : Nat) (v : Value) : Arr (w.setCell ⟨g, j, none⟩ v) g ty (C.setIfInBounds j v) := by
  unfold Arr at h ⊢; simp [World.setCell, Array.getElem?_modify, h]
theorem Arr.setOther {w : World} {g ty : Nat} {C : Array Value} (h : Arr w g ty C) {a : Addr} (v : Value) (ha : g ≠ a.block) : Arr (w.setCell a v) g ty C := by
  unfold Arr at h ⊢; rw [Below.heap_setCell _ _ _ _ ha]; exact h
theorem Arr.drew {w : World} {g ty : Nat} {C : Array Value} (h : Arr w g ty C) : Arr w.drew g ty C := h
theorem Arr.drewN {w : World} {g ty : Nat} {C : Array Value} (h : Arr w g ty C) (n : Nat) : Arr (w.drewN n) g ty C := h
theorem Arr.alloc {w : World} {g ty : Nat} {C : Array Value} (h : Arr w g ty C) (o : Obj) : Arr (w.alloc o) g ty C := by
  have := h.lt; unfold Arr at h ⊢; rw [Below.heap_alloc _ _ _ this]; exact h
theorem Arr.new (w : World) (ty : Nat) (C : Array Value) : Arr (w.alloc (.cells C ty)) w.heap.size ty C := by
  show (w.heap.push _)[w.heap.size]? = _; rw [Array.getElem?_push_size]
theorem Arr.below {w w' : World} {g ty B : Nat} {C : Array Value} (h : Arr w g ty C) (hb : Below B w w') (hg : g < B) : Arr w' g ty C := by
  unfold Arr at h ⊢; rw [hb.block g hg]; exact h
theorem Arr.setRow {w : World} {g ty : Nat} {C : Array Value} (h : Arr w g ty C) (D : Array Value) : Arr (w.setRow g D) g ty D := setRow_heap w g C D ty (0, 0) h
theorem Arr.setRowOther {w : World} {g ty k : Nat} {C : Array Value} (h : Arr w g ty C) (D : Array Value) (hk : g ≠ k) : Arr (w.setRow k D) g ty C := by
  unfold Arr at h ⊢; rw [setRow_other w k g D hk]; exact h
theorem below_setRow {B : Nat} {a w : World} (h : Below B a w) {g : Nat} (hg : B ≤ g) (D : Array Value) : Below B a (w.setRow g D) :=
  h.trans ⟨rfl, rfl, rfl, by simp, fun k hk => setRow_other w g k D (by omega)⟩
theorem wpList_store_arr {P : Program} {ops : Array Oper} {rest : List Oper} {o : Oper} {a : Act} {w : World} {Q : Exit → Act → World → Prop} (hgd : o.guard = none) (ty : TypeId) (x y : Operand) (ho : o.op = .store ty x y)
    (g : Nat) (cells : Array Value) (hx : a.eval x = .pointer (some ⟨g, 0, none⟩)) (hy : a.eval y = .agg cells)
    (t : TypeId) (old : Array Value) (hg : Arr w g t old) (hi : (P.info? ty).map (·.size) = some cells.size)
    (hold : old.size = cells.size) (h1 : cells.all (·.oneCell') = true)
    (h : wpList P ops Q rest (a.put o.dst undef) (w.setRow g cells)) : wpList P ops Q (o :: rest) a w :=
  wpList_plain hgd fun _ hK => wp_store_row ty x y ho g cells hx hy t old hg hi hold h1 (hK _ _ h)
theorem wpList_store_new {P : Program} {ops : Array Oper} {rest : List Oper} {o : Oper} {a : Act} {Q : Exit → Act → World → Prop} (w1 : World) (z : Array Value) (t : TypeId) (hgd : o.guard = none) (ty : TypeId) (x y : Operand) (ho : o.op = .store ty x y)
    (cells : Array Value) (hx : a.eval x = .pointer (some ⟨w1.heap.size, 0, none⟩)) (hy : a.eval y = .agg cells)
    (hi : (P.info? ty).map (·.size) = some cells.size)
    (hold : z.size = cells.size) (h1 : cells.all (·.oneCell') = true)
    (h : wpList P ops Q rest (a.put o.dst undef) (w1.alloc (.cells cells t))) : wpList P ops Q (o :: rest) a (w1.alloc (.cells z t)) :=
  wpList_store_arr hgd ty x y ho w1.heap.size cells hx hy t z (Arr.new w1 t z) hi hold h1 (by rw [World.setRow_alloc_new]; exact h)
theorem one_ints {C : Array Value} {n : Nat} {k : IntKind} {f : Nat → Int} (hs : C.size = n) (h : ∀ t, t < n → C[t]? = some (.int k (f t))) : C.all (·.oneCell') = true := by
  refine Array.all_eq_true_iff_forall_mem.2 fun v hv => ?_
  obtain ⟨j, hj, rfl⟩ := Array.mem_iff_getElem.1 hv
  have := h j (by omega)
  rw [Array.getElem?_eq_getElem hj] at this
  rw [Option.some.inj this]; rfl
theorem size46 : (Try.prog.info? 98).map (·.size) = some 64 := by kernel_rfl
theorem size48 : (Try.prog.info? 84).map (·.size) = some 8 := by kernel_rfl
theorem size24 : (Try.prog.info? 55).map (·.size) = some 32 := by kernel_rfl
end Go.Proofs.Ytmljihggooaboaa
/- Layer interp: tools. -/
namespace Go.Proofs.Ytmljihggooaboaa
open Go.RowKit
set_option maxRecDepth 100000
set_option linter.unusedVariables false
set_option linter.unusedSimpArgs false

theorem hid {p : Prop} (h : p) : Hid p := h
theorem rb {w w' : World} {B b o : Nat} {cs : List Value} (h : w.rangeAt b o cs) (hb : Below B w w') (hlt : b < B) : w'.rangeAt b o cs := fun j v hv => (hb.cell (p := ⟨b, o + j, none⟩) hlt).trans (h j v hv)
theorem ab (w : World) (o : Obj) : Below w.heap.size w (w.alloc o) := (Below.refl _ _).alloc (Nat.le_refl _) o
theorem dwN {B : Nat} {a w : World} (h : Below B a w) (n : Nat) : Below B a (w.drewN n) := ⟨h.os, h.tape, h.output, h.size, h.block⟩
theorem dw1 {B : Nat} {a w : World} (h : Below B a w) : Below B a w.drew := ⟨h.os, h.tape, h.output, h.size, h.block⟩
theorem aL {P : Program} {ops : Array Oper} {rest : List Oper} {a : Act} {w : World} {Q : Exit → Act → World → Prop} (t : TypeId) (x : Operand) {d} {ty} {pos} {af} {g} (h : wpList P ops Q (⟨d, .load t x, ty, pos, af, g⟩ :: rest) a w) : wpList P ops Q (⟨d, .load t x, ty, pos, af, g⟩ :: rest) a w := h
theorem aS {P : Program} {ops : Array Oper} {rest : List Oper} {a : Act} {w : World} {Q : Exit → Act → World → Prop} (t : TypeId) (x y : Operand) {d} {ty} {pos} {af} {g} (h : wpList P ops Q (⟨d, .store t x y, ty, pos, af, g⟩ :: rest) a w) : wpList P ops Q (⟨d, .store t x y, ty, pos, af, g⟩ :: rest) a w := h
theorem wW {P : Program} {ops : Array Oper} {rest : List Oper} {o : Oper} {a : Act} {w : World} {Q : Exit → Act → World → Prop} (hw : Region.wanted o (yielded ops a.tmps) = true)
    (h : ∀ K : Act → World → Prop, (∀ a w, wpList P ops Q rest a w → K a w) → o.wp P a w K Q) : wpList P ops Q (o :: rest) a w :=
  wpList_step fun K hK => by rw [if_pos hw]; exact h K hK
theorem lR {ops : Array Oper} {rest : List Oper} {o : Oper} {a : Act} {w : World} {Q : Exit → Act → World → Prop} (hgd : Region.wanted o (yielded ops a.tmps) = true) (ty : TypeId) (x : Operand) (ho : o.op = .load ty x)
    (g : Nat) (hx : a.eval x = .pointer (some ⟨g, 0, none⟩)) (C : Array Value) {ty' : TypeId} (hA : Arr w g ty' C) {d : TypeDesc} (hu : Try.prog.underlying ty = some d) (hd : d.isRow = true) (hs : (Try.prog.info? ty).map (·.size) = some C.size)
    (h : wpList Try.prog ops Q rest (a.put o.dst (.agg C)) w) : wpList Try.prog ops Q (o :: rest) a w :=
  wW hgd fun _ hK => wp_load_mid ty x ho g 0 hx C.toList _ (fun j v hv => by rw [Nat.zero_add, hA.cell]; simpa using hv) hu hd (by rw [Array.length_toList]; exact hs) (hK _ _ (by simpa using h))
theorem lM {ops : Array Oper} {rest : List Oper} {o : Oper} {a : Act} {w : World} {Q : Exit → Act → World → Prop} (hgd : Region.wanted o (yielded ops a.tmps) = true) (ty : TypeId) (x : Operand) (ho : o.op = .load ty x)
    (g off : Nat) (hx : a.eval x = .pointer (some ⟨g, off, none⟩)) (C : List Value) (hA : w.rangeAt g off C) {d : TypeDesc} (hu : Try.prog.underlying ty = some d) (hd : d.isRow = true) (hs : (Try.prog.info? ty).map (·.size) = some C.length)
    (h : wpList Try.prog ops Q rest (a.put o.dst (.agg C.toArray)) w) : wpList Try.prog ops Q (o :: rest) a w :=
  wW hgd fun _ hK => wp_load_mid ty x ho g off hx C _ hA hu hd hs (hK _ _ h)
theorem s76 : (Try.prog.info? 76).map (·.size) = some 5 := by kernel_rfl
theorem s78 : (Try.prog.info? 78).map (·.size) = some 7 := by kernel_rfl
theorem s52 : (Try.prog.info? 52).map (·.size) = some 3 := by kernel_rfl
theorem s102 : (Try.prog.info? 102).map (·.size) = some 2 := by kernel_rfl
theorem s24I : (Try.prog.info? 24).map (·.size) = some 2 := by kernel_rfl
/-- The same but for the blocks of S. -/
structure Ch (S : Nat → Prop) (w w' : World) : Prop where
  os : w'.os = w.os
  tape : w'.tape = w.tape
  output : w'.output = w.output
  size : w.heap.size ≤ w'.heap.size
  block : ∀ b, b < w.heap.size → ¬ S b → w'.heap[b]? = w.heap[b]?
theorem Ch.refl (S : Nat → Prop) (w : World) : Ch S w w := ⟨rfl, rfl, rfl, Nat.le_refl _, fun _ _ _ => rfl⟩
theorem Ch.trans {S : Nat → Prop} {a b c : World} (h : Ch S a b) (k : Ch S b c) : Ch S a c :=
  ⟨k.os.trans h.os, k.tape.trans h.tape, k.output.trans h.output, Nat.le_trans h.size k.size, fun i hi hs => (k.block i (Nat.lt_of_lt_of_le hi h.size) hs).trans (h.block i hi hs)⟩
theorem Ch.mono {S T : Nat → Prop} {a b : World} (h : Ch S a b) (hST : ∀ i, i < a.heap.size → S i → T i) : Ch T a b :=
  ⟨h.os, h.tape, h.output, h.size, fun i hi ht => h.block i hi fun hs => ht (hST i hi hs)⟩
theorem Ch.ob {S : Nat → Prop} {a b : World} (h : Below a.heap.size a b) : Ch S a b := ⟨h.os, h.tape, h.output, h.size, fun i hi _ => h.block i hi⟩
theorem Ch.bl {S : Nat → Prop} {a b : World} {N : Nat} (h : Ch S a b) (hN : ∀ i, i < N → i < a.heap.size ∧ ¬ S i) : Below N a b := ⟨h.os, h.tape, h.output, h.size, fun i hi => h.block i (hN i hi).1 (hN i hi).2⟩
theorem Ch.al {S : Nat → Prop} {a b : World} (h : Ch S a b) (o : Obj) : Ch S a (b.alloc o) := h.trans (Ch.ob (ab b o))
theorem Ch.dw {S : Nat → Prop} {a b : World} (h : Ch S a b) : Ch S a b.drew := ⟨h.os, h.tape, h.output, h.size, h.block⟩
theorem Ch.dwN {S : Nat → Prop} {a b : World} (h : Ch S a b) (n : Nat) : Ch S a (b.drewN n) := ⟨h.os, h.tape, h.output, h.size, h.block⟩
theorem Ch.st {S : Nat → Prop} {a b : World} (h : Ch S a b) {g j : Nat} (v : Value) (hg : g < a.heap.size → S g) : Ch S a (b.setCell ⟨g, j, none⟩ v) :=
  ⟨h.os, h.tape, h.output, by simpa using h.size, fun i hi hn => (Below.heap_setCell _ _ _ _ (fun e => hn (by have e' : i = g := e; rw [e'] at hi ⊢; exact hg hi))).trans (h.block i hi hn)⟩
theorem Ch.arr {S : Nat → Prop} {a b : World} (h : Ch S a b) {g ty : Nat} {C : Array Value} (hA : Arr a g ty C) (hS : ¬ S g) : Arr b g ty C := (h.block g hA.lt hS).trans hA
theorem Arr.bl {w w' : World} {g ty : Nat} {C : Array Value} (h : Arr w g ty C) (hb : Below w.heap.size w w') : Arr w' g ty C := h.below hb h.lt
end Go.Proofs.Ytmljihggooaboaa
/- Layer interp: programs in memory. -/
namespace Go.Proofs.Ytmljihggooaboaa
open Go.RowKit
set_option maxRecDepth 100000
set_option linter.unusedVariables false
set_option linter.unusedSimpArgs false

/-- Things of sz cells one behind the other, in blocks below N. -/
structure RS {α : Type} (N : Nat) (w : World) (sz : Nat) (R : List Value → α → Prop) (sp : Option Addr) (n cap : Nat) (l : List α) : Prop where
  len : Hid (n = l.length)
  nil : sp = none → n = 0 ∧ cap = 0
  le : n ≤ cap
  big : cap ≤ 9223372036854775807
  small : n ≤ 140737488355328
  at0 : 0 < n → ∃ g off, sp = some ⟨g, off, none⟩ ∧ g < N ∧ ∀ i a, l[i]? = some a → ∃ cs, w.rangeAt g (off + i * sz) cs ∧ R cs a
theorem RS.imp {α : Type} {N : Nat} {w w' : World} {sz : Nat} {R R' : List Value → α → Prop} {sp : Option Addr} {n cap : Nat} {l : List α} (h : RS N w sz R sp n cap l) (hb : Below N w w') (hR : ∀ cs a, R cs a → R' cs a) : RS N w' sz R' sp n cap l :=
  ⟨h.len, h.nil, h.le, h.big, h.small, fun h0 => let ⟨b, off, e, hbN, hB⟩ := h.at0 h0; ⟨b, off, e, hbN, fun i a hX => let ⟨cs, h1, h2⟩ := hB i a hX; ⟨cs, rb h1 hb hbN, hR cs a h2⟩⟩⟩
theorem RS.nil0 {α : Type} (N : Nat) (w : World) (sz : Nat) (R : List Value → α → Prop) : RS N w sz R none 0 0 [] := ⟨rfl, fun _ => ⟨rfl, rfl⟩, Nat.le_refl _, by omega, by omega, fun h => absurd h (by omega)⟩
def I64 (x : Int) : Prop := -9223372036854775808 ≤ x ∧ x ≤ 9223372036854775807
def U8 (x : Int) : Prop := 0 ≤ x ∧ x < 256
def exC (k n v o : Int) (s : Value) : List Value := [.int .u8 k, .int .u64 n, .int .i64 v, .int .u8 o, s]
def stC (k v f t : Int) (a b c : Value) : List Value := [.int .u8 k, .int .i64 v, .int .i64 f, .int .i64 t, a, b, c]
def fuC (p v : Int) (b : Value) : List Value := [.int .i64 p, .int .i64 v, b]
def ExT.nd {d : Nat} (t : ExT (d + 1)) : ExN (ExT d) := t
def StT.nd {d : Nat} (t : StT (d + 1)) : StN (StT d) := t
structure ExN.ok {α : Type} (t : ExN α) : Prop where
  k : U8 t.k
  n : U64 t.n
  v : I64 t.v
  o : U8 t.o
structure StN.ok {α : Type} (t : StN α) : Prop where
  k : U8 t.k
  v : I64 t.v
  f : I64 t.f
  t : I64 t.t
/-- An expression in memory, down to a depth. -/
def ExM (N : Nat) (w : World) : (d : Nat) → List Value → ExT d → Prop
  | 0, cs, _ => ∃ k n v o sp m cap, cs = exC k n v o (.slice sp m cap)
  | d + 1, cs, t => ∃ sp m cap, cs = exC t.nd.k t.nd.n t.nd.v t.nd.o (.slice sp m cap) ∧ t.nd.ok ∧ RS N w 5 (ExM N w d) sp m cap t.nd.l
theorem ExM.below {N : Nat} {w w' : World} (hb : Below N w w') : ∀ (d : Nat) (cs : List Value) (t : ExT d), ExM N w d cs t → ExM N w' d cs t
  | 0, _, _, h => h
  | d + 1, _, _, h => let ⟨sp, m, cap, h1, h2, h3⟩ := h; ⟨sp, m, cap, h1, h2, h3.imp hb (ExM.below hb d)⟩
def StM (N : Nat) (w : World) : (d : Nat) → List Value → StT d → Prop
  | 0, cs, _ => ∃ k v f t sa na ca sb nb cb sc nc cc, cs = stC k v f t (.slice sa na ca) (.slice sb nb cb) (.slice sc nc cc)
  | d + 1, cs, t => ∃ sa na ca sb nb cb sc nc cc, cs = stC t.nd.k t.nd.v t.nd.f t.nd.t (.slice sa na ca) (.slice sb nb cb) (.slice sc nc cc) ∧ t.nd.ok ∧ RS N w 5 (ExM N w 8) sa na ca t.nd.a ∧ RS N w 7 (StM N w d) sb nb cb t.nd.th ∧ RS N w 7 (StM N w d) sc nc cc t.nd.el
theorem StM.below {N : Nat} {w w' : World} (hb : Below N w w') : ∀ (d : Nat) (cs : List Value) (t : StT d), StM N w d cs t → StM N w' d cs t
  | 0, _, _, h => h
  | d + 1, _, _, h => let ⟨sa, na, ca, sb, nb, cb, sc, nc, cc, h1, h2, h3, h4, h5⟩ := h; ⟨sa, na, ca, sb, nb, cb, sc, nc, cc, h1, h2, h3.imp hb (ExM.below hb 8), h4.imp hb (StM.below hb d), h5.imp hb (StM.below hb d)⟩
def FuM (N : Nat) (w : World) (cs : List Value) (f : FuT) : Prop := ∃ sp m cap, cs = fuC f.p f.v (.slice sp m cap) ∧ (I64 f.p ∧ I64 f.v) ∧ RS N w 7 (StM N w 8) sp m cap f.b
theorem FuM.below {N : Nat} {w w' : World} (hb : Below N w w') (cs : List Value) (f : FuT) (h : FuM N w cs f) : FuM N w' cs f :=
  let ⟨sp, m, cap, h1, h2, h3⟩ := h; ⟨sp, m, cap, h1, h2, h3.imp hb (StM.below hb 8)⟩
def PgM (N : Nat) (w : World) (cs : List Value) (p : PgT) : Prop := ∃ sp m cap, cs = [.slice sp m cap, .int .i64 p.da] ∧ I64 p.da ∧ RS N w 3 (FuM N w) sp m cap p.fs
theorem PgM.below {N : Nat} {w w' : World} (hb : Below N w w') (cs : List Value) (p : PgT) (h : PgM N w cs p) : PgM N w' cs p :=
  let ⟨sp, m, cap, h1, h2, h3⟩ := h; ⟨sp, m, cap, h1, h2, h3.imp hb (FuM.below hb)⟩
/-- How many nodes are left, and may it be? -/
def CtP (r : Option Nat) (w : World) (e : Ending) (w' : World) : Prop := e = .returned (.tuple #[.int .i64 (r.getD 0 : Nat), .bool r.isSome]) ∧ Below w.heap.size w w'
end Go.Proofs.Ytmljihggooaboaa
/- Layer interp: may an expression be, but for its parts? -/
namespace Go.Proofs.Ytmljihggooaboaa
open Go.RowKit
set_option maxRecDepth 100000
set_option linter.unusedVariables false
set_option linter.unusedSimpArgs false

def BoP (b : Bool) (w : World) (e : Ending) (w' : World) : Prop := e = .returned (.bool b) ∧ Below w.heap.size w w'
theorem has_any (sp : Option Addr) (n cap : Nat) (v vs : Int) (w : World) :
    Calls Try.prog 71 #[.agg #[.slice sp n cap, .int .i64 vs], .int .i64 v] w (BoP (decide (0 ≤ v ∧ v < vs)) w) := by
  have b0 := ab w (.cells #[.slice sp n cap, .int .i64 vs] 102)
  by_cases h1 : 0 ≤ v
  · by_cases h2 : v < vs
    · rw [decide_eq_true ⟨h1, h2⟩]
      go_enter Try.func71, Try.ntmps71
      go_wp2_with fail
      go_ret
      exact ⟨rfl, b0⟩
    · rw [decide_eq_false (fun h => h2 h.2)]
      go_enter Try.func71, Try.ntmps71
      go_wp2_with fail
      go_ret
      exact ⟨rfl, b0⟩
  · rw [decide_eq_false (fun h => h1 h.1)]
    go_enter Try.func71, Try.ntmps71
    go_wp2_with fail
    go_ret
    exact ⟨rfl, b0⟩
set_option maxHeartbeats 1000000 in
theorem mayE_1 {α : Type} (sp : Option Addr) (n cap : Nat) (vs nn v o : Int) (l : List α) (sl : Option Addr) (m cl : Nat) (w : World) (hm : m = l.length) :
    Calls Try.prog 82 #[.agg #[.slice sp n cap, .int .i64 vs], .agg (exC 1 nn v o (.slice sl m cl)).toArray] w (BoP (mayE vs ⟨1, nn, v, o, l⟩) w) := by
  have b0 : Below w.heap.size w ((w.alloc (.cells #[.slice sp n cap, .int .i64 vs] 102)).alloc (.cells (exC 1 nn v o (.slice sl m cl)).toArray 76)) := (ab w _).alloc (by simp) _
  have hh := fun u => has_any sp n cap v vs u
  unfold BoP at hh
  have A := Arr.new (w.alloc (.cells #[.slice sp n cap, .int .i64 vs] 102)) 76 (exC 1 nn v o (.slice sl m cl)).toArray
  simp only [World.size_alloc] at A
  obtain ⟨r, hr⟩ : ∃ r, r = mayE vs ⟨1, nn, v, o, l⟩ := ⟨_, rfl⟩
  rw [← hr]
  simp [mayE] at hr
  replace hr := hid hr
  replace hm := hid hm
  unfold exC at *
  skip
  skip
  skip
  all_goals go_enter Try.func82, Try.ntmps82
  all_goals go_wp2_with (fail)
  all_goals
    go_ret
    refine ⟨congrArg (fun b => Ending.returned (.bool b)) (?_ : _ = r), ?_⟩
    · have h1 := hr.out
      have h2 := hm.out
      skip
      clear b0 hh
      simp_all
      try (first | rfl | omega | (intros; omega))
    · exact (ab w _).alloc (by simp) _
set_option maxHeartbeats 1000000 in
theorem mayE_2 {α : Type} (sp : Option Addr) (n cap : Nat) (vs nn v o : Int) (l : List α) (sl : Option Addr) (m cl : Nat) (w : World) (hm : m = l.length) :
    Calls Try.prog 82 #[.agg #[.slice sp n cap, .int .i64 vs], .agg (exC 2 nn v o (.slice sl m cl)).toArray] w (BoP (mayE vs ⟨2, nn, v, o, l⟩) w) := by
  have b0 : Below w.heap.size w ((w.alloc (.cells #[.slice sp n cap, .int .i64 vs] 102)).alloc (.cells (exC 2 nn v o (.slice sl m cl)).toArray 76)) := (ab w _).alloc (by simp) _
  have hh := fun u => has_any sp n cap v vs u
  unfold BoP at hh
  have A := Arr.new (w.alloc (.cells #[.slice sp n cap, .int .i64 vs] 102)) 76 (exC 2 nn v o (.slice sl m cl)).toArray
  simp only [World.size_alloc] at A
  obtain ⟨r, hr⟩ : ∃ r, r = mayE vs ⟨2, nn, v, o, l⟩ := ⟨_, rfl⟩
  rw [← hr]
  simp [mayE] at hr
  replace hr := hid hr
  replace hm := hid hm
  unfold exC at *
  by_cases hv : 0 ≤ v ∧ v < vs
  rw [decide_eq_true hv] at hh; rotate_left; rw [decide_eq_false hv] at hh
  all_goals replace hv := hid hv
  all_goals go_enter Try.func82, Try.ntmps82
  all_goals go_wp2_with (go_at_call 71; go_must (refine (hh _).mono ?_; rintro e w1 ⟨rfl, hb1⟩; have B1 := ((ab w _).alloc (by simp) _).trans (hb1.mono (by simp; omega)); have c1 : w1.cell? ⟨w.heap.size + 1, 1, none⟩ = some (.int .u64 nn) := (A.bl hb1).cell 1; have c3 : w1.cell? ⟨w.heap.size + 1, 3, none⟩ = some (.int .u8 o) := (A.bl hb1).cell 3))
  all_goals
    go_ret
    refine ⟨congrArg (fun b => Ending.returned (.bool b)) (?_ : _ = r), ?_⟩
    · have h1 := hr.out
      have h2 := hm.out
      have h3 := hv.out
      clear b0 hh
      simp_all
      try (first | rfl | omega | (intros; omega))
    · exact B1
set_option maxHeartbeats 1000000 in
theorem mayE_3 {α : Type} (sp : Option Addr) (n cap : Nat) (vs nn v o : Int) (l : List α) (sl : Option Addr) (m cl : Nat) (w : World) (hm : m = l.length) :
    Calls Try.prog 82 #[.agg #[.slice sp n cap, .int .i64 vs], .agg (exC 3 nn v o (.slice sl m cl)).toArray] w (BoP (mayE vs ⟨3, nn, v, o, l⟩) w) := by
  have b0 : Below w.heap.size w ((w.alloc (.cells #[.slice sp n cap, .int .i64 vs] 102)).alloc (.cells (exC 3 nn v o (.slice sl m cl)).toArray 76)) := (ab w _).alloc (by simp) _
  have hh := fun u => has_any sp n cap v vs u
  unfold BoP at hh
  have A := Arr.new (w.alloc (.cells #[.slice sp n cap, .int .i64 vs] 102)) 76 (exC 3 nn v o (.slice sl m cl)).toArray
  simp only [World.size_alloc] at A
  obtain ⟨r, hr⟩ : ∃ r, r = mayE vs ⟨3, nn, v, o, l⟩ := ⟨_, rfl⟩
  rw [← hr]
  simp [mayE] at hr
  replace hr := hid hr
  replace hm := hid hm
  unfold exC at *
  skip
  skip
  skip
  all_goals go_enter Try.func82, Try.ntmps82
  all_goals go_wp2_with (fail)
  all_goals
    go_ret
    refine ⟨congrArg (fun b => Ending.returned (.bool b)) (?_ : _ = r), ?_⟩
    · have h1 := hr.out
      have h2 := hm.out
      skip
      clear b0 hh
      simp_all
      try (first | rfl | omega | (intros; omega))
    · exact (ab w _).alloc (by simp) _
set_option maxHeartbeats 1000000 in
theorem mayE_4 {α : Type} (sp : Option Addr) (n cap : Nat) (vs nn v o : Int) (l : List α) (sl : Option Addr) (m cl : Nat) (w : World) (hm : m = l.length) :
    Calls Try.prog 82 #[.agg #[.slice sp n cap, .int .i64 vs], .agg (exC 4 nn v o (.slice sl m cl)).toArray] w (BoP (mayE vs ⟨4, nn, v, o, l⟩) w) := by
  have b0 : Below w.heap.size w ((w.alloc (.cells #[.slice sp n cap, .int .i64 vs] 102)).alloc (.cells (exC 4 nn v o (.slice sl m cl)).toArray 76)) := (ab w _).alloc (by simp) _
  have hh := fun u => has_any sp n cap v vs u
  unfold BoP at hh
  have A := Arr.new (w.alloc (.cells #[.slice sp n cap, .int .i64 vs] 102)) 76 (exC 4 nn v o (.slice sl m cl)).toArray
  simp only [World.size_alloc] at A
  obtain ⟨r, hr⟩ : ∃ r, r = mayE vs ⟨4, nn, v, o, l⟩ := ⟨_, rfl⟩
  rw [← hr]
  simp [mayE] at hr
  replace hr := hid hr
  replace hm := hid hm
  unfold exC at *
  skip
  skip
  skip
  all_goals go_enter Try.func82, Try.ntmps82
  all_goals go_wp2_with (fail)
  all_goals
    go_ret
    refine ⟨congrArg (fun b => Ending.returned (.bool b)) (?_ : _ = r), ?_⟩
    · have h1 := hr.out
      have h2 := hm.out
      skip
      clear b0 hh
      simp_all
      try (first | rfl | omega | (intros; omega))
    · exact (ab w _).alloc (by simp) _
theorem mayE_o {α : Type} (sp : Option Addr) (n cap : Nat) (vs k nn v o : Int) (l : List α) (sl : Option Addr) (m cl : Nat) (w : World) (h1 : (k == 1) = false) (h2 : (k == 2) = false) (h3 : (k == 3) = false) (h4 : (k == 4) = false) :
    Calls Try.prog 82 #[.agg #[.slice sp n cap, .int .i64 vs], .agg (exC k nn v o (.slice sl m cl)).toArray] w (BoP false w) := by
  have b0 : Below w.heap.size w ((w.alloc (.cells #[.slice sp n cap, .int .i64 vs] 102)).alloc (.cells (exC k nn v o (.slice sl m cl)).toArray 76)) := (ab w _).alloc (by simp) _
  unfold exC at *
  go_enter Try.func82, Try.ntmps82
  go_wp2_with fail
  go_ret
  exact ⟨rfl, b0⟩
theorem mayE_any {α : Type} (sp : Option Addr) (n cap : Nat) (vs : Int) (t : ExN α) (sl : Option Addr) (m cl : Nat) (w : World) (hm : m = t.l.length) :
    Calls Try.prog 82 #[.agg #[.slice sp n cap, .int .i64 vs], .agg (exC t.k t.n t.v t.o (.slice sl m cl)).toArray] w (BoP (mayE vs t) w) := by
  obtain ⟨k, nn, v, o, l⟩ := t
  by_cases h1 : k = 1
  · subst h1; exact mayE_1 sp n cap vs nn v o l sl m cl w hm
  by_cases h2 : k = 2
  · subst h2; exact mayE_2 sp n cap vs nn v o l sl m cl w hm
  by_cases h3 : k = 3
  · subst h3; exact mayE_3 sp n cap vs nn v o l sl m cl w hm
  by_cases h4 : k = 4
  · subst h4; exact mayE_4 sp n cap vs nn v o l sl m cl w hm
  have e : mayE vs ⟨k, nn, v, o, l⟩ = false := by simp [mayE, h1, h2, h3, h4]
  rw [e]
  exact mayE_o sp n cap vs k nn v o l sl m cl w (by simpa using h1) (by simpa using h2) (by simpa using h3) (by simpa using h4)
end Go.Proofs.Ytmljihggooaboaa
