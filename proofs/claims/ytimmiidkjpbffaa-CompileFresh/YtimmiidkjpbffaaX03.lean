/- I0, Ia, Ib. -/
import Derived.Test.YtimmiidkjpbffaaX01
import Derived.Test.YtimmiidkjpbffaaX02
import Derived.BigQuiet
import Derived.BigRegion
import Derived.ChangeKeysEq
import Derived.Deep.DeepCutAuto
import Derived.Deep.DrawnRows
import Derived.Deep.MidRow
import Derived.Deep.QuietTactic
import Derived.Deep.RegionHeld3
import Derived.Deep.RegionLaw
import Derived.Deep.RegionWith
import Derived.Deep.WholeRow
import Derived.DeepKeys3
import Derived.Great.BuildSlice
import Derived.Handy
import Derived.Laws.AppendOwnNone
import Derived.Laws.BitsLemmas
import Derived.Laws.BytesArg
import Derived.Laws.CopyOwn
import Derived.Laws.ResultCell
import Derived.Laws.Tables
import Derived.Lib.SlBytesConst
import Derived.LoopIn
import Derived.LoopNIn
import Derived.LoopTactic
import Derived.Maps.AppendAt
import Derived.OwnWalkIn
import Derived.RangeFuncBound
import Derived.RangeFuncCalls
import Derived.RangeFuncLeaves
import Derived.RangeFuncNested
import Derived.RangeFuncRecord
import Derived.Shelf.Abstract
import Derived.Shelf.RegionOpen
import Derived.SizedLaws
import Derived.TacticsInMore
import Derived.WalkKit
import Derived.WalkLawsBesides
import Derived.WalkSpells
import Derived.Test.YtimmiidkjpbffaaRows
/- Layer compile: what the layers below give. -/
namespace Go.Proofs.Ytimmiidkjpbffaa
open Go.RowKit
set_option maxRecDepth 100000
set_option linter.unusedVariables false
set_option linter.unusedSimpArgs false

theorem hid {p : Prop} (h : p) : Hid p := h
theorem rb {w w' : World} {B b o : Nat} {cs : List Value} (h : w.rangeAt b o cs) (hb : Below B w w') (hlt : b < B) : w'.rangeAt b o cs := fun j v hv => (hb.cell (p := ⟨b, o + j, none⟩) hlt).trans (h j v hv)
theorem ab (w : World) (o : Obj) : Below w.heap.size w (w.alloc o) := (Below.refl _ _).alloc (Nat.le_refl _) o
theorem dwN {B : Nat} {a w : World} (h : Below B a w) (n : Nat) : Below B a (w.drewN n) := ⟨h.os, h.tape, h.output, h.size, h.block⟩
theorem dw1 {B : Nat} {a w : World} (h : Below B a w) : Below B a w.drew := ⟨h.os, h.tape, h.output, h.size, h.block⟩
theorem aL {P : Program} {ops : Array Oper} {rest : List Oper} {a : Act} {w : World} {Q : Exit → Act → World → Prop} (t : TypeId) (x : Operand) {d} {ty} {pos} {af} {g} (h : wpList P ops Q (⟨d, .load t x, ty, pos, af, g⟩ :: rest) a w) : wpList P ops Q (⟨d, .load t x, ty, pos, af, g⟩ :: rest) a w := h
theorem aS {P : Program} {ops : Array Oper} {rest : List Oper} {a : Act} {w : World} {Q : Exit → Act → World → Prop} (t : TypeId) (x y : Operand) {d} {ty} {pos} {af} {g} (h : wpList P ops Q (⟨d, .store t x y, ty, pos, af, g⟩ :: rest) a w) : wpList P ops Q (⟨d, .store t x y, ty, pos, af, g⟩ :: rest) a w := h
theorem wW {P : Program} {ops : Array Oper} {rest : List Oper} {o : Oper} {a : Act} {w : World} {Q : Exit → Act → World → Prop} (hw : Region.wanted o (yielded ops a.tmps) = true)
    (h : ∀ K : Act → World → Prop, (∀ a w, wpList P ops Q rest a w → K a w) → o.wp P a w K Q) : wpList P ops Q (o :: rest) a w :=
  wpList_step fun K hK => by rw [if_pos hw]; exact h K hK
theorem lR {ops : Array Oper} {rest : List Oper} {o : Oper} {a : Act} {w : World} {Q : Exit → Act → World → Prop} (hgd : Region.wanted o (yielded ops a.tmps) = true) (ty : TypeId) (x : Operand) (ho : o.op = .load ty x)
    (g : Nat) (hx : a.eval x = .pointer (some ⟨g, 0, none⟩)) (C : Array Value) {ty' : TypeId} (hA : Arr w g ty' C) {d : TypeDesc} (hu : Try.prog.underlying ty = some d) (hd : d.isRow = true) (hs : (Try.prog.info? ty).map (·.size) = some C.size)
    (h : wpList Try.prog ops Q rest (a.put o.dst (.agg C)) w) : wpList Try.prog ops Q (o :: rest) a w :=
  wW hgd fun _ hK => wp_load_mid ty x ho g 0 hx C.toList _ (fun j v hv => by rw [Nat.zero_add, hA.cell]; simpa using hv) hu hd (by rw [Array.length_toList]; exact hs) (hK _ _ (by simpa using h))
theorem lM {ops : Array Oper} {rest : List Oper} {o : Oper} {a : Act} {w : World} {Q : Exit → Act → World → Prop} (hgd : Region.wanted o (yielded ops a.tmps) = true) (ty : TypeId) (x : Operand) (ho : o.op = .load ty x)
    (g off : Nat) (hx : a.eval x = .pointer (some ⟨g, off, none⟩)) (C : List Value) (hA : w.rangeAt g off C) {d : TypeDesc} (hu : Try.prog.underlying ty = some d) (hd : d.isRow = true) (hs : (Try.prog.info? ty).map (·.size) = some C.length)
    (h : wpList Try.prog ops Q rest (a.put o.dst (.agg C.toArray)) w) : wpList Try.prog ops Q (o :: rest) a w :=
  wW hgd fun _ hK => wp_load_mid ty x ho g off hx C _ hA hu hd hs (hK _ _ h)
theorem s76 : (Try.prog.info? 92).map (·.size) = some 5 := by kernel_rfl
theorem s78 : (Try.prog.info? 94).map (·.size) = some 7 := by kernel_rfl
theorem s52 : (Try.prog.info? 85).map (·.size) = some 3 := by kernel_rfl
theorem s102 : (Try.prog.info? 114).map (·.size) = some 2 := by kernel_rfl
theorem s24I : (Try.prog.info? 47).map (·.size) = some 2 := by kernel_rfl
/-- The same but for the blocks of S. -/
structure Ch (S : Nat → Prop) (w w' : World) : Prop where
  os : w'.os = w.os
  tape : w'.tape = w.tape
  output : w'.output = w.output
  size : w.heap.size ≤ w'.heap.size
  block : ∀ b, b < w.heap.size → ¬ S b → w'.heap[b]? = w.heap[b]?
theorem Ch.refl (S : Nat → Prop) (w : World) : Ch S w w := ⟨rfl, rfl, rfl, Nat.le_refl _, fun _ _ _ => rfl⟩
theorem Ch.trans {S : Nat → Prop} {a b c : World} (h : Ch S a b) (k : Ch S b c) : Ch S a c :=
  ⟨k.os.trans h.os, k.tape.trans h.tape, k.output.trans h.output, Nat.le_trans h.size k.size, fun i hi hs => (k.block i (Nat.lt_of_lt_of_le hi h.size) hs).trans (h.block i hi hs)⟩
theorem Ch.mono {S T : Nat → Prop} {a b : World} (h : Ch S a b) (hST : ∀ i, i < a.heap.size → S i → T i) : Ch T a b :=
  ⟨h.os, h.tape, h.output, h.size, fun i hi ht => h.block i hi fun hs => ht (hST i hi hs)⟩
theorem Ch.ob {S : Nat → Prop} {a b : World} (h : Below a.heap.size a b) : Ch S a b := ⟨h.os, h.tape, h.output, h.size, fun i hi _ => h.block i hi⟩
theorem Ch.bl {S : Nat → Prop} {a b : World} {N : Nat} (h : Ch S a b) (hN : ∀ i, i < N → i < a.heap.size ∧ ¬ S i) : Below N a b := ⟨h.os, h.tape, h.output, h.size, fun i hi => h.block i (hN i hi).1 (hN i hi).2⟩
theorem Ch.al {S : Nat → Prop} {a b : World} (h : Ch S a b) (o : Obj) : Ch S a (b.alloc o) := h.trans (Ch.ob (ab b o))
theorem Ch.dw {S : Nat → Prop} {a b : World} (h : Ch S a b) : Ch S a b.drew := ⟨h.os, h.tape, h.output, h.size, h.block⟩
theorem Ch.dwN {S : Nat → Prop} {a b : World} (h : Ch S a b) (n : Nat) : Ch S a (b.drewN n) := ⟨h.os, h.tape, h.output, h.size, h.block⟩
theorem Ch.st {S : Nat → Prop} {a b : World} (h : Ch S a b) {g j : Nat} (v : Value) (hg : g < a.heap.size → S g) : Ch S a (b.setCell ⟨g, j, none⟩ v) :=
  ⟨h.os, h.tape, h.output, by simpa using h.size, fun i hi hn => (Below.heap_setCell _ _ _ _ (fun e => hn (by have e' : i = g := e; rw [e'] at hi ⊢; exact hg hi))).trans (h.block i hi hn)⟩
theorem Ch.arr {S : Nat → Prop} {a b : World} (h : Ch S a b) {g ty : Nat} {C : Array Value} (hA : Arr a g ty C) (hS : ¬ S g) : Arr b g ty C := (h.block g hA.lt hS).trans hA
theorem Arr.bl {w w' : World} {g ty : Nat} {C : Array Value} (h : Arr w g ty C) (hb : Below w.heap.size w w') : Arr w' g ty C := h.below hb h.lt
end Go.Proofs.Ytimmiidkjpbffaa
/- Layer compile: what the layers below give. -/
namespace Go.Proofs.Ytimmiidkjpbffaa
open Go.RowKit
set_option maxRecDepth 100000
set_option linter.unusedVariables false
set_option linter.unusedSimpArgs false

/-- An expression, and what stands below it. -/
structure ExN (α : Type) where
  k : Int
  n : Int
  v : Int
  o : Int
  l : List α
/-- An expression down to a depth. -/
def ExT : Nat → Type
  | 0 => Unit
  | d + 1 => ExN (ExT d)
structure StN (α : Type) where
  k : Int
  v : Int
  f : Int
  t : Int
  a : List (ExT 8)
  th : List α
  el : List α
def StT : Nat → Type
  | 0 => Unit
  | d + 1 => StN (StT d)
structure FuT where
  p : Int
  v : Int
  b : List (StT 8)
structure PgT where
  fs : List FuT
  da : Int
/-- What is left behind all parts of a list, each of which needs some. -/
def fld {α : Type} (f : α → Nat → Option Nat) : List α → Nat → Option Nat
  | [], n => some n
  | a :: r, n => (f a n).bind (fld f r)
def mayE {α : Type} (vs : Int) (t : ExN α) : Bool :=
  if t.k = 1 then decide ((t.l.length : Int) = 0 ∧ t.v = 0 ∧ t.o = 0)
  else if t.k = 2 then decide ((0 ≤ t.v ∧ t.v < vs) ∧ (t.l.length : Int) = 0 ∧ t.n = 0 ∧ t.o = 0)
  else if t.k = 3 then decide (5 ≤ t.o ∧ t.o ≤ 16 ∧ (t.l.length : Int) = 2 ∧ t.n = 0 ∧ t.v = 0)
  else if t.k = 4 then decide ((t.l.length : Int) = 1 ∧ t.n = 0 ∧ t.v = 0 ∧ t.o = 0)
  else false
def exN (vs : Int) : (d : Nat) → ExT d → Nat → Option Nat
  | 0, _, _ => none
  | d + 1, t, n => if n = 0 ∨ mayE vs (α := ExT d) t = false then none else fld (exN vs d) (ExN.l (α := ExT d) t) (n - 1)
/-- ps: how many arguments the functions ahead take. -/
def tkB (ps : List Int) (f a : Int) : Bool := decide (0 ≤ f ∧ f < ps.length ∧ a = ps.getD f.toNat 0)
def mayS {α : Type} (ps : List Int) (vs : Int) (s : StN α) : Bool :=
  if s.k = 1 ∨ s.k = 9 then decide ((0 ≤ s.v ∧ s.v < vs) ∧ (s.a.length : Int) = 1 ∧ s.f = 0 ∧ s.t = 0 ∧ (s.th.length : Int) = 0 ∧ (s.el.length : Int) = 0)
  else if s.k = 2 then decide ((s.a.length : Int) = 2 ∧ s.v = 0 ∧ s.f = 0 ∧ s.t = 0 ∧ (s.th.length : Int) = 0 ∧ (s.el.length : Int) = 0)
  else if s.k = 3 then decide ((s.a.length : Int) = 1 ∧ s.v = 0 ∧ s.f = 0 ∧ s.t = 0)
  else if s.k = 4 then decide ((s.a.length : Int) = 1 ∧ s.v = 0 ∧ s.f = 0 ∧ s.t = 0 ∧ (s.el.length : Int) = 0)
  else if s.k = 5 then decide ((s.a.length : Int) = 1 ∧ s.v = 0 ∧ s.f = 0 ∧ s.t = 0 ∧ (s.th.length : Int) = 0 ∧ (s.el.length : Int) = 0)
  else if s.k = 6 then decide ((0 ≤ s.v ∧ s.v < vs) ∧ tkB ps s.f s.a.length = true ∧ s.t = 0 ∧ (s.th.length : Int) = 0 ∧ (s.el.length : Int) = 0)
  else if s.k = 7 then decide (0 ≤ s.t ∧ s.t ≤ 256 ∧ (s.a.length : Int) = 3 ∧ s.v = 0 ∧ s.f = 0 ∧ (s.th.length : Int) = 0 ∧ (s.el.length : Int) = 0)
  else if s.k = 8 then decide ((0 ≤ s.v ∧ s.v < vs) ∧ (s.a.length : Int) = 2 ∧ s.f = 0 ∧ s.t = 0 ∧ (s.th.length : Int) = 0 ∧ (s.el.length : Int) = 0)
  else false
def stN (ps : List Int) (vs : Int) : (d : Nat) → StT d → Nat → Option Nat
  | 0, _, _ => none
  | d + 1, s, n => if n = 0 ∨ mayS ps vs (α := StT d) s = false then none else
      (fld (exN vs 8) (StN.a (α := StT d) s) (n - 1)).bind fun n1 => (fld (stN ps vs d) (StN.th (α := StT d) s) n1).bind (fld (stN ps vs d) (StN.el (α := StT d) s))
/-- ps: of the functions ahead. -/
def fnN : List FuT → List Int → Nat → Option Nat
  | [], _, n => some n
  | f :: r, ps, n => if 0 ≤ f.v ∧ f.v ≤ 64 ∧ 0 ≤ f.p ∧ f.p ≤ f.v then (fld (stN ps f.v 8) f.b n).bind (fnN r (ps ++ [f.p])) else none
def begB (p : PgT) : Bool := decide (0 < p.fs.length ∧ p.fs.length ≤ 32 ∧ (p.fs.getLast?.map FuT.p) = some 0 ∧ 0 ≤ p.da ∧ p.da ≤ 1024)
/-- How many nodes are left behind a program that may be. -/
def pgN (p : PgT) : Option Nat := if begB p = true then fnN p.fs [] 4096 else none
theorem fld_le {α : Type} {f : α → Nat → Option Nat} (hf : ∀ a n m, f a n = some m → m ≤ n) : ∀ (l : List α) (n m : Nat), fld f l n = some m → m ≤ n
  | [], n, m, h => by cases h; omega
  | a :: r, n, m, h => by
    unfold fld at h
    cases h1 : f a n with
    | none => rw [h1] at h; cases h
    | some k => rw [h1] at h; exact Nat.le_trans (fld_le hf r k m h) (hf a n k h1)
theorem exN_le {vs : Int} : ∀ (d : Nat) (t : ExT d) (n m : Nat), exN vs d t n = some m → m ≤ n
  | 0, _, _, _, h => by cases h
  | d + 1, t, n, m, h => by
    unfold exN at h
    split at h
    · cases h
    · exact Nat.le_trans (fld_le (exN_le d) _ _ _ h) (by omega)
theorem stN_le {ps : List Int} {vs : Int} : ∀ (d : Nat) (t : StT d) (n m : Nat), stN ps vs d t n = some m → m ≤ n
  | 0, _, _, _, h => by cases h
  | d + 1, t, n, m, h => by
    unfold stN at h
    split at h
    · cases h
    · cases h1 : fld (exN vs 8) (StN.a (α := StT d) t) (n - 1) with
      | none => rw [h1] at h; cases h
      | some k =>
        rw [h1] at h
        replace h : (fld (stN ps vs d) (StN.th (α := StT d) t) k).bind (fld (stN ps vs d) (StN.el (α := StT d) t)) = some m := h
        cases h2 : fld (stN ps vs d) (StN.th (α := StT d) t) k with
        | none => rw [h2] at h; cases h
        | some k2 =>
          rw [h2] at h
          have a1 := fld_le (exN_le 8) _ _ _ h1
          have a2 := fld_le (stN_le d) _ _ _ h2
          have a3 := fld_le (stN_le d) _ _ _ h
          omega
end Go.Proofs.Ytimmiidkjpbffaa
/- Layer compile: what the layers below give. -/
namespace Go.Proofs.Ytimmiidkjpbffaa
open Go.RowKit
set_option maxRecDepth 100000
set_option linter.unusedVariables false
set_option linter.unusedSimpArgs false

/-- Things of sz cells one behind the other, in blocks below N. -/
structure RS {α : Type} (N : Nat) (w : World) (sz : Nat) (R : List Value → α → Prop) (sp : Option Addr) (n cap : Nat) (l : List α) : Prop where
  len : Hid (n = l.length)
  nil : sp = none → n = 0 ∧ cap = 0
  le : n ≤ cap
  big : cap ≤ 9223372036854775807
  small : n ≤ 140737488355328
  at0 : 0 < n → ∃ g off, sp = some ⟨g, off, none⟩ ∧ g < N ∧ ∀ i a, l[i]? = some a → ∃ cs, w.rangeAt g (off + i * sz) cs ∧ R cs a
theorem RS.imp {α : Type} {N : Nat} {w w' : World} {sz : Nat} {R R' : List Value → α → Prop} {sp : Option Addr} {n cap : Nat} {l : List α} (h : RS N w sz R sp n cap l) (hb : Below N w w') (hR : ∀ cs a, R cs a → R' cs a) : RS N w' sz R' sp n cap l :=
  ⟨h.len, h.nil, h.le, h.big, h.small, fun h0 => let ⟨b, off, e, hbN, hB⟩ := h.at0 h0; ⟨b, off, e, hbN, fun i a hX => let ⟨cs, h1, h2⟩ := hB i a hX; ⟨cs, rb h1 hb hbN, hR cs a h2⟩⟩⟩
theorem RS.nil0 {α : Type} (N : Nat) (w : World) (sz : Nat) (R : List Value → α → Prop) : RS N w sz R none 0 0 [] := ⟨rfl, fun _ => ⟨rfl, rfl⟩, Nat.le_refl _, by omega, by omega, fun h => absurd h (by omega)⟩
def I64 (x : Int) : Prop := -9223372036854775808 ≤ x ∧ x ≤ 9223372036854775807
def U8 (x : Int) : Prop := 0 ≤ x ∧ x < 256
def exC (k n v o : Int) (s : Value) : List Value := [.int .u8 k, .int .u64 n, .int .i64 v, .int .u8 o, s]
def stC (k v f t : Int) (a b c : Value) : List Value := [.int .u8 k, .int .i64 v, .int .i64 f, .int .i64 t, a, b, c]
def fuC (p v : Int) (b : Value) : List Value := [.int .i64 p, .int .i64 v, b]
def ExT.nd {d : Nat} (t : ExT (d + 1)) : ExN (ExT d) := t
def StT.nd {d : Nat} (t : StT (d + 1)) : StN (StT d) := t
structure ExN.ok {α : Type} (t : ExN α) : Prop where
  k : U8 t.k
  n : U64 t.n
  v : I64 t.v
  o : U8 t.o
structure StN.ok {α : Type} (t : StN α) : Prop where
  k : U8 t.k
  v : I64 t.v
  f : I64 t.f
  t : I64 t.t
/-- An expression in memory, down to a depth. -/
def ExM (N : Nat) (w : World) : (d : Nat) → List Value → ExT d → Prop
  | 0, cs, _ => ∃ k n v o sp m cap, cs = exC k n v o (.slice sp m cap)
  | d + 1, cs, t => ∃ sp m cap, cs = exC t.nd.k t.nd.n t.nd.v t.nd.o (.slice sp m cap) ∧ t.nd.ok ∧ RS N w 5 (ExM N w d) sp m cap t.nd.l
theorem ExM.below {N : Nat} {w w' : World} (hb : Below N w w') : ∀ (d : Nat) (cs : List Value) (t : ExT d), ExM N w d cs t → ExM N w' d cs t
  | 0, _, _, h => h
  | d + 1, _, _, h => let ⟨sp, m, cap, h1, h2, h3⟩ := h; ⟨sp, m, cap, h1, h2, h3.imp hb (ExM.below hb d)⟩
def StM (N : Nat) (w : World) : (d : Nat) → List Value → StT d → Prop
  | 0, cs, _ => ∃ k v f t sa na ca sb nb cb sc nc cc, cs = stC k v f t (.slice sa na ca) (.slice sb nb cb) (.slice sc nc cc)
  | d + 1, cs, t => ∃ sa na ca sb nb cb sc nc cc, cs = stC t.nd.k t.nd.v t.nd.f t.nd.t (.slice sa na ca) (.slice sb nb cb) (.slice sc nc cc) ∧ t.nd.ok ∧ RS N w 5 (ExM N w 8) sa na ca t.nd.a ∧ RS N w 7 (StM N w d) sb nb cb t.nd.th ∧ RS N w 7 (StM N w d) sc nc cc t.nd.el
theorem StM.below {N : Nat} {w w' : World} (hb : Below N w w') : ∀ (d : Nat) (cs : List Value) (t : StT d), StM N w d cs t → StM N w' d cs t
  | 0, _, _, h => h
  | d + 1, _, _, h => let ⟨sa, na, ca, sb, nb, cb, sc, nc, cc, h1, h2, h3, h4, h5⟩ := h; ⟨sa, na, ca, sb, nb, cb, sc, nc, cc, h1, h2, h3.imp hb (ExM.below hb 8), h4.imp hb (StM.below hb d), h5.imp hb (StM.below hb d)⟩
def FuM (N : Nat) (w : World) (cs : List Value) (f : FuT) : Prop := ∃ sp m cap, cs = fuC f.p f.v (.slice sp m cap) ∧ (I64 f.p ∧ I64 f.v) ∧ RS N w 7 (StM N w 8) sp m cap f.b
theorem FuM.below {N : Nat} {w w' : World} (hb : Below N w w') (cs : List Value) (f : FuT) (h : FuM N w cs f) : FuM N w' cs f :=
  let ⟨sp, m, cap, h1, h2, h3⟩ := h; ⟨sp, m, cap, h1, h2, h3.imp hb (StM.below hb 8)⟩
def PgM (N : Nat) (w : World) (cs : List Value) (p : PgT) : Prop := ∃ sp m cap, cs = [.slice sp m cap, .int .i64 p.da] ∧ I64 p.da ∧ RS N w 3 (FuM N w) sp m cap p.fs
theorem PgM.below {N : Nat} {w w' : World} (hb : Below N w w') (cs : List Value) (p : PgT) (h : PgM N w cs p) : PgM N w' cs p :=
  let ⟨sp, m, cap, h1, h2, h3⟩ := h; ⟨sp, m, cap, h1, h2, h3.imp hb (FuM.below hb)⟩
/-- How many nodes are left, and may it be? -/
def CtP (r : Option Nat) (w : World) (e : Ending) (w' : World) : Prop := e = .returned (.tuple #[.int .i64 (r.getD 0 : Nat), .bool r.isSome]) ∧ Below w.heap.size w w'
end Go.Proofs.Ytimmiidkjpbffaa
