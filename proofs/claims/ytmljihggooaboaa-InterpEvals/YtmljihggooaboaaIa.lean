/- Layer interp: programs as trees, and which may be (pure). -/
import Derived.Test.YtmljihggooaboaaQVa
namespace Go.Proofs.Ytmljihggooaboaa
open Go.RowKit
set_option maxRecDepth 100000
set_option linter.unusedVariables false
set_option linter.unusedSimpArgs false

/-- An expression, and what stands below it. -/
structure ExN (α : Type) where
  k : Int
  n : Int
  v : Int
  o : Int
  l : List α
/-- An expression down to a depth. -/
def ExT : Nat → Type
  | 0 => Unit
  | d + 1 => ExN (ExT d)
structure StN (α : Type) where
  k : Int
  v : Int
  f : Int
  t : Int
  a : List (ExT 8)
  th : List α
  el : List α
def StT : Nat → Type
  | 0 => Unit
  | d + 1 => StN (StT d)
structure FuT where
  p : Int
  v : Int
  b : List (StT 8)
structure PgT where
  fs : List FuT
  da : Int
/-- What is left behind all parts of a list, each of which needs some. -/
def fld {α : Type} (f : α → Nat → Option Nat) : List α → Nat → Option Nat
  | [], n => some n
  | a :: r, n => (f a n).bind (fld f r)
def mayE {α : Type} (vs : Int) (t : ExN α) : Bool :=
  if t.k = 1 then decide ((t.l.length : Int) = 0 ∧ t.v = 0 ∧ t.o = 0)
  else if t.k = 2 then decide ((0 ≤ t.v ∧ t.v < vs) ∧ (t.l.length : Int) = 0 ∧ t.n = 0 ∧ t.o = 0)
  else if t.k = 3 then decide (5 ≤ t.o ∧ t.o ≤ 16 ∧ (t.l.length : Int) = 2 ∧ t.n = 0 ∧ t.v = 0)
  else if t.k = 4 then decide ((t.l.length : Int) = 1 ∧ t.n = 0 ∧ t.v = 0 ∧ t.o = 0)
  else false
def exN (vs : Int) : (d : Nat) → ExT d → Nat → Option Nat
  | 0, _, _ => none
  | d + 1, t, n => if n = 0 ∨ mayE vs (α := ExT d) t = false then none else fld (exN vs d) (ExN.l (α := ExT d) t) (n - 1)
/-- ps: how many arguments the functions ahead take. -/
def tkB (ps : List Int) (f a : Int) : Bool := decide (0 ≤ f ∧ f < ps.length ∧ a = ps.getD f.toNat 0)
def mayS {α : Type} (ps : List Int) (vs : Int) (s : StN α) : Bool :=
  if s.k = 1 ∨ s.k = 9 then decide ((0 ≤ s.v ∧ s.v < vs) ∧ (s.a.length : Int) = 1 ∧ s.f = 0 ∧ s.t = 0 ∧ (s.th.length : Int) = 0 ∧ (s.el.length : Int) = 0)
  else if s.k = 2 then decide ((s.a.length : Int) = 2 ∧ s.v = 0 ∧ s.f = 0 ∧ s.t = 0 ∧ (s.th.length : Int) = 0 ∧ (s.el.length : Int) = 0)
  else if s.k = 3 then decide ((s.a.length : Int) = 1 ∧ s.v = 0 ∧ s.f = 0 ∧ s.t = 0)
  else if s.k = 4 then decide ((s.a.length : Int) = 1 ∧ s.v = 0 ∧ s.f = 0 ∧ s.t = 0 ∧ (s.el.length : Int) = 0)
  else if s.k = 5 then decide ((s.a.length : Int) = 1 ∧ s.v = 0 ∧ s.f = 0 ∧ s.t = 0 ∧ (s.th.length : Int) = 0 ∧ (s.el.length : Int) = 0)
  else if s.k = 6 then decide ((0 ≤ s.v ∧ s.v < vs) ∧ tkB ps s.f s.a.length = true ∧ s.t = 0 ∧ (s.th.length : Int) = 0 ∧ (s.el.length : Int) = 0)
  else if s.k = 7 then decide (0 ≤ s.t ∧ s.t ≤ 256 ∧ (s.a.length : Int) = 3 ∧ s.v = 0 ∧ s.f = 0 ∧ (s.th.length : Int) = 0 ∧ (s.el.length : Int) = 0)
  else if s.k = 8 then decide ((0 ≤ s.v ∧ s.v < vs) ∧ (s.a.length : Int) = 2 ∧ s.f = 0 ∧ s.t = 0 ∧ (s.th.length : Int) = 0 ∧ (s.el.length : Int) = 0)
  else false
def stN (ps : List Int) (vs : Int) : (d : Nat) → StT d → Nat → Option Nat
  | 0, _, _ => none
  | d + 1, s, n => if n = 0 ∨ mayS ps vs (α := StT d) s = false then none else
      (fld (exN vs 8) (StN.a (α := StT d) s) (n - 1)).bind fun n1 => (fld (stN ps vs d) (StN.th (α := StT d) s) n1).bind (fld (stN ps vs d) (StN.el (α := StT d) s))
/-- ps: of the functions ahead. -/
def fnN : List FuT → List Int → Nat → Option Nat
  | [], _, n => some n
  | f :: r, ps, n => if 0 ≤ f.v ∧ f.v ≤ 64 ∧ 0 ≤ f.p ∧ f.p ≤ f.v then (fld (stN ps f.v 8) f.b n).bind (fnN r (ps ++ [f.p])) else none
def begB (p : PgT) : Bool := decide (0 < p.fs.length ∧ p.fs.length ≤ 32 ∧ (p.fs.getLast?.map FuT.p) = some 0 ∧ 0 ≤ p.da ∧ p.da ≤ 1024)
/-- How many nodes are left behind a program that may be. -/
def pgN (p : PgT) : Option Nat := if begB p = true then fnN p.fs [] 4096 else none
theorem fld_le {α : Type} {f : α → Nat → Option Nat} (hf : ∀ a n m, f a n = some m → m ≤ n) : ∀ (l : List α) (n m : Nat), fld f l n = some m → m ≤ n
  | [], n, m, h => by cases h; omega
  | a :: r, n, m, h => by
    unfold fld at h
    cases h1 : f a n with
    | none => rw [h1] at h; cases h
    | some k => rw [h1] at h; exact Nat.le_trans (fld_le hf r k m h) (hf a n k h1)
theorem exN_le {vs : Int} : ∀ (d : Nat) (t : ExT d) (n m : Nat), exN vs d t n = some m → m ≤ n
  | 0, _, _, _, h => by cases h
  | d + 1, t, n, m, h => by
    unfold exN at h
    split at h
    · cases h
    · exact Nat.le_trans (fld_le (exN_le d) _ _ _ h) (by omega)
theorem stN_le {ps : List Int} {vs : Int} : ∀ (d : Nat) (t : StT d) (n m : Nat), stN ps vs d t n = some m → m ≤ n
  | 0, _, _, _, h => by cases h
  | d + 1, t, n, m, h => by
    unfold stN at h
    split at h
    · cases h
    · cases h1 : fld (exN vs 8) (StN.a (α := StT d) t) (n - 1) with
      | none => rw [h1] at h; cases h
      | some k =>
        rw [h1] at h
        replace h : (fld (stN ps vs d) (StN.th (α := StT d) t) k).bind (fld (stN ps vs d) (StN.el (α := StT d) t)) = some m := h
        cases h2 : fld (stN ps vs d) (StN.th (α := StT d) t) k with
        | none => rw [h2] at h; cases h
        | some k2 =>
          rw [h2] at h
          have a1 := fld_le (exN_le 8) _ _ _ h1
          have a2 := fld_le (stN_le d) _ _ _ h2
          have a3 := fld_le (stN_le d) _ _ _ h
          omega
end Go.Proofs.Ytmljihggooaboaa
