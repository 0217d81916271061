/- Layer interp: programs in memory. -/
import Derived.Test.YtmljihggooaboaaIa
import Derived.Test.YtmljihggooaboaaI0
namespace Go.Proofs.Ytmljihggooaboaa
open Go.RowKit
set_option maxRecDepth 100000
set_option linter.unusedVariables false
set_option linter.unusedSimpArgs false

/-- Things of sz cells one behind the other, in blocks below N. -/
structure RS {α : Type} (N : Nat) (w : World) (sz : Nat) (R : List Value → α → Prop) (sp : Option Addr) (n cap : Nat) (l : List α) : Prop where
  len : Hid (n = l.length)
  nil : sp = none → n = 0 ∧ cap = 0
  le : n ≤ cap
  big : cap ≤ 9223372036854775807
  small : n ≤ 140737488355328
  at0 : 0 < n → ∃ g off, sp = some ⟨g, off, none⟩ ∧ g < N ∧ ∀ i a, l[i]? = some a → ∃ cs, w.rangeAt g (off + i * sz) cs ∧ R cs a
theorem RS.imp {α : Type} {N : Nat} {w w' : World} {sz : Nat} {R R' : List Value → α → Prop} {sp : Option Addr} {n cap : Nat} {l : List α} (h : RS N w sz R sp n cap l) (hb : Below N w w') (hR : ∀ cs a, R cs a → R' cs a) : RS N w' sz R' sp n cap l :=
  ⟨h.len, h.nil, h.le, h.big, h.small, fun h0 => let ⟨b, off, e, hbN, hB⟩ := h.at0 h0; ⟨b, off, e, hbN, fun i a hX => let ⟨cs, h1, h2⟩ := hB i a hX; ⟨cs, rb h1 hb hbN, hR cs a h2⟩⟩⟩
theorem RS.nil0 {α : Type} (N : Nat) (w : World) (sz : Nat) (R : List Value → α → Prop) : RS N w sz R none 0 0 [] := ⟨rfl, fun _ => ⟨rfl, rfl⟩, Nat.le_refl _, by omega, by omega, fun h => absurd h (by omega)⟩
def I64 (x : Int) : Prop := -9223372036854775808 ≤ x ∧ x ≤ 9223372036854775807
def U8 (x : Int) : Prop := 0 ≤ x ∧ x < 256
def exC (k n v o : Int) (s : Value) : List Value := [.int .u8 k, .int .u64 n, .int .i64 v, .int .u8 o, s]
def stC (k v f t : Int) (a b c : Value) : List Value := [.int .u8 k, .int .i64 v, .int .i64 f, .int .i64 t, a, b, c]
def fuC (p v : Int) (b : Value) : List Value := [.int .i64 p, .int .i64 v, b]
def ExT.nd {d : Nat} (t : ExT (d + 1)) : ExN (ExT d) := t
def StT.nd {d : Nat} (t : StT (d + 1)) : StN (StT d) := t
structure ExN.ok {α : Type} (t : ExN α) : Prop where
  k : U8 t.k
  n : U64 t.n
  v : I64 t.v
  o : U8 t.o
structure StN.ok {α : Type} (t : StN α) : Prop where
  k : U8 t.k
  v : I64 t.v
  f : I64 t.f
  t : I64 t.t
/-- An expression in memory, down to a depth. -/
def ExM (N : Nat) (w : World) : (d : Nat) → List Value → ExT d → Prop
  | 0, cs, _ => ∃ k n v o sp m cap, cs = exC k n v o (.slice sp m cap)
  | d + 1, cs, t => ∃ sp m cap, cs = exC t.nd.k t.nd.n t.nd.v t.nd.o (.slice sp m cap) ∧ t.nd.ok ∧ RS N w 5 (ExM N w d) sp m cap t.nd.l
theorem ExM.below {N : Nat} {w w' : World} (hb : Below N w w') : ∀ (d : Nat) (cs : List Value) (t : ExT d), ExM N w d cs t → ExM N w' d cs t
  | 0, _, _, h => h
  | d + 1, _, _, h => let ⟨sp, m, cap, h1, h2, h3⟩ := h; ⟨sp, m, cap, h1, h2, h3.imp hb (ExM.below hb d)⟩
def StM (N : Nat) (w : World) : (d : Nat) → List Value → StT d → Prop
  | 0, cs, _ => ∃ k v f t sa na ca sb nb cb sc nc cc, cs = stC k v f t (.slice sa na ca) (.slice sb nb cb) (.slice sc nc cc)
  | d + 1, cs, t => ∃ sa na ca sb nb cb sc nc cc, cs = stC t.nd.k t.nd.v t.nd.f t.nd.t (.slice sa na ca) (.slice sb nb cb) (.slice sc nc cc) ∧ t.nd.ok ∧ RS N w 5 (ExM N w 8) sa na ca t.nd.a ∧ RS N w 7 (StM N w d) sb nb cb t.nd.th ∧ RS N w 7 (StM N w d) sc nc cc t.nd.el
theorem StM.below {N : Nat} {w w' : World} (hb : Below N w w') : ∀ (d : Nat) (cs : List Value) (t : StT d), StM N w d cs t → StM N w' d cs t
  | 0, _, _, h => h
  | d + 1, _, _, h => let ⟨sa, na, ca, sb, nb, cb, sc, nc, cc, h1, h2, h3, h4, h5⟩ := h; ⟨sa, na, ca, sb, nb, cb, sc, nc, cc, h1, h2, h3.imp hb (ExM.below hb 8), h4.imp hb (StM.below hb d), h5.imp hb (StM.below hb d)⟩
def FuM (N : Nat) (w : World) (cs : List Value) (f : FuT) : Prop := ∃ sp m cap, cs = fuC f.p f.v (.slice sp m cap) ∧ (I64 f.p ∧ I64 f.v) ∧ RS N w 7 (StM N w 8) sp m cap f.b
theorem FuM.below {N : Nat} {w w' : World} (hb : Below N w w') (cs : List Value) (f : FuT) (h : FuM N w cs f) : FuM N w' cs f :=
  let ⟨sp, m, cap, h1, h2, h3⟩ := h; ⟨sp, m, cap, h1, h2, h3.imp hb (StM.below hb 8)⟩
def PgM (N : Nat) (w : World) (cs : List Value) (p : PgT) : Prop := ∃ sp m cap, cs = [.slice sp m cap, .int .i64 p.da] ∧ I64 p.da ∧ RS N w 3 (FuM N w) sp m cap p.fs
theorem PgM.below {N : Nat} {w w' : World} (hb : Below N w w') (cs : List Value) (p : PgT) (h : PgM N w cs p) : PgM N w' cs p :=
  let ⟨sp, m, cap, h1, h2, h3⟩ := h; ⟨sp, m, cap, h1, h2, h3.imp hb (FuM.below hb)⟩
/-- How many nodes are left, and may it be? -/
def CtP (r : Option Nat) (w : World) (e : Ending) (w' : World) : Prop := e = .returned (.tuple #[.int .i64 (r.getD 0 : Nat), .bool r.isSome]) ∧ Below w.heap.size w w'
end Go.Proofs.Ytmljihggooaboaa
