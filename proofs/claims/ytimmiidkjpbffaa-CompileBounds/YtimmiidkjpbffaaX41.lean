/- REn, Ir0, Is0, Jb, Js, RVn, RYb. -/
import Derived.Test.YtimmiidkjpbffaaX08
import Derived.Test.YtimmiidkjpbffaaX02
import Derived.Test.YtimmiidkjpbffaaX03
import Derived.Test.YtimmiidkjpbffaaX28
import Derived.Test.YtimmiidkjpbffaaX21
import Derived.Test.YtimmiidkjpbffaaX27
import Derived.Test.YtimmiidkjpbffaaX29
import Derived.Test.YtimmiidkjpbffaaX30
import Derived.Test.YtimmiidkjpbffaaX01
import Derived.BigQuiet
import Derived.BigRegion
import Derived.ChangeKeysEq
import Derived.Deep.DeepCutAuto
import Derived.Deep.DrawnRows
import Derived.Deep.MidRow
import Derived.Deep.QuietTactic
import Derived.Deep.RegionHeld3
import Derived.Deep.RegionLaw
import Derived.Deep.RegionWith
import Derived.Deep.WholeRow
import Derived.DeepKeys3
import Derived.Great.BuildSlice
import Derived.Laws.AppendOwnNone
import Derived.Laws.BitsLemmas
import Derived.Laws.BytesArg
import Derived.Laws.CopyOwn
import Derived.Laws.ResultCell
import Derived.Laws.Tables
import Derived.Lib.SlBytesConst
import Derived.LoopIn
import Derived.LoopNIn
import Derived.Maps.AppendAt
import Derived.OwnWalkIn
import Derived.RangeFuncBound
import Derived.RangeFuncCalls
import Derived.RangeFuncLeaves
import Derived.RangeFuncNested
import Derived.RangeFuncRecord
import Derived.Shelf.Abstract
import Derived.Shelf.RegionOpen
import Derived.TacticsInMore
import Derived.WalkKit
import Derived.WalkLawsBesides
import Derived.WalkSpells
import Derived.Handy
import Derived.LoopTactic
import Derived.SizedLaws
import Derived.Test.YtimmiidkjpbffaaRows
import Derived.Deep.RegionHeld
import Derived.KernelRfl
import Derived.Laws.AppendOwn
import Derived.Laws.MakeOwn
import Derived.OwnWalk
import Derived.Recover
import Derived.ChangeOld
import Derived.Deep.OwnRows
import Derived.Great.FillDense
import Derived.Laws.CopyRow
import Derived.Laws.DeepBits32
import Derived.Laws.OwnMore
import Derived.Laws.Rows
import Derived.Lib.AppendZeros
import Derived.OpenShut
import Derived.ProofKit
import Derived.ShutString
import Derived.WideShapes
/- Layer compile: a machine in memory. -/
namespace Go.Proofs.Ytimmiidkjpbffaa
open Go.RowKit
set_option maxRecDepth 100000
set_option linter.unusedVariables false
set_option linter.unusedSimpArgs false

theorem by64_set (L : List Int) (t : Nat) (x : Int) : (by64 L).set t (.int .u64 x) = by64 (L.set t x) := by
  simp [by64, List.map_set]
theorem mcL_setPc (m : Mc) (v : Value) (X : List Value) (x : Int) : (mcL m v ++ X).set 0 (.int .u64 x) = mcL { m with pc := x } v ++ X := rfl
theorem mcL_setReg {m : Mc} (h : m.rg.length = 16) (v : Value) (X : List Value) {a : Nat} (ha : a < 16) (x : Int) : (mcL m v ++ X).set (1 + a) (.int .u64 x) = mcL { m with rg := m.rg.set a x } v ++ X := by
  rw [List.set_append_left _ _ (by rw [mcL_len h]; omega), mcL, Nat.add_comm, List.set_cons_succ, List.set_append_left _ _ (by rw [by64_len, h]; exact ha), by64_set]
  rfl
theorem mcL_setSt {m : Mc} (h : m.rg.length = 16) (v : Value) (X : List Value) (x : Int) : (mcL m v ++ X).set 17 (.int .u8 x) = mcL { m with st := x } v ++ X := by
  rw [List.set_append_left _ _ (by rw [mcL_len h]; omega), mcL, List.set_cons_succ, List.set_append_right _ _ (by rw [by64_len, h]; omega), by64_len, h]
  rfl
/-- A machine in block g, its words in block gm. -/
structure EN (w : World) (g : Nat) (ty : TypeId) (X : List Value) (gm n cap : Nat) (m : Mc) : Prop where
  eng : Arr w g ty (mcL m (.slice (some ⟨gm, 0, none⟩) n cap) ++ X).toArray
  mem : MW w gm m.me
  ne : g ≠ gm
  len : Hid (n = m.me.length)
  small : n ≤ 4096
  cap : n ≤ cap ∧ cap ≤ 9223372036854775807
  ok : m.ok
section
variable {w w' : World} {g gm n cap : Nat} {ty : TypeId} {X : List Value} {m : Mc}
theorem EN.c0 (h : EN w g ty X gm n cap m) : w.cell? ⟨g, 0, none⟩ = some (.int .u64 m.pc) := by
  rw [h.eng.cell]; rfl
theorem EN.cr (h : EN w g ty X gm n cap m) {a : Nat} (ha : a < 16) : w.cell? ⟨g, 1 + a, none⟩ = some (.int .u64 (m.rg.getD a 0)) := by
  rw [h.eng.cell]; simpa using mcL_reg h.ok.r16 _ X ha
theorem EN.c17 (h : EN w g ty X gm n cap m) : w.cell? ⟨g, 17, none⟩ = some (.int .u8 m.st) := by
  rw [h.eng.cell]; simpa using mcL_st h.ok.r16 _ X
theorem EN.c18 (h : EN w g ty X gm n cap m) : w.cell? ⟨g, 18, none⟩ = some (.slice (some ⟨gm, 0, none⟩) n cap) := by
  rw [h.eng.cell]; simpa using mcL_me h.ok.r16 _ X
theorem EN.fz (h : EN w g ty X gm n cap m) (j : Nat) : w.frozen? ⟨g, j, none⟩ = false := h.eng.frozen j
theorem EN.cm (h : EN w g ty X gm n cap m) {t : Nat} (ht : t < n) : w.cell? ⟨gm, t, none⟩ = some (.int .u64 (m.me.getD t 0)) := h.mem.cell (by rw [← h.len.out]; exact ht)
theorem EN.fm (h : EN w g ty X gm n cap m) (j : Nat) : w.frozen? ⟨gm, j, none⟩ = false := h.mem.frozen j
theorem EN.lt (h : EN w g ty X gm n cap m) : g < w.heap.size := h.eng.lt
theorem EN.ltm (h : EN w g ty X gm n cap m) : gm < w.heap.size := h.mem.lt
theorem EN.below {B : Nat} (h : EN w g ty X gm n cap m) (hb : Below B w w') (hg : g < B) (hm : gm < B) : EN w' g ty X gm n cap m :=
  ⟨h.eng.below hb hg, h.mem.below hb hm, h.ne, h.len, h.small, h.cap, h.ok⟩
theorem EN.bel (h : EN w g ty X gm n cap m) (hb : Below w.heap.size w w') : EN w' g ty X gm n cap m := h.below hb h.lt h.ltm
theorem EN.block (h : EN w g ty X gm n cap m) (h1 : w'.heap[g]? = w.heap[g]?) (h2 : w'.heap[gm]? = w.heap[gm]?) : EN w' g ty X gm n cap m :=
  ⟨h1.trans h.eng, h.mem.block h2, h.ne, h.len, h.small, h.cap, h.ok⟩
theorem EN.setPc (h : EN w g ty X gm n cap m) {x : Int} (hx : U64 x) : EN (w.setCell ⟨g, 0, none⟩ (.int .u64 x)) g ty X gm n cap { m with pc := x } :=
  ⟨by have := h.eng.set 0 (.int .u64 x); rw [List.setIfInBounds_toArray, mcL_setPc] at this; exact this, h.mem.setOther _ (Ne.symm h.ne), h.ne, h.len, h.small, h.cap, ⟨hx, h.ok.r16, h.ok.rg, h.ok.st, h.ok.me⟩⟩
theorem EN.setSt (h : EN w g ty X gm n cap m) {x : Int} (hx : 0 ≤ x ∧ x < 256) : EN (w.setCell ⟨g, 17, none⟩ (.int .u8 x)) g ty X gm n cap { m with st := x } :=
  ⟨by have := h.eng.set 17 (.int .u8 x); rw [List.setIfInBounds_toArray, mcL_setSt h.ok.r16] at this; exact this, h.mem.setOther _ (Ne.symm h.ne), h.ne, h.len, h.small, h.cap, ⟨h.ok.pc, h.ok.r16, h.ok.rg, hx, h.ok.me⟩⟩
theorem EN.setReg (h : EN w g ty X gm n cap m) {a : Nat} (ha : a < 16) {x : Int} (hx : U64 x) : EN (w.setCell ⟨g, 1 + a, none⟩ (.int .u64 x)) g ty X gm n cap { m with rg := m.rg.set a x } :=
  ⟨by have := h.eng.set (1 + a) (.int .u64 x); rw [List.setIfInBounds_toArray, mcL_setReg h.ok.r16 _ _ ha] at this; exact this, h.mem.setOther _ (Ne.symm h.ne), h.ne, h.len, h.small, h.cap,
    ⟨h.ok.pc, by simpa using h.ok.r16, fun k => by rw [getD_set _ _ _ _ (by rw [h.ok.r16]; exact ha)]; split; exact hx; exact h.ok.rg k, h.ok.st, h.ok.me⟩⟩
theorem EN.setMem (h : EN w g ty X gm n cap m) {k : Nat} (hk : k < n) {x : Int} (hx : U64 x) : EN (w.setCell ⟨gm, k, none⟩ (.int .u64 x)) g ty X gm n cap { m with me := m.me.set k x } :=
  ⟨h.eng.setOther _ h.ne, h.mem.set (by rw [← h.len.out]; exact hk) x, h.ne, by show n = _; rw [List.length_set]; exact h.len.out, h.small, h.cap,
    ⟨h.ok.pc, h.ok.r16, h.ok.rg, h.ok.st, fun t => by rw [getD_set _ _ _ _ (by rw [← h.len.out]; exact hk)]; split; exact hx; exact h.ok.me t⟩⟩
end
theorem EN.drew {w : World} {g gm n cap : Nat} {ty : TypeId} {X : List Value} {m : Mc} (h : EN w g ty X gm n cap m) : EN w.drew g ty X gm n cap m := h.bel ((Below.refl _ _).drew)
end Go.Proofs.Ytimmiidkjpbffaa
/- Layer compile: what the layers below give. -/
namespace Go.Proofs.Ytimmiidkjpbffaa
open Go.RowKit
set_option maxRecDepth 100000
set_option linter.unusedVariables false
set_option linter.unusedSimpArgs false

def doR : Option Nat → Int
  | some n => n
  | none => -1
def DoP (r : Option Nat) (w : World) (e : Ending) (w' : World) : Prop := e = .returned (.int .i64 (doR r)) ∧ Below w.heap.size w w'
/-- What a kind asks of an expression's own numbers. -/
def fB {α : Type} (vs : Int) (t : ExN α) : Bool :=
  if t.k = 1 then decide (t.v = 0 ∧ t.o = 0) else if t.k = 2 then decide (t.n = 0 ∧ t.o = 0 ∧ 0 ≤ t.v ∧ t.v < vs)
  else if t.k = 3 then decide (t.n = 0 ∧ t.v = 0 ∧ 5 ≤ t.o ∧ t.o ≤ 16) else if t.k = 4 then decide (t.n = 0 ∧ t.v = 0 ∧ t.o = 0) else false
def pN (k : Int) : Int := if k = 3 then 2 else if k = 4 then 1 else 0
theorem mayE_f {α : Type} {vs : Int} {t : ExN α} : mayE vs t = true ↔ fB vs t = true ∧ (t.l.length : Int) = pN t.k := by
  unfold mayE fB pN
  by_cases h1 : t.k = 1
  · simp [h1]
    constructor <;> intro h <;> simp_all
  by_cases h2 : t.k = 2
  · simp [h2]
    constructor <;> intro h <;> simp_all
  by_cases h3 : t.k = 3
  · simp [h3]
    constructor <;> intro h <;> simp_all
  by_cases h4 : t.k = 4
  · simp [h4]
    constructor <;> intro h <;> simp_all
  · simp [h1, h2, h3, h4]
theorem exN_f {vs : Int} {d : Nat} {t : ExT (d + 1)} {n : Nat} (hn : n ≠ 0) : exN vs (d + 1) t n = if fB vs t.nd = true then (if (t.nd.l.length : Int) = pN t.nd.k then fld (exN vs d) t.nd.l (n - 1) else none) else none := by
  have e : exN vs (d + 1) t n = if n = 0 ∨ mayE vs t.nd = false then none else fld (exN vs d) t.nd.l (n - 1) := rfl
  rw [e]
  have hm := mayE_f (vs := vs) (t := t.nd)
  by_cases h1 : fB vs t.nd = true
  · rw [if_pos h1]
    by_cases h2 : (t.nd.l.length : Int) = pN t.nd.k
    · rw [if_pos h2, if_neg]
      rintro (h | h)
      · exact hn h
      · rw [hm.2 ⟨h1, h2⟩] at h; cases h
    · rw [if_neg h2, if_pos]
      right
      cases h3 : mayE vs t.nd with
      | false => rfl
      | true => exact absurd (hm.1 h3).2 h2
  · rw [if_neg h1, if_pos]
    right
    cases h3 : mayE vs t.nd with
    | false => rfl
    | true => exact absurd (hm.1 h3).1 h1
end Go.Proofs.Ytimmiidkjpbffaa
/- Layer compile: what the layers below give. -/
namespace Go.Proofs.Ytimmiidkjpbffaa
open Go.RowKit
set_option maxRecDepth 100000
set_option linter.unusedVariables false
set_option linter.unusedSimpArgs false

def nmB (k : Int) : Bool := (k == 1) || ((k == 6) || ((k == 8) || (k == 9)))
/-- Is something wrong with a statement's own numbers? -/
def g1 {α : Type} (vs : Int) (s : StN α) : Bool := decide (s.v < 0) || ((nmB s.k && decide (vs ≤ s.v)) || (!nmB s.k && (s.v != 0)))
def g2 {α : Type} (s : StN α) : Bool := ((s.k != 6) && (s.f != 0)) || (((s.k != 7) && (s.t != 0)) || ((((s.k != 3) && (s.k != 4)) && decide (0 < (s.th.length : Int))) || ((s.k != 3) && decide (0 < (s.el.length : Int)))))
def g3 {α : Type} (ps : List Int) (s : StN α) : Int :=
  if s.k = 1 ∨ s.k = 3 ∨ s.k = 4 ∨ s.k = 5 ∨ s.k = 9 then 1 else if s.k = 2 ∨ s.k = 8 then 2
  else if s.k = 6 then (if s.f < 0 ∨ (ps.length : Int) ≤ s.f then -1 else ps.getD s.f.toNat 0)
  else if s.k = 7 then (if s.t < 0 ∨ 256 < s.t then -1 else 3) else -1
def agN {α : Type} (ps : List Int) (vs : Int) (s : StN α) : Int := if g1 vs s = true then -1 else if g2 s = true then -1 else g3 ps s
theorem mayS_a {α : Type} {ps : List Int} {vs : Int} {s : StN α} : mayS ps vs s = true ↔ agN ps vs s = s.a.length := by
  obtain ⟨k, v, f, t, a, th, el⟩ := s
  have ha : (0 : Int) ≤ a.length := by omega
  have hth : (0 : Int) ≤ th.length := by omega
  have hel : (0 : Int) ≤ el.length := by omega
  unfold mayS agN g1 g2 g3 nmB tkB
  dsimp only
  generalize (a.length : Int) = A at *
  generalize (th.length : Int) = TH at *
  generalize (el.length : Int) = EL at *
  generalize ps.getD f.toNat 0 = P at *
  generalize (ps.length : Int) = PL at *
  by_cases h1 : k = 1
  · subst h1; simp; omega
  by_cases h2 : k = 2
  · subst h2; simp; omega
  by_cases h3 : k = 3
  · subst h3; simp; omega
  by_cases h4 : k = 4
  · subst h4; simp; omega
  by_cases h5 : k = 5
  · subst h5; simp; omega
  by_cases h6 : k = 6
  · subst h6; simp; omega
  by_cases h7 : k = 7
  · subst h7; simp; omega
  by_cases h8 : k = 8
  · subst h8; simp; omega
  by_cases h9 : k = 9
  · subst h9; simp; omega
  · simp [h1, h2, h3, h4, h5, h6, h7, h8, h9]; omega
end Go.Proofs.Ytimmiidkjpbffaa
/- Layer compile: what the layers below give. -/
namespace Go.Proofs.Ytimmiidkjpbffaa
open Go.RowKit
set_option maxRecDepth 100000
set_option linter.unusedVariables false
set_option linter.unusedSimpArgs false

section
variable {X : World → Prop} {Z N gr gw n gm : Nat} {p0 p1 kv mv : Value} {W : List Int} {d lf : Nat}
/-- Arguments, somewhere. -/
def AG (sx : Option Addr) (na : Nat) (L : List Int) (w : World) : Prop := Hid (L.length = na) ∧ (0 < L.length → ∃ ad, sx = some ad ∧ ∀ j x, L[j]? = some x → w.cell? (ad.add j) = some (.int .u64 x))
end
end Go.Proofs.Ytimmiidkjpbffaa
/- Layer compile: what the layers below give. -/
namespace Go.Proofs.Ytimmiidkjpbffaa
open Go.RowKit
set_option maxRecDepth 100000
set_option linter.unusedVariables false
set_option linter.unusedSimpArgs false

theorem k3 : Try.prog.cellsOf 3 = 1 := by kernel_rfl
end Go.Proofs.Ytimmiidkjpbffaa
/- Layer compile: what the layers below give. -/
namespace Go.Proofs.Ytimmiidkjpbffaa
open Go.RowKit
set_option maxRecDepth 100000
set_option linter.unusedVariables false
set_option linter.unusedSimpArgs false

section
variable {N : Nat} {es : List En} {w w' : World} {g gm gp n cap : Nat} {sp : Option Addr} {nk ck : Nat} {m m' : Mc}
theorem cell_set_ne {w : World} {a b : Addr} (v : Value) (h : a ≠ b) : (w.setCell a v).cell? b = w.cell? b := World.cell?_setCell_other w a b v h
end
end Go.Proofs.Ytimmiidkjpbffaa
/- Layer compile: what the layers below give. -/
namespace Go.Proofs.Ytimmiidkjpbffaa
open Go.RowKit
set_option maxRecDepth 100000
set_option linter.unusedVariables false
set_option linter.unusedSimpArgs false

/-- A machine of the document's, and what is known to it. -/
structure DM (N : Nat) (es : List En) (w : World) (g gm n cap : Nat) (sp : Option Addr) (nk ck : Nat) (m : Mc) : Prop where
  en : EN w g 29 [] gm n cap m
  known : ES N w sp nk ck es
  le : N ≤ g ∧ N ≤ gm
section
variable {N : Nat} {es : List En} {w w' : World} {g gm n cap : Nat} {sp : Option Addr} {nk ck : Nat} {m m' : Mc}
theorem DM.bel (h : DM N es w g gm n cap sp nk ck m) (hb : Below w.heap.size w w') : DM N es w' g gm n cap sp nk ck m := by
  have h1 := h.en.lt
  have h2 := h.le
  exact ⟨h.en.bel hb, h.known.below (hb.mono (by omega)), h.le⟩
theorem DM.setCell (h : DM N es w g gm n cap sp nk ck m) {a : Addr} {v : Value} (ha : a.block = g ∨ a.block = gm) (he : EN (w.setCell a v) g 29 [] gm n cap m') : DM N es (w.setCell a v) g gm n cap sp nk ck m' := by
  have h2 := h.le
  exact ⟨he, h.known.below ((Below.refl N w).setCell (by rcases ha with e | e <;> rw [e] <;> omega) v), h.le⟩
def C2 (g gm k : Nat) : Prop := k = g ∨ k = gm
theorem Chg.g2 {a b : World} (h : Chg (C2 g gm) a b) (j : Nat) (v : Value) : Chg (C2 g gm) a (b.setCell ⟨g, j, none⟩ v) := h.setCell v (fun _ => .inl rfl)
theorem Chg.m2 {a b : World} (h : Chg (C2 g gm) a b) (j : Nat) (v : Value) : Chg (C2 g gm) a (b.setCell ⟨gm, j, none⟩ v) := h.setCell v (fun _ => .inr rfl)
/-- What the document's step comes to. -/
def DoPost (N : Nat) (es : List En) (g gm n cap : Nat) (sp : Option Addr) (nk ck : Nat) (m : Mc) (o : Option Mc) (w : World) (e : Ending) (w' : World) : Prop :=
  Chg (C2 g gm) w w' ∧ w.heap.size ≤ w'.heap.size ∧ ((∃ m', o = some m' ∧ e = .returned (.bool true) ∧ DM N es w' g gm n cap sp nk ck m') ∨ (o = none ∧ e = .returned (.bool false) ∧ DM N es w' g gm n cap sp nk ck m))
theorem doYes {o : Option Mc} {W : World} (hW : Below w.heap.size w W) {m' : Mc} (ho : o = some m') (hb : Chg (C2 g gm) W w') (hs : W.heap.size ≤ w'.heap.size) (hV' : DM N es w' g gm n cap sp nk ck m') : DoPost N es g gm n cap sp nk ck m o w (.returned (.bool true)) w' :=
  ⟨(Chg.of_below hW).trans hb, Nat.le_trans hW.size hs, .inl ⟨m', ho, rfl, hV'⟩⟩
theorem doNo {o : Option Mc} (hV : DM N es w g gm n cap sp nk ck m) (ho : o = none) (hW : Below w.heap.size w w') : DoPost N es g gm n cap sp nk ck m o w (.returned (.bool false)) w' :=
  ⟨Chg.of_below hW, hW.size, .inr ⟨ho, rfl, hV.bel hW⟩⟩
theorem DM.setReg (h : DM N es w g gm n cap sp nk ck m) {a : Nat} (ha : a < 16) {x : Int} (hx : U64 x) : DM N es (w.setCell ⟨g, 1 + a, none⟩ (.int .u64 x)) g gm n cap sp nk ck { m with rg := m.rg.set a x } := h.setCell (.inl rfl) (h.en.setReg ha hx)
theorem DM.setPc (h : DM N es w g gm n cap sp nk ck m) {x : Int} (hx : U64 x) : DM N es (w.setCell ⟨g, 0, none⟩ (.int .u64 x)) g gm n cap sp nk ck { m with pc := x } := h.setCell (.inl rfl) (h.en.setPc hx)
theorem DM.setSt (h : DM N es w g gm n cap sp nk ck m) {x : Int} (hx : 0 ≤ x ∧ x < 256) : DM N es (w.setCell ⟨g, 17, none⟩ (.int .u8 x)) g gm n cap sp nk ck { m with st := x } := h.setCell (.inl rfl) (h.en.setSt hx)
theorem DM.setMem (h : DM N es w g gm n cap sp nk ck m) {k : Nat} (hk : k < n) {x : Int} (hx : U64 x) : DM N es (w.setCell ⟨gm, k, none⟩ (.int .u64 x)) g gm n cap sp nk ck { m with me := m.me.set k x } := h.setCell (.inr rfl) (h.en.setMem hk hx)
theorem DM.put (h : DM N es w g gm n cap sp nk ck m) {a : Nat} (ha : a < 16) {x : Int} (hx : U64 x) : DM N es ((w.setCell ⟨g, 1 + a, none⟩ (.int .u64 x)).setCell ⟨g, 0, none⟩ (.int .u64 (IntKind.u64.wrap (m.pc + 1)))) g gm n cap sp nk ck (m.put a x) := (h.setReg ha hx).setPc (U64.wrap _)
end
end Go.Proofs.Ytimmiidkjpbffaa
