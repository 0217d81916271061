/- Cb, Ch, Pa. -/
import Derived.Test.YtjbaobfmdkpboaaX01
import Derived.Test.YtjbaobfmdkpboaaX02
import Derived.Test.YtjbaobfmdkpboaaX03
import Derived.Test.YtjbaobfmdkpboaaX04
import Derived.Test.YtjbaobfmdkpboaaX05
import Derived.BigQuiet
import Derived.BigRegion
import Derived.ChangeKeysEq
import Derived.Deep.DeepCutAuto
import Derived.Deep.DrawnRows
import Derived.Deep.MidRow
import Derived.Deep.QuietTactic
import Derived.Deep.RegionHeld3
import Derived.Deep.RegionLaw
import Derived.Deep.RegionWith
import Derived.Deep.WholeRow
import Derived.JoinedTies
import Derived.KernelRfl
import Derived.Laws.AppendOwnNone
import Derived.Laws.BitsLemmas
import Derived.Laws.BytesArg
import Derived.Laws.CopyOwn
import Derived.Lib.SlBytesConst
import Derived.LoopIn
import Derived.LoopNIn
import Derived.OwnWalkIn
import Derived.RangeFuncBound
import Derived.RangeFuncCalls
import Derived.RangeFuncLeaves
import Derived.RangeFuncNested
import Derived.RangeFuncRecord
import Derived.Shelf.Abstract
import Derived.Shelf.RegionOpen
import Derived.TacticsInMore
import Derived.WalkKit
import Derived.WalkLawsBesides
import Derived.WalkSpells
import GoSem.Claim
import GoSem.ClaimJoined
import GoSem.ClaimMapViews
import Derived.Great.BuildSlice
import Derived.Laws.Tables
import Derived.Maps.AppendAt
/- Layer exec: what the layers below give. -/
namespace Go.Proofs.Ytjbaobfmdkpboaa
open Go.RowKit
set_option maxRecDepth 100000
set_option linter.unusedVariables false
set_option linter.unusedSimpArgs false

/-- An entry: its bytes and where they lie, and its sum. -/
structure En where
  sp : Option Addr
  n : Nat
  cap : Nat
  bs : List Int
  sm : List Int
def En.cells (e : En) : List Value := .slice e.sp e.n e.cap :: by8 e.sm
def En.arr (e : En) : Array Value := e.cells.toArray
structure EnOK (N : Nat) (w : World) (e : En) : Prop where
  body : BS N w e.sp e.n e.cap e.bs
  s32 : e.sm.length = 32
theorem EnOK.below {N : Nat} {w w' : World} {e : En} (h : EnOK N w e) (hb : Below N w w') : EnOK N w' e := ⟨h.body.below hb, h.s32⟩
theorem EnOK.mono {N N' : Nat} {w : World} {e : En} (h : EnOK N w e) (hN : N ≤ N') : EnOK N' w e := ⟨h.body.mono hN, h.s32⟩
theorem EnOK.here {N : Nat} {w : World} {e : En} (h : EnOK N w e) : EnOK w.heap.size w e := ⟨h.body.here, h.s32⟩
theorem En.len {e : En} (h : e.sm.length = 32) : e.cells.length = 33 := by simp [En.cells, by8_len, h]
theorem En.size {e : En} (h : e.sm.length = 32) : e.arr.size = 33 := by simp [En.arr, En.len h]
theorem En.one (e : En) : ∀ v ∈ e.cells, v.oneCell' = true := by
  intro v hv
  rcases List.mem_cons.1 hv with rfl | h
  · rfl
  · exact by8_one _ v h
theorem En.oneA (e : En) : e.arr.all (·.oneCell') = true := all_oneCell_toArray e.one
/-- Entries one behind the other, in blocks below N. -/
structure ES (N : Nat) (w : World) (sp : Option Addr) (n cap : Nat) (es : List En) : Prop where
  len : Hid (n = es.length)
  nil : sp = none → n = 0 ∧ cap = 0
  le : n ≤ cap
  big : cap ≤ 9223372036854775807
  small : n ≤ 140737488355328
  at0 : 0 < n → ∃ g off, sp = some ⟨g, off, none⟩ ∧ g < N ∧ ∀ i e, es[i]? = some e → w.rangeAt g (off + i * 33) e.cells
  ok : ∀ e ∈ es, EnOK N w e
theorem ES.below {N : Nat} {w w' : World} {sp : Option Addr} {n cap : Nat} {es : List En} (h : ES N w sp n cap es) (hb : Below N w w') : ES N w' sp n cap es :=
  ⟨h.len, h.nil, h.le, h.big, h.small, fun h0 => let ⟨b, off, e, hbN, hB⟩ := h.at0 h0; ⟨b, off, e, hbN, fun i X hX => range_below (hB i X hX) hb hbN⟩, fun e he => (h.ok e he).below hb⟩
theorem ES.mono {N N' : Nat} {w : World} {sp : Option Addr} {n cap : Nat} {es : List En} (h : ES N w sp n cap es) (hN : N ≤ N') : ES N' w sp n cap es :=
  ⟨h.len, h.nil, h.le, h.big, h.small, fun h0 => let ⟨b, off, e, hb, hB⟩ := h.at0 h0; ⟨b, off, e, by omega, hB⟩, fun e he => (h.ok e he).mono hN⟩
theorem ES.here {N : Nat} {w : World} {sp : Option Addr} {n cap : Nat} {es : List En} (h : ES N w sp n cap es) : ES w.heap.size w sp n cap es :=
  ⟨h.len, h.nil, h.le, h.big, h.small, fun h0 => by
    obtain ⟨b, off, e, hbN, hB⟩ := h.at0 h0
    refine ⟨b, off, e, ?_, hB⟩
    have hl : 0 < es.length := by rw [← h.len.out]; exact h0
    exact block_lt_of_cell (hB 0 es[0] (List.getElem?_eq_getElem hl) 0 _ rfl), fun e he => (h.ok e he).here⟩
theorem ES.nil0 (N : Nat) (w : World) : ES N w none 0 0 [] := ⟨rfl, fun _ => ⟨rfl, rfl⟩, Nat.le_refl _, by omega, by omega, fun h => absurd h (by omega), fun e h => by cases h⟩
end Go.Proofs.Ytjbaobfmdkpboaa
/- Layer exec: what the layers below give. -/
namespace Go.Proofs.Ytjbaobfmdkpboaa
open Go.RowKit
set_option maxRecDepth 100000
set_option linter.unusedVariables false
set_option linter.unusedSimpArgs false

def flatE (es : List En) : List Value := (es.map En.cells).flatten
theorem own_lt {w : World} {base e s n b : Nat} {v : Value} {xs : List Value} (h : w.ownsRow base e s v n xs) (hb : v.ownBlock = some b) : b < w.heap.size := by
  rcases h.2 with ⟨rfl, -⟩ | ⟨g, cap, cur, rfl, -, hgg, -⟩
  · simp [Value.ownBlock] at hb
  · simp [Value.ownBlock] at hb; subst hb; exact (Array.getElem?_eq_some_iff.1 hgg).1
/-- A slice of entries of the call's own; no bytes lie in it, nor in block ax. -/
structure EO (base ax : Nat) (w : World) (v : Value) (es : List En) : Prop where
  own : w.ownsRow base 77 33 v es.length (flatE es)
  ok : ∀ e ∈ es, EnOK w.heap.size w e
  ap : ∀ e ∈ es, ∀ b off, e.sp = some ⟨b, off, none⟩ → base ≤ b ∧ b < w.heap.size ∧ some b ≠ v.ownBlock ∧ b ≠ ax
theorem EO.below {base ax : Nat} {w w' : World} {v : Value} {es : List En} (h : EO base ax w v es) (hb : Below w.heap.size w w') : EO base ax w' v es :=
  ⟨own_same h.own (fun k hk => hb.block k (own_lt h.own hk)), fun e he => ((h.ok e he).below hb).mono hb.size, fun e he b off hs => by have := h.ap e he b off hs; have := hb.size; exact ⟨by omega, by omega, (h.ap e he b off hs).2.2⟩⟩
theorem EO.grown {base ax : Nat} {w w' : World} {v : Value} {es : List En} (h : EO base ax w v es) (hg : w.grownBy w' (some ax)) (hv : v.ownBlock ≠ some ax) : EO base ax w' v es :=
  ⟨own_same h.own (fun k hk => hg.block k (own_lt h.own hk) (fun e => hv (hk.trans e))), fun e he => ⟨((h.ok e he).body.grown hg (fun b off hs => (h.ap e he b off hs).2.2.2)).mono hg.size, (h.ok e he).s32⟩, fun e he b off hs => by have := h.ap e he b off hs; have := hg.size; exact ⟨by omega, by omega, (h.ap e he b off hs).2.2⟩⟩
theorem EO.nil (base ax : Nat) (w : World) : EO base ax w (.slice none 0 0) [] := ⟨World.ownsRow_nil _ _ _ _, (fun e he => by cases he), (fun e he => by cases he)⟩
end Go.Proofs.Ytjbaobfmdkpboaa
/- Layer exec: what the layers below give. -/
namespace Go.Proofs.Ytjbaobfmdkpboaa
open Go.RowKit
set_option maxRecDepth 100000
set_option linter.unusedVariables false
set_option linter.unusedSimpArgs false

/-- A number in eight bytes. -/
def e8 (n : Int) : List Int := (List.range 8).map fun j => n / 2 ^ (56 - 8 * j) % 256
theorem e8_len (n : Int) : (e8 n).length = 8 := by simp [e8]
/-- An account. -/
structure Ac where
  bal : Int
  non : Int
  lk : List Int
structure Ou where
  tw : Int
  am : Int
/-- Its bytes. -/
def acb (a : Ac) : List Int := e8 a.bal ++ e8 a.non ++ a.lk
def oub (o : Ou) : List Int := e8 o.tw ++ e8 o.am
/-- A leaf. -/
def lf (b : List Int) : List Int := shl (0 :: b)
def al (ps : List Ac) : List (List Int) := ps.map fun a => lf (acb a)
def ol (os : List Ou) : List (List Int) := os.map fun o => lf (oub o)
/-- The sum that stands for a number. -/
def cnt (n : Int) : List Int := List.replicate 24 0 ++ e8 n
/-- All balances together. -/
def tt : List Ac → Int → Option Int
  | [], t => some t
  | a :: r, t => if a.bal > 4611686018427387904 - t then none else tt r (t + a.bal)
def may (ps : List Ac) (n : Nat) : Bool := (tt ps 0).isSome && decide (n ≤ 32)
end Go.Proofs.Ytjbaobfmdkpboaa
