/- Layer vm: what the layers below give. -/
import Derived.Test.YtnjbmffgbgbjmaaX03
import Derived.Test.YtnjbmffgbgbjmaaX01
import Derived.Test.YtnjbmffgbgbjmaaX06
import Derived.BigQuiet
import Derived.BigRegion
import Derived.ChangeKeysEq
import Derived.Deep.DeepCutAuto
import Derived.Deep.DrawnRows
import Derived.Deep.MidRow
import Derived.Deep.QuietTactic
import Derived.Deep.RegionHeld3
import Derived.Deep.RegionLaw
import Derived.Deep.RegionWith
import Derived.Deep.WholeRow
import Derived.DeepKeys3
import Derived.Laws.AppendOwnNone
import Derived.Laws.BitsLemmas
import Derived.Laws.BytesArg
import Derived.Laws.CopyOwn
import Derived.Lib.SlBytesConst
import Derived.RangeFuncRecord
import Derived.WalkKit
import Derived.WalkLawsBesides
import Derived.WalkSpells
namespace Go.Proofs.Ytnjbmffgbgbjmaa
open Go.RowKit
set_option maxRecDepth 100000
set_option linter.unusedVariables false
set_option linter.unusedSimpArgs false

/-- Do the entries i and j collide? -/
def hit (es : List En) (i j : Nat) : Bool := match es[i]?, es[j]? with
  | some e, some f => hitE e f
  | _, _ => false
/-- What is found. -/
def Fnd (es : List En) (a b : Int) (c : Bool) : Prop :=
  (c = true ∧ ∃ i j : Nat, a = i ∧ b = j ∧ i < j ∧ j < es.length ∧ hit es i j = true ∧ (∀ j', j' < j → ∀ i', i' < j' → hit es i' j' = false) ∧ ∀ i', i' < i → hit es i' j = false)
  ∨ (c = false ∧ a = 0 ∧ b = 0 ∧ ∀ j, j < es.length → ∀ i, i < j → hit es i j = false)
/-- What Find answers. -/
def FPost (es : List En) (w : World) (r : Ending) (w' : World) : Prop := ∃ (a b : Int) (c : Bool), r = .returned (.tuple #[.int .i64 a, .int .i64 b, .bool c]) ∧ Fnd es a b c ∧ Below w.heap.size w w'
theorem y54 {ops : Array Oper} {S : World → Prop} {op : Oper} {a : Act} (hw : Region.wanted op (yielded ops a.tmps) = true) (x : Operand) (ho : op.op = .load 72 x)
    (b o : Nat) (hx : a.eval x = .pointer (some ⟨b, o, none⟩)) (e : En) (he : e.sm.length = 32) (hS : ∀ w, S w → w.rangeAt b o e.cells) : YieldsIf Try.prog ops S op (.agg e.arr) a :=
  yieldsIf_load_mid hw 72 x ho b o hx e.cells _ hS Try.underlying72 rfl (by rw [En.len he]; exact size54)
theorem y24 {ops : Array Oper} {S : World → Prop} {op : Oper} {a : Act} (hw : Region.wanted op (yielded ops a.tmps) = true) (x : Operand) (ho : op.op = .load 31 x)
    (b o : Nat) (hx : a.eval x = .pointer (some ⟨b, o, none⟩)) (X : List Int) (hX : X.length = 32) (hS : ∀ w, S w → w.rangeAt b o (by8 X)) : YieldsIf Try.prog ops S op (.agg (h8 X)) a :=
  yieldsIf_load_mid hw 31 x ho b o hx (by8 X) _ hS Try.underlying31 rfl (by rw [by8_len, hX]; exact size24)
theorem bel_put {B r : Nat} {a w : World} (h : Below B a w) (o : Obj) (hr : B ≤ r) : Below B a (w.putObj r o) :=
  h.trans ⟨rfl, rfl, rfl, by simp [World.putObj], fun k hk => by simp [World.putObj, Array.getElem?_setIfInBounds, show r ≠ k by omega]⟩
end Go.Proofs.Ytnjbmffgbgbjmaa
