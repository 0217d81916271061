/- Layer interp: what the layers below give. -/
import Derived.Test.YtmljihggooaboaaZVa
import Derived.BigQuiet
import Derived.BigRegion
import Derived.ChangeKeysEq
import Derived.Deep.DeepCutAuto
import Derived.Deep.DrawnRows
import Derived.Deep.MidRow
import Derived.Deep.QuietTactic
import Derived.Deep.RegionHeld3
import Derived.Deep.RegionLaw
import Derived.Deep.RegionWith
import Derived.Deep.WholeRow
import Derived.DeepKeys3
import Derived.Great.BuildSlice
import Derived.Laws.AppendOwnNone
import Derived.Laws.BitsLemmas
import Derived.Laws.BytesArg
import Derived.Laws.CopyOwn
import Derived.Laws.ResultCell
import Derived.Laws.Tables
import Derived.Lib.SlBytesConst
import Derived.LoopIn
import Derived.LoopNIn
import Derived.Maps.AppendAt
import Derived.OwnWalkIn
import Derived.RangeFuncBound
import Derived.RangeFuncCalls
import Derived.RangeFuncLeaves
import Derived.RangeFuncNested
import Derived.RangeFuncRecord
import Derived.Shelf.Abstract
import Derived.Shelf.RegionOpen
import Derived.TacticsInMore
import Derived.WalkKit
import Derived.WalkLawsBesides
import Derived.WalkSpells
namespace Go.Proofs.Ytmljihggooaboaa
open Go.RowKit
set_option maxRecDepth 100000
set_option linter.unusedVariables false
set_option linter.unusedSimpArgs false

theorem wrap_mod (x : Int) : IntKind.u64.wrap x = x % 18446744073709551616 := by
  simp only [IntKind.wrap, IntKind.bits, IntKind.signed]
  simp
/-- Moved up, moved down. -/
def sl64 (x y : Int) : Int := IntKind.u64.wrap (x * 2 ^ min y.toNat 64)
def sr64 (x y : Int) : Int := x / 2 ^ min y.toNat 64
theorem sl64_big {x y : Int} (h : 64 ≤ y) : sl64 x y = 0 := by
  unfold sl64
  rw [show min y.toNat 64 = 64 from Nat.min_eq_right (by omega), wrap_mod]
  omega
theorem sr64_big {x y : Int} (hx : U64 x) (h : 64 ≤ y) : sr64 x y = 0 := by
  have h1 := hx.1
  have h2 := hx.2
  unfold sr64
  rw [show min y.toNat 64 = 64 from Nat.min_eq_right (by omega)]
  omega
/-- What an instruction from ADD to EQ makes of two words. -/
def rk (op x y : Int) : Option Int :=
  if op = 5 then some (IntKind.u64.wrap (x + y)) else if op = 6 then some (IntKind.u64.wrap (x - y)) else if op = 7 then some (IntKind.u64.wrap (x * y))
  else if op = 8 then (if y = 0 then none else some (x / y)) else if op = 9 then (if y = 0 then none else some (x % y))
  else if op = 10 then some (bits .and .u64 x y) else if op = 11 then some (bits .or .u64 x y) else if op = 12 then some (bits .xor .u64 x y)
  else if op = 13 then some (sl64 x y) else if op = 14 then some (sr64 x y)
  else if op = 15 then some (if x < y then 1 else 0) else some (if x = y then 1 else 0)
theorem ops12 {op : Int} (h : 5 ≤ op ∧ op ≤ 16) : op = 5 ∨ op = 6 ∨ op = 7 ∨ op = 8 ∨ op = 9 ∨ op = 10 ∨ op = 11 ∨ op = 12 ∨ op = 13 ∨ op = 14 ∨ op = 15 ∨ op = 16 := by omega
end Go.Proofs.Ytmljihggooaboaa
