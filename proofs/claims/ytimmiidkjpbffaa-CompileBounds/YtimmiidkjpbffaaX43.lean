/- Layer compile: what the layers below give. -/
import Derived.Test.YtimmiidkjpbffaaX01
import Derived.Test.YtimmiidkjpbffaaX02
import Derived.Test.YtimmiidkjpbffaaX28
import Derived.BigQuiet
import Derived.BigRegion
import Derived.ChangeKeysEq
import Derived.Deep.DeepCutAuto
import Derived.Deep.DrawnRows
import Derived.Deep.MidRow
import Derived.Deep.QuietTactic
import Derived.Deep.RegionHeld3
import Derived.Deep.RegionLaw
import Derived.Deep.RegionWith
import Derived.Deep.WholeRow
import Derived.DeepKeys3
import Derived.Great.BuildSlice
import Derived.Laws.AppendOwnNone
import Derived.Laws.BitsLemmas
import Derived.Laws.BytesArg
import Derived.Laws.CopyOwn
import Derived.Laws.ResultCell
import Derived.Laws.Tables
import Derived.Lib.SlBytesConst
import Derived.LoopIn
import Derived.LoopNIn
import Derived.Maps.AppendAt
import Derived.OwnWalkIn
import Derived.RangeFuncBound
import Derived.RangeFuncCalls
import Derived.RangeFuncLeaves
import Derived.RangeFuncNested
import Derived.RangeFuncRecord
import Derived.Shelf.Abstract
import Derived.Shelf.RegionOpen
import Derived.TacticsInMore
import Derived.WalkKit
import Derived.WalkLawsBesides
import Derived.WalkSpells
namespace Go.Proofs.Ytimmiidkjpbffaa
open Go.RowKit
set_option maxRecDepth 100000
set_option linter.unusedVariables false
set_option linter.unusedSimpArgs false

/-- Has the memory so many words from there on? -/
def inB (x k : Int) (n : Nat) : Bool := decide (k = 0 ∨ x + k ≤ n)
set_option maxHeartbeats 400000 in
theorem inside_any (x k : Int) (n : Nat) (w : World) (hx : U64 x) (hk : 0 ≤ k ∧ k ≤ 4096) (hn : n ≤ 4096) :
    Calls Try.prog 69 #[.int .u64 x, .int .i64 k, .int .i64 (n : Int)] w fun e w' => e = .returned (.bool (inB x k n)) ∧ w' = w := by
  have h1 := hx.1
  have h2 := hx.2
  have wn : IntKind.u64.wrap (n : Int) = n := wrap64_of (by omega) (by omega)
  have wk : IntKind.u64.wrap k = k := wrap64_of (by omega) (by omega)
  by_cases h0 : k = 0
  · have hf : Hid (inB x k n = true) := Hid.mk' (by simp [inB, h0])
    have h0' : (k == 0) = true := by simpa using h0
    replace h0 := Hid.mk' h0
    go_enter Try.func69, Try.ntmps69
    go_wp2
    go_ret
    exact ⟨by rw [hf.out]; rfl, rfl⟩
  · have h0' : (k == 0) = false := by simpa using h0
    by_cases hlt : x < n
    · have ws : IntKind.u64.wrap ((n : Int) - x) = (n : Int) - x := wrap64_of (by omega) (by omega)
      by_cases hle : k ≤ (n : Int) - x
      · have hf : Hid (inB x k n = true) := Hid.mk' (by simp [inB]; omega)
        go_enter Try.func69, Try.ntmps69
        go_wp2
        go_ret
        exact ⟨by rw [hf.out]; simp, rfl⟩
      · have hf : Hid (inB x k n = false) := Hid.mk' (by simp [inB]; omega)
        go_enter Try.func69, Try.ntmps69
        go_wp2
        go_ret
        exact ⟨by rw [hf.out]; simp, rfl⟩
    · have hf : Hid (inB x k n = false) := Hid.mk' (by simp [inB]; omega)
      go_enter Try.func69, Try.ntmps69
      go_wp2
      go_ret
      exact ⟨by rw [hf.out]; simp, rfl⟩
end Go.Proofs.Ytimmiidkjpbffaa
