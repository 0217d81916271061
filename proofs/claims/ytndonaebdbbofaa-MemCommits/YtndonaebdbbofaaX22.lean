/- Layer mem: two sums that are not alike. -/
import Derived.Test.YtndonaebdbbofaaX16
namespace Go.Proofs.Ytndonaebdbbofaa
open Go.RowKit
set_option maxRecDepth 100000
set_option linter.unusedVariables false
set_option linter.unusedSimpArgs false


set_option maxRecDepth 100000 in
theorem lw13_ne : decide (pr (lw 1) (lw 3) = pr (lw 1) (lw 2)) = false := by kernel_rfl
theorem e8_1 : e8 1 = [0, 0, 0, 0, 0, 0, 0, 1] := by decide
theorem e8_2 : e8 2 = [0, 0, 0, 0, 0, 0, 0, 2] := by decide
end Go.Proofs.Ytndonaebdbbofaa
