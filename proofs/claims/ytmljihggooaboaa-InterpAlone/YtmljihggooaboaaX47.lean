/- Layer interp: which statements may be, by the document, at every depth. -/
import Derived.Test.YtmljihggooaboaaX46
import Derived.Handy
import Derived.BigQuiet
import Derived.BigRegion
namespace Go.Proofs.Ytmljihggooaboaa
open Go.RowKit
set_option maxRecDepth 100000
set_option linter.unusedVariables false
set_option linter.unusedSimpArgs false

set_option maxHeartbeats 1000000 in
theorem dstmt_0 {N : Nat} {sp : Option Addr} {n cap : Nat} {fs : List FuT} {da vs : Int} {fi : Nat} : DsAt N sp n cap fs da vs fi 0 := by
  intro w cs t k hk hN hF hM
  obtain ⟨xk, xv, xf, xt, xa, ya, za, xb, yb, zb, xc, yc, zc, rfl⟩ := hM.cells
  have b0 : Below w.heap.size w ((w.alloc (.cells #[.slice sp n cap, .int .i64 da] 24)).alloc (.cells (stC xk xv xf xt (.slice xa ya za) (.slice xb yb zb) (.slice xc yc zc)).toArray 78)) := (ab w _).alloc (by simp) _
  rw [show stN ((fs.take fi).map FuT.p) vs 0 t k = none from rfl]
  clear hM hF
  have hsub : IntKind.i64.wrap ((k : Int) - 1) = (k : Int) - 1 := by rw [IntKind.wrap_i64]; omega
  unfold stC at *
  by_cases h0 : (k : Int) - 1 < 0
  · go_enter Try.func38, Try.ntmps38
    go_upto_region 2 with fail
    go_quiet (fail)
    go_wp2_with fail
    go_ret
    exact ⟨rfl, dwN b0 _⟩
  · go_enter Try.func38, Try.ntmps38
    go_upto_region 2 with fail
    go_quiet (fail)
    go_wp2_with fail
    go_ret
    exact ⟨rfl, dwN b0 _⟩
theorem dstmt_any {N : Nat} {sp : Option Addr} {n cap : Nat} {fs : List FuT} {da vs : Int} {fi : Nat} {fn : FuT} (hfi : fs[fi]? = some fn) (hvs : fn.v = vs) : ∀ d : Nat, d ≤ 100 → DsAt N sp n cap fs da vs fi d
  | 0, _ => dstmt_0
  | d + 1, h => dstmt_s (by omega) hfi hvs (dstmt_any hfi hvs d (by omega))
end Go.Proofs.Ytmljihggooaboaa
