/- Layer collide: the walk of CollideFinds. -/
import Derived.Test.YtgjnbpimldjkpaaCk
namespace Go.Proofs.Ytgjnbpimldjkpaa
open Go.RowKit
set_option linter.unusedVariables false
set_option linter.unusedSimpArgs false

set_option maxRecDepth 100000 in
set_option maxHeartbeats 1000000 in
theorem finds_walk (sp : Option Addr) (n cap : Nat) (es : List En) (w : World) (hS : ES w.heap.size w sp n cap es) :
    Calls Try.prog 3 #[.slice sp n cap] w fun e w' => e = .returned (.bool true) ∧ Below w.heap.size w w' := by
  go_enter Try.func3, Try.ntmps3
  go_upto_region 3 with (first
    | (go_at_call 7; go_must (refine (find_any sp n cap es _ w hS).mono ?_; rintro r w1 ⟨a, b, c, rfl, hf1, hb1⟩))
    | (go_at_call 8; go_must (refine (refFind_any sp n cap es _ w1 (hS.below hb1)).mono ?_; rintro r w2 ⟨a', b', c', rfl, hf2, hb2⟩; obtain ⟨rfl, rfl, rfl⟩ := Fnd.one hf1 hf2)))
  have hB2 := hb1.trans (hb2.mono hb1.size)
  clear hf1 hf2
  have e1 : (a' == a') = true := by simp
  have e2 : (b' == b') = true := by simp
  have e3 : (c' == c') = true := by simp
  go_wp2_with (go_at_call 9; go_must (refine (anchored_any w2).mono ?_; rintro r w3 ⟨rfl, hb3⟩))
  go_ret
  exact ⟨rfl, hB2.trans (hb3.mono hB2.size)⟩
end Go.Proofs.Ytgjnbpimldjkpaa
