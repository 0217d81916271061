/- Layer state, the document's answer: Check, CheckOut. -/
import Derived.Test.YtlebojbfcolkhaaSa
import Derived.Test.YtlebojbfcolkhaaPk
import Derived.Test.YtlebojbfcolkhaaMf
namespace Go.Proofs.Ytlebojbfcolkhaa
open Go.RowKit
set_option maxRecDepth 100000
set_option linter.unusedVariables false
set_option linter.unusedSimpArgs false

theorem run_eq24d {X Y : List Int} (hX : X.length = 32) (hY : Y.length = 32) (w : World) : (binOp .eql 24 (.agg (h8 X)) (.agg (h8 Y))).run Try.prog w = .ok (.bool (decide (X = Y))) w := run_eq24 hX hY w
set_option maxHeartbeats 1000000 in
theorem joined_any (X Y : List Int) (c : Int) (w : World) (hX : X.length = 32) (hY : Y.length = 32) :
    Calls Try.prog 40 #[.agg (h8 X), .agg (h8 Y), .int .u64 c] w fun e w' => e = .returned (.agg (h8 (jn X Y c))) ∧ Below w.heap.size w w' := by
  have X0 := ((Arr.new w 24 (h8 X)).alloc (.cells (h8 Y) 24)).alloc (.cells (h8 Z32) 24)
  have Y0 := (show Arr ((w.alloc (.cells (h8 X) 24)).alloc (.cells (h8 Y) 24)) (w.heap.size + 1) 24 (h8 Y) from (by simpa using Arr.new (w.alloc (.cells (h8 X) 24)) 24 (h8 Y))).alloc (.cells (h8 Z32) 24)
  have Z0 := Arr.new3 w (.cells (h8 X) 24) (.cells (h8 Y) 24) 24 (h8 Z32)
  have B0 := ((alloc_bel' w (.cells (h8 X) 24)).alloc (by simp) (.cells (h8 Y) 24)).alloc (by simp; omega) (.cells (h8 Z32) 24)
  have h1 := pr_len X Y
  have h2 := cnt_len c
  have h3 := jn_len X Y c
  have hj : Hid (pr (pr X Y) (cnt c) = jn X Y c) := Hid.mk' rfl
  have hP1 := Hid.mk' (fun u => refPair_h X Y u hX hY)
  have hP2 := Hid.mk' (fun u => refPair_h (pr X Y) (cnt c) u h1 h2)
  go_enter Try.func40, Try.ntmps40
  go_wp2_with (first
    | (refine ld24 (by rfl) _ (by rfl) w.heap.size 0 (by rfl) X hX X0.range ?_)
    | (refine ld24 (by rfl) _ (by rfl) (w.heap.size + 1) 0 (by rfl) Y hY Y0.range ?_)
    | (go_at_call 39; go_must (refine (counted_any c _).mono ?_; rintro e w2 ⟨rfl, hb2⟩))
    | (go_at_call 38; have hz := hP1; clear hP1; go_must (refine (hz.out _).mono ?_; rintro e w1 ⟨rfl, hb1⟩))
    | (go_at_call 38; have hz := hP2; clear hP2; go_must (refine (hz.out _).mono ?_; rintro e w3 ⟨rfl, hb3⟩; rw [hj.out]; have hb13 := (hb1.trans (hb2.mono hb1.size)).trans (hb3.mono (Nat.le_trans hb1.size hb2.size)); have Z3 := Z0.below hb13 Z0.lt; have B3 := B0.trans (hb13.mono B0.size)))
    | (refine st24 (by rfl) _ _ (by rfl) (w.heap.size + 2) _ Z32 (by rfl) (by rfl) h3 Z32_len Z3 ?_))
  exact bodyPost_ret (v := .agg (h8 (jn X Y c))) (res24 Try.results40 rfl h3 (Z3.setRow _)) rfl ⟨rfl, below_setRow B3 (by omega) _⟩
end Go.Proofs.Ytlebojbfcolkhaa
