/- Layer interp: the law's own anchor; the law InterpEvals. -/
import Derived.Test.YtmljihggooaboaaIp0
import Derived.Handy
import Derived.BigQuiet
import Derived.BigRegion
namespace Go.Proofs.Ytmljihggooaboaa
open Go.RowKit
set_option maxRecDepth 100000
set_option linter.unusedVariables false
set_option linter.unusedSimpArgs false

theorem cellsU {L : List Int} {w : World} {g : Nat} (h : Arr w g 30 (uA L)) : ∀ (i : Nat) (x : Int), L[i]? = some x → w.cell? ⟨g, i, none⟩ = some (.int .u64 x) := fun i x hx => by
  have hi := (List.getElem?_eq_some_iff.1 hx).1
  rw [h.cell, uA_get hi, List.getD_eq_getElem?_getD, hx]
  rfl
set_option maxHeartbeats 2000000 in
theorem anchored_any (w : World) : Calls Try.prog 10 #[] w (BoP true w) := by
  have hrun := runA w
  have bA : Below w.heap.size w (wA w) := by unfold wA; exact (((ab w _).alloc (by simp) _).alloc (by simp; omega) _).alloc (by simp; omega) _
  have b1 : Below (wA w).heap.size (wA w) ((wA w).alloc (.cells #[.slice (some ⟨w.heap.size + 1 + 1 + 1, 0, none⟩) 1 1, .int .i64 4] 24)) := ab _ _
  replace hrun := hrun _ b1
  have B1 := bA.trans (b1.mono bA.size)
  have hm := fun (u : World) => eval_any (op := 7) (x := 3) (y := 4) u (by simp [U64]) (by simp [U64])
  have hd := fun (u : World) => eval_any (op := 8) (x := 1) (y := 0) u (by simp [U64]) (by simp [U64])
  unfold EvP at hm hd
  rw [show evV 7 3 4 = 12 by decide, show evE 7 3 4 = 0 by decide] at hm
  rw [show evV 8 1 0 = 0 by decide, show evE 8 1 0 = 8 by decide] at hd
  have A := Arr.new (wA w) 24 #[.slice (some ⟨w.heap.size + 1 + 1 + 1, 0, none⟩) 1 1, .int .i64 4]
  rw [show (wA w).heap.size = w.heap.size + 1 + 1 + 1 + 1 by unfold wA; simp] at A
  clear b1 bA
  go_enter Try.func10, Try.ntmps10
  go_upto_region 2 with fail
  change Code.wp _ _ _ _ ((wA w).alloc (.cells #[.slice (some ⟨w.heap.size + 1 + 1 + 1, 0, none⟩) 1 1, .int .i64 4] 24))
  generalize hU : ((wA w).alloc (.cells #[.slice (some ⟨w.heap.size + 1 + 1 + 1, 0, none⟩) 1 1, .int .i64 4] 24)) = U at *
  have a0 := A.cell 0
  have a1 := A.cell 1
  clear A hU
  go_upto_region 3 with (go_at_call 7; go_must (refine hrun.mono ?_; rintro e w1 ⟨gw, rfl, hW, hgw, hb1⟩))
  have B2 := (B1.trans (hb1.mono B1.size)).alloc (by have := (B1.trans (hb1.mono B1.size)).size; omega) (.cells #[.int .u8 1, .int .u64 0, .slice (some ⟨gw, 0, none⟩) 4 4, .int .i64 2] 32)
  have O2 := Arr.new w1 32 #[.int .u8 1, .int .u64 0, .slice (some ⟨gw, 0, none⟩) 4 4, .int .i64 2]
  have W2 := hW.alloc (.cells #[.int .u8 1, .int .u64 0, .slice (some ⟨gw, 0, none⟩) 4 4, .int .i64 2] 32)
  generalize hU2 : w1.alloc (.cells #[.int .u8 1, .int .u64 0, .slice (some ⟨gw, 0, none⟩) 4 4, .int .i64 2] 32) = U2 at *
  generalize w1.heap.size = go at *
  have o0 := O2.cell 0
  have o1 := O2.cell 1
  have o2 := O2.cell 2
  have o3 := O2.cell 3
  have M3 := Arr.new U2 30 #[.int .u64 8, .int .u64 0, .int .u64 0, .int .u64 0]
  have hsm := same_any (n := 4) (m := 4) (s1 := 1) (v1 := 0) (k1 := 2) (s2 := 1) (v2 := 0) (k2 := 2) (c1 := 4) (c2 := 4) (L := [8, 0, 0, 0]) (M := [8, 0, 0, 0]) (sp := some ⟨gw, 0, none⟩) (sq := some ⟨U2.heap.size, 0, none⟩) (U2.alloc (.cells #[.int .u64 8, .int .u64 0, .int .u64 0, .int .u64 0] 30))
    ⟨rfl, by omega, fun _ => ⟨gw, rfl, by have := W2.lt; simp; omega, cellsU (W2.alloc _)⟩⟩ ⟨rfl, by omega, fun _ => ⟨_, rfl, by simp, cellsU (L := [8, 0, 0, 0]) M3⟩⟩
  rw [decide_eq_true (by simp)] at hsm
  unfold BoP ouA at hsm
  have B3 := B2.alloc B2.size (.cells #[.int .u64 8, .int .u64 0, .int .u64 0, .int .u64 0] 30)
  clear hW W2 M3 hrun hb1
  go_upto_region 4 with (go_at_call 11; go_must (refine (hm _).mono ?_; rintro e w3 ⟨rfl, h⟩; replace h := h.symm; subst h))
  go_upto_region 5 with (go_at_call 11; go_must (refine (hd _).mono ?_; rintro e w3 ⟨rfl, h⟩; replace h := h.symm; subst h))
  go_wp2_with (go_at_call 9; go_must (refine hsm.mono ?_; rintro e w4 ⟨rfl, hb4⟩))
  go_ret
  exact ⟨rfl, B3.trans (hb4.mono B3.size)⟩
set_option maxHeartbeats 1000000 in
theorem evals_walk (op x y : Int) (w : World) (hx : U64 x) (hy : U64 y) : Calls Try.prog 4 #[.int .u8 op, .int .u64 x, .int .u64 y] w (BoP true w) := by
  have h1 := fun (u : World) => eval_any (op := op) u hx hy
  have h2 := fun (u : World) => refEval_any (op := op) u hx hy
  have h3 := anchored_any w
  unfold EvP at h1 h2
  unfold BoP at h3
  generalize evV op x y = a at *
  generalize evE op x y = b at *
  go_enter Try.func4, Try.ntmps4
  go_wp2_with (first
    | (go_at_call 11; go_must (refine (h1 _).mono ?_; rintro e w1 ⟨rfl, h⟩; replace h := h.symm; subst h))
    | (go_at_call 12; go_must (refine (h2 _).mono ?_; rintro e w1 ⟨rfl, h⟩; replace h := h.symm; subst h))
    | (go_at_call 10; go_must (refine h3.mono ?_; rintro e w2 ⟨rfl, hb2⟩)))
  go_ret
  exact ⟨rfl, hb2⟩
end Go.Proofs.Ytmljihggooaboaa
