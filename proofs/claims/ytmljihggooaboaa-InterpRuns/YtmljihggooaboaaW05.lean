/- Ih, ZZTo, Ii0. -/
import Derived.Test.YtmljihggooaboaaW01
import Derived.Test.YtmljihggooaboaaW04
import Derived.Handy
import Derived.BigQuiet
import Derived.BigRegion
import Derived.ChangeKeysEq
import Derived.Deep.DeepCutAuto
import Derived.Deep.DrawnRows
import Derived.Deep.MidRow
import Derived.Deep.QuietTactic
import Derived.Deep.RegionHeld3
import Derived.Deep.RegionLaw
import Derived.Deep.RegionWith
import Derived.Deep.WholeRow
import Derived.DeepKeys3
import Derived.Great.BuildSlice
import Derived.Laws.AppendOwnNone
import Derived.Laws.BitsLemmas
import Derived.Laws.BytesArg
import Derived.Laws.CopyOwn
import Derived.Laws.ResultCell
import Derived.Laws.Tables
import Derived.Lib.SlBytesConst
import Derived.LoopIn
import Derived.LoopNIn
import Derived.Maps.AppendAt
import Derived.OwnWalkIn
import Derived.RangeFuncBound
import Derived.RangeFuncCalls
import Derived.RangeFuncLeaves
import Derived.RangeFuncNested
import Derived.RangeFuncRecord
import Derived.Shelf.Abstract
import Derived.Shelf.RegionOpen
import Derived.TacticsInMore
import Derived.WalkKit
import Derived.WalkLawsBesides
import Derived.WalkSpells
/- Layer interp: what two words make. -/
namespace Go.Proofs.Ytmljihggooaboaa
open Go.RowKit
set_option maxRecDepth 100000
set_option linter.unusedVariables false
set_option linter.unusedSimpArgs false

theorem bitsU (op : BinOp) (x y : Int) : U64 (bits op .u64 x y) := by
  unfold bits
  exact U64.wrap _
theorem slU (x y : Int) : U64 (sl64 x y) := U64.wrap _
theorem edU {x y : Int} (hx : U64 x) (hy : 0 ≤ y) : U64 (x / y) := by
  have h1 := hx.1
  have h2 := hx.2
  refine ⟨Int.ediv_nonneg h1 hy, ?_⟩
  have := Int.ediv_le_self y h1
  omega
theorem srU {x : Int} (y : Int) (hx : U64 x) : U64 (sr64 x y) := edU hx (Int.le_of_lt (Int.pow_pos (by omega)))
theorem bitU (b : Prop) [Decidable b] : U64 (if b then 1 else 0) := by
  split <;> (unfold U64; omega)
theorem rkU {op x y z : Int} (ho : 5 ≤ op ∧ op ≤ 16) (hx : U64 x) (hy : U64 y) (h : rk op x y = some z) : U64 z := by
  have hy1 := hy.1
  have hy2 := hy.2
  rcases ops12 ho with rfl | rfl | rfl | rfl | rfl | rfl | rfl | rfl | rfl | rfl | rfl | rfl
  · rw [← show IntKind.u64.wrap (x + y) = z by simpa [rk] using h]; exact U64.wrap _
  · rw [← show IntKind.u64.wrap (x - y) = z by simpa [rk] using h]; exact U64.wrap _
  · rw [← show IntKind.u64.wrap (x * y) = z by simpa [rk] using h]; exact U64.wrap _
  · have hz' : ¬ y = 0 ∧ x / y = z := by simpa [rk] using h
    rw [← hz'.2]; exact edU hx hy1
  · have hz' : ¬ y = 0 ∧ x % y = z := by simpa [rk] using h
    rw [← hz'.2]
    have h2 := Int.emod_nonneg x hz'.1
    have h3 := Int.emod_lt_of_pos x (show 0 < y by have := hz'.1; omega)
    unfold U64; omega
  · rw [← show bits .and .u64 x y = z by simpa [rk] using h]; exact bitsU _ _ _
  · rw [← show bits .or .u64 x y = z by simpa [rk] using h]; exact bitsU _ _ _
  · rw [← show bits .xor .u64 x y = z by simpa [rk] using h]; exact bitsU _ _ _
  · rw [← show sl64 x y = z by simpa [rk] using h]; exact slU _ _
  · rw [← show sr64 x y = z by simpa [rk] using h]; exact srU _ hx
  · rw [← show (if x < y then 1 else 0) = z by simpa [rk] using h]; exact bitU _
  · rw [← show (if x = y then 1 else 0) = z by simpa [rk] using h]; exact bitU _
theorem rkN {op x y : Int} (ho : 5 ≤ op ∧ op ≤ 16) (hz : rk op x y = none) : (op = 8 ∨ op = 9) ∧ y = 0 := by
  rcases ops12 ho with rfl | rfl | rfl | rfl | rfl | rfl | rfl | rfl | rfl | rfl | rfl | rfl <;> simp [rk] at hz ⊢ <;> exact hz
theorem truth_I (b : Bool) (w : World) : Calls Try.prog 29 #[.bool b] w fun e w' => e = .returned (.int .u64 (if b = true then 1 else 0)) ∧ w' = w := by
  cases b
  · go_enter Try.func29, Try.ntmps29
    go_wp2
    go_ret
    exact ⟨rfl, rfl⟩
  · go_enter Try.func29, Try.ntmps29
    go_wp2
    go_ret
    exact ⟨rfl, rfl⟩
set_option maxHeartbeats 1000000 in
theorem rek5 {x y : Int} (w : World) (hx : U64 x) (hy : U64 y) : Calls Try.prog 20 #[.int .u8 5, .int .u64 x, .int .u64 y] w fun e w' => e = .returned (.int .u64 (IntKind.u64.wrap (x + y))) ∧ w' = w := by
  have hx1 := hx.1
  have hx2 := hx.2
  have hy1 := hy.1
  have hy2 := hy.2
  have e6 : IntKind.u64.wrap (x + IntKind.u64.wrap (-y)) = IntKind.u64.wrap (x - y) := by simp only [wrap_mod]; omega
  replace e6 := hid e6
  go_enter Try.func20, Try.ntmps20
  go_wp2
  all_goals
    go_ret
    refine ⟨?_, rfl⟩
    first | rfl | simp
set_option maxHeartbeats 1000000 in
theorem rek6 {x y : Int} (w : World) (hx : U64 x) (hy : U64 y) : Calls Try.prog 20 #[.int .u8 6, .int .u64 x, .int .u64 y] w fun e w' => e = .returned (.int .u64 (IntKind.u64.wrap (x - y))) ∧ w' = w := by
  have hx1 := hx.1
  have hx2 := hx.2
  have hy1 := hy.1
  have hy2 := hy.2
  have e6 : IntKind.u64.wrap (x + IntKind.u64.wrap (-y)) = IntKind.u64.wrap (x - y) := by simp only [wrap_mod]; omega
  replace e6 := hid e6
  go_enter Try.func20, Try.ntmps20
  go_wp2
  all_goals
    go_ret
    refine ⟨?_, rfl⟩
    first | rfl | simp
set_option maxHeartbeats 1000000 in
theorem rek7 {x y : Int} (w : World) (hx : U64 x) (hy : U64 y) : Calls Try.prog 20 #[.int .u8 7, .int .u64 x, .int .u64 y] w fun e w' => e = .returned (.int .u64 (IntKind.u64.wrap (x * y))) ∧ w' = w := by
  have hx1 := hx.1
  have hx2 := hx.2
  have hy1 := hy.1
  have hy2 := hy.2
  have e6 : IntKind.u64.wrap (x + IntKind.u64.wrap (-y)) = IntKind.u64.wrap (x - y) := by simp only [wrap_mod]; omega
  replace e6 := hid e6
  go_enter Try.func20, Try.ntmps20
  go_wp2
  all_goals
    go_ret
    refine ⟨?_, rfl⟩
    first | rfl | simp
set_option maxHeartbeats 1000000 in
theorem rek8 {x y : Int} (w : World) (hx : U64 x) (hy : U64 y) (h0 : y ≠ 0) : Calls Try.prog 20 #[.int .u8 8, .int .u64 x, .int .u64 y] w fun e w' => e = .returned (.int .u64 (x / y)) ∧ w' = w := by
  have hx1 := hx.1
  have hx2 := hx.2
  have hy1 := hy.1
  have hy2 := hy.2
  have h1 : (y == 0) = false := by simpa using h0
  have e6 : IntKind.u64.wrap (x + IntKind.u64.wrap (-y)) = IntKind.u64.wrap (x - y) := by simp only [wrap_mod]; omega
  replace e6 := hid e6
  go_enter Try.func20, Try.ntmps20
  go_wp2
  all_goals
    go_ret
    refine ⟨?_, rfl⟩
    first | rfl | simp
set_option maxHeartbeats 1000000 in
theorem rek9 {x y : Int} (w : World) (hx : U64 x) (hy : U64 y) (h0 : y ≠ 0) : Calls Try.prog 20 #[.int .u8 9, .int .u64 x, .int .u64 y] w fun e w' => e = .returned (.int .u64 (x % y)) ∧ w' = w := by
  have hx1 := hx.1
  have hx2 := hx.2
  have hy1 := hy.1
  have hy2 := hy.2
  have h1 : (y == 0) = false := by simpa using h0
  have e6 : IntKind.u64.wrap (x + IntKind.u64.wrap (-y)) = IntKind.u64.wrap (x - y) := by simp only [wrap_mod]; omega
  replace e6 := hid e6
  go_enter Try.func20, Try.ntmps20
  go_wp2
  all_goals
    go_ret
    refine ⟨?_, rfl⟩
    first | rfl | simp
set_option maxHeartbeats 1000000 in
theorem rek10 {x y : Int} (w : World) (hx : U64 x) (hy : U64 y) : Calls Try.prog 20 #[.int .u8 10, .int .u64 x, .int .u64 y] w fun e w' => e = .returned (.int .u64 (bits .and .u64 x y)) ∧ w' = w := by
  have hx1 := hx.1
  have hx2 := hx.2
  have hy1 := hy.1
  have hy2 := hy.2
  have e6 : IntKind.u64.wrap (x + IntKind.u64.wrap (-y)) = IntKind.u64.wrap (x - y) := by simp only [wrap_mod]; omega
  replace e6 := hid e6
  go_enter Try.func20, Try.ntmps20
  go_wp2
  all_goals
    go_ret
    refine ⟨?_, rfl⟩
    first | rfl | simp
set_option maxHeartbeats 1000000 in
theorem rek11 {x y : Int} (w : World) (hx : U64 x) (hy : U64 y) : Calls Try.prog 20 #[.int .u8 11, .int .u64 x, .int .u64 y] w fun e w' => e = .returned (.int .u64 (bits .or .u64 x y)) ∧ w' = w := by
  have hx1 := hx.1
  have hx2 := hx.2
  have hy1 := hy.1
  have hy2 := hy.2
  have e6 : IntKind.u64.wrap (x + IntKind.u64.wrap (-y)) = IntKind.u64.wrap (x - y) := by simp only [wrap_mod]; omega
  replace e6 := hid e6
  go_enter Try.func20, Try.ntmps20
  go_wp2
  all_goals
    go_ret
    refine ⟨?_, rfl⟩
    first | rfl | simp
set_option maxHeartbeats 1000000 in
theorem rek12 {x y : Int} (w : World) (hx : U64 x) (hy : U64 y) : Calls Try.prog 20 #[.int .u8 12, .int .u64 x, .int .u64 y] w fun e w' => e = .returned (.int .u64 (bits .xor .u64 x y)) ∧ w' = w := by
  have hx1 := hx.1
  have hx2 := hx.2
  have hy1 := hy.1
  have hy2 := hy.2
  have e6 : IntKind.u64.wrap (x + IntKind.u64.wrap (-y)) = IntKind.u64.wrap (x - y) := by simp only [wrap_mod]; omega
  replace e6 := hid e6
  go_enter Try.func20, Try.ntmps20
  go_wp2
  all_goals
    go_ret
    refine ⟨?_, rfl⟩
    first | rfl | simp
set_option maxHeartbeats 1000000 in
theorem rek13 {x y : Int} (w : World) (hx : U64 x) (hy : U64 y) : Calls Try.prog 20 #[.int .u8 13, .int .u64 x, .int .u64 y] w fun e w' => e = .returned (.int .u64 (sl64 x y)) ∧ w' = w := by
  have hx1 := hx.1
  have hx2 := hx.2
  have hy1 := hy.1
  have hy2 := hy.2
  have e6 : IntKind.u64.wrap (x + IntKind.u64.wrap (-y)) = IntKind.u64.wrap (x - y) := by simp only [wrap_mod]; omega
  replace e6 := hid e6
  go_enter Try.func20, Try.ntmps20
  go_wp2
  all_goals
    go_ret
    refine ⟨?_, rfl⟩
    first | rfl | simp
set_option maxHeartbeats 1000000 in
theorem rek14 {x y : Int} (w : World) (hx : U64 x) (hy : U64 y) : Calls Try.prog 20 #[.int .u8 14, .int .u64 x, .int .u64 y] w fun e w' => e = .returned (.int .u64 (sr64 x y)) ∧ w' = w := by
  have hx1 := hx.1
  have hx2 := hx.2
  have hy1 := hy.1
  have hy2 := hy.2
  have e6 : IntKind.u64.wrap (x + IntKind.u64.wrap (-y)) = IntKind.u64.wrap (x - y) := by simp only [wrap_mod]; omega
  replace e6 := hid e6
  go_enter Try.func20, Try.ntmps20
  go_wp2
  all_goals
    go_ret
    refine ⟨?_, rfl⟩
    first | rfl | simp
set_option maxHeartbeats 1000000 in
theorem rek15 {x y : Int} (w : World) (hx : U64 x) (hy : U64 y) : Calls Try.prog 20 #[.int .u8 15, .int .u64 x, .int .u64 y] w fun e w' => e = .returned (.int .u64 (if x < y then 1 else 0)) ∧ w' = w := by
  have hx1 := hx.1
  have hx2 := hx.2
  have hy1 := hy.1
  have hy2 := hy.2
  have e6 : IntKind.u64.wrap (x + IntKind.u64.wrap (-y)) = IntKind.u64.wrap (x - y) := by simp only [wrap_mod]; omega
  replace e6 := hid e6
  go_enter Try.func20, Try.ntmps20
  go_wp2_with (go_at_call 29; go_must (refine (truth_I _ _).mono ?_; rintro e w1 ⟨rfl, h⟩; replace h := h.symm; subst h))
  all_goals
    go_ret
    refine ⟨?_, rfl⟩
    first | rfl | simp
set_option maxHeartbeats 1000000 in
theorem rek16 {x y : Int} (w : World) (hx : U64 x) (hy : U64 y) : Calls Try.prog 20 #[.int .u8 16, .int .u64 x, .int .u64 y] w fun e w' => e = .returned (.int .u64 (if x = y then 1 else 0)) ∧ w' = w := by
  have hx1 := hx.1
  have hx2 := hx.2
  have hy1 := hy.1
  have hy2 := hy.2
  have e6 : IntKind.u64.wrap (x + IntKind.u64.wrap (-y)) = IntKind.u64.wrap (x - y) := by simp only [wrap_mod]; omega
  replace e6 := hid e6
  go_enter Try.func20, Try.ntmps20
  go_wp2_with (go_at_call 29; go_must (refine (truth_I _ _).mono ?_; rintro e w1 ⟨rfl, h⟩; replace h := h.symm; subst h))
  all_goals
    go_ret
    refine ⟨?_, rfl⟩
    first | rfl | simp
theorem rek_ok {op x y z : Int} (w : World) (ho : 5 ≤ op ∧ op ≤ 16) (hx : U64 x) (hy : U64 y) (hz : rk op x y = some z) :
    Calls Try.prog 20 #[.int .u8 op, .int .u64 x, .int .u64 y] w fun e w' => e = .returned (.int .u64 z) ∧ w' = w := by
  rcases ops12 ho with rfl | rfl | rfl | rfl | rfl | rfl | rfl | rfl | rfl | rfl | rfl | rfl
  · rw [← show (IntKind.u64.wrap (x + y)) = z by simpa [rk] using hz]; exact rek5 w hx hy
  · rw [← show (IntKind.u64.wrap (x - y)) = z by simpa [rk] using hz]; exact rek6 w hx hy
  · rw [← show (IntKind.u64.wrap (x * y)) = z by simpa [rk] using hz]; exact rek7 w hx hy
  · have hz' : ¬ y = 0 ∧ x / y = z := by simpa [rk] using hz
    rw [← hz'.2]; exact rek8 w hx hy hz'.1
  · have hz' : ¬ y = 0 ∧ x % y = z := by simpa [rk] using hz
    rw [← hz'.2]; exact rek9 w hx hy hz'.1
  · rw [← show (bits .and .u64 x y) = z by simpa [rk] using hz]; exact rek10 w hx hy
  · rw [← show (bits .or .u64 x y) = z by simpa [rk] using hz]; exact rek11 w hx hy
  · rw [← show (bits .xor .u64 x y) = z by simpa [rk] using hz]; exact rek12 w hx hy
  · rw [← show (sl64 x y) = z by simpa [rk] using hz]; exact rek13 w hx hy
  · rw [← show (sr64 x y) = z by simpa [rk] using hz]; exact rek14 w hx hy
  · rw [← show (if x < y then 1 else 0) = z by simpa [rk] using hz]; exact rek15 w hx hy
  · rw [← show (if x = y then 1 else 0) = z by simpa [rk] using hz]; exact rek16 w hx hy
/-- What Eval answers. -/
def evV (op x y : Int) : Int := if 5 ≤ op ∧ op ≤ 16 then (rk op x y).getD 0 else 0
def evE (op x y : Int) : Int := if 5 ≤ op ∧ op ≤ 16 then (if (rk op x y).isSome = true then 0 else 8) else 2
def EvP (op x y : Int) (w : World) (e : Ending) (w' : World) : Prop := e = .returned (.tuple #[.int .u64 (evV op x y), .int .i64 (evE op x y)]) ∧ w' = w
theorem ev_out {op x y : Int} (h : ¬ (5 ≤ op ∧ op ≤ 16)) : evV op x y = 0 ∧ evE op x y = 2 := by unfold evV evE; rw [if_neg h, if_neg h]; exact ⟨rfl, rfl⟩
theorem ev_in {op x y : Int} (h : 5 ≤ op ∧ op ≤ 16) : evV op x y = (rk op x y).getD 0 ∧ evE op x y = if (rk op x y).isSome = true then 0 else 8 := by unfold evV evE; rw [if_pos h, if_pos h]; exact ⟨rfl, rfl⟩
set_option maxHeartbeats 1000000 in
theorem eval_any {op x y : Int} (w : World) (hx : U64 x) (hy : U64 y) : Calls Try.prog 11 #[.int .u8 op, .int .u64 x, .int .u64 y] w (EvP op x y w) := by
  unfold EvP
  by_cases ho : 5 ≤ op ∧ op ≤ 16
  · obtain ⟨e1, e2⟩ := ev_in (x := x) (y := y) ho
    rw [e1, e2]
    have h1 : ¬ op < 5 := by omega
    have h2 : ¬ 16 < op := by omega
    cases hz : rk op x y with
    | none =>
      obtain ⟨h3, rfl⟩ := rkN ho hz
      clear e1 e2 hz
      rcases h3 with rfl | rfl
      · go_enter Try.func11, Try.ntmps11
        go_wp2_with fail
        go_ret2
        exact ⟨rfl, rfl⟩
      · go_enter Try.func11, Try.ntmps11
        go_wp2_with fail
        go_ret2
        exact ⟨rfl, rfl⟩
    | some z =>
      have hr := rek_ok w ho hx hy hz
      have hc : ((y == 0) && ((op == 8) || (op == 9))) = false := by
        by_cases h3 : y = 0
        · by_cases h4 : op = 8
          · subst h3 h4; simp [rk] at hz
          · by_cases h5 : op = 9
            · subst h3 h5; simp [rk] at hz
            · simp [h4, h5]
        · simp [h3]
      clear e1 e2 hz
      by_cases h3 : y = 0
      · subst h3
        have h4 : (op == 8) = false := by cases h : (op == 8) <;> simp_all
        have h5 : (op == 9) = false := by cases h : (op == 9) <;> simp_all
        clear hc
        go_enter Try.func11, Try.ntmps11
        go_wp2_with (go_at_call 20; go_must (refine hr.mono ?_; rintro e w1 ⟨rfl, h⟩; replace h := h.symm; subst h))
        go_ret2
        exact ⟨rfl, rfl⟩
      · have h4 : (y == 0) = false := by simpa using h3
        clear hc h3
        go_enter Try.func11, Try.ntmps11
        go_wp2_with (go_at_call 20; go_must (refine hr.mono ?_; rintro e w1 ⟨rfl, h⟩; replace h := h.symm; subst h))
        go_ret2
        exact ⟨rfl, rfl⟩
  · obtain ⟨e1, e2⟩ := ev_out (x := x) (y := y) ho
    rw [e1, e2]
    clear e1 e2
    by_cases h1 : op < 5
    · clear ho
      go_enter Try.func11, Try.ntmps11
      go_wp2_with fail
      go_ret2
      exact ⟨rfl, rfl⟩
    · have h2 : 16 < op := by omega
      clear ho
      go_enter Try.func11, Try.ntmps11
      go_wp2_with fail
      go_ret2
      exact ⟨rfl, rfl⟩
set_option maxHeartbeats 1000000 in
theorem refEval_any {op x y : Int} (w : World) (hx : U64 x) (hy : U64 y) : Calls Try.prog 12 #[.int .u8 op, .int .u64 x, .int .u64 y] w (EvP op x y w) := by
  unfold EvP
  by_cases ho : 5 ≤ op ∧ op ≤ 16
  · obtain ⟨e1, e2⟩ := ev_in (x := x) (y := y) ho
    rw [e1, e2]
    have h1 : ¬ op < 5 := by omega
    have h2 : ¬ 16 < op := by omega
    have hr := arI_any w ho hx hy
    clear e1 e2
    cases hz : rk op x y with
    | none =>
      rw [hz] at hr
      clear hz ho
      go_enter Try.func12, Try.ntmps12
      go_wp2_with (go_at_call 21; go_must (refine hr.mono ?_; rintro e w1 ⟨rfl, h⟩; replace h := h.symm; subst h))
      go_ret2
      exact ⟨rfl, rfl⟩
    | some z =>
      rw [hz] at hr
      clear hz ho
      go_enter Try.func12, Try.ntmps12
      go_wp2_with (go_at_call 21; go_must (refine hr.mono ?_; rintro e w1 ⟨rfl, h⟩; replace h := h.symm; subst h))
      go_ret2
      exact ⟨rfl, rfl⟩
  · obtain ⟨e1, e2⟩ := ev_out (x := x) (y := y) ho
    rw [e1, e2]
    clear e1 e2
    by_cases h1 : op < 5
    · clear ho
      go_enter Try.func12, Try.ntmps12
      go_wp2_with fail
      go_ret2
      exact ⟨rfl, rfl⟩
    · have h2 : 16 < op := by omega
      clear ho
      go_enter Try.func12, Try.ntmps12
      go_wp2_with fail
      go_ret2
      exact ⟨rfl, rfl⟩
end Go.Proofs.Ytmljihggooaboaa
/- Layer interp: what the layers below give. -/
namespace Go.Proofs.Ytmljihggooaboaa
open Go.RowKit
set_option maxRecDepth 100000
set_option linter.unusedVariables false
set_option linter.unusedSimpArgs false

theorem wrap64_of {x : Int} (h : 0 ≤ x) (h2 : x < 18446744073709551616) : IntKind.u64.wrap x = x := by
  simp only [IntKind.wrap, IntKind.bits, IntKind.signed]; simp; omega
end Go.Proofs.Ytmljihggooaboaa
/- Layer interp: a run in memory. -/
namespace Go.Proofs.Ytmljihggooaboaa
open Go.RowKit
set_option maxRecDepth 100000
set_option linter.unusedVariables false
set_option linter.unusedSimpArgs false

def uA (L : List Int) : Array Value := (L.map fun x => Value.int .u64 x).toArray
theorem uA_get {L : List Int} {i : Nat} (h : i < L.length) : (uA L)[i]? = some (.int .u64 (L.getD i 0)) := by
  simp [uA, List.getElem?_map, List.getD, List.getElem?_eq_getElem h]
theorem uA_size (L : List Int) : (uA L).size = L.length := by simp [uA]
theorem uA_set (L : List Int) (i : Nat) (x : Int) : (uA L).setIfInBounds i (.int .u64 x) = uA (L.set i x) := by
  simp [uA, List.map_set]
def trI : List PanicEntry := [{ v := .iface 93 (.agg #[]), recovered := false }]
def spI : List PanicEntry := [{ v := .iface 94 (.agg #[]), recovered := false }]
def reI (x : Int) : List PanicEntry := [{ v := .iface 91 (.agg #[.int .u64 x]), recovered := false }]
/-- A run: gr: the runner, gw: its data words; n of them. -/
structure RunI (gr gw n : Nat) (p0 p1 kv mv : Value) (W : List Int) (lf : Int) (w : World) : Prop where
  ar : Arr w gr 65 #[p0, p1, .slice (some ⟨gw, 0, none⟩) n n, .int .i64 lf, kv, mv]
  aw : Arr w gw 30 (uA W)
  ne : gr ≠ gw
  len : Hid (W.length = n)
  n10 : n ≤ 1024
  wU : ∀ x ∈ W, U64 x
theorem RunI.bl {gr gw n : Nat} {p0 p1 kv mv : Value} {W : List Int} {lf : Int} {w w' : World} (h : RunI gr gw n p0 p1 kv mv W lf w) (hb : Below w.heap.size w w') : RunI gr gw n p0 p1 kv mv W lf w' :=
  ⟨h.ar.bl hb, h.aw.bl hb, h.ne, h.len, h.n10, h.wU⟩
variable {gr gw n : Nat} {p0 p1 kv mv : Value} {W : List Int} {lf : Int}
theorem word_ok {x : Int} {j : Nat} (w : World) (hI : RunI gr gw n p0 p1 kv mv W lf w) (hx : x = j) (hj : j < n) :
    Calls Try.prog 44 #[.pointer (some ⟨gr, 0, none⟩), .int .u64 x] w fun e w' => e = .returned (.pointer (some ⟨gw, j, none⟩)) ∧ w' = w := by
  subst hx
  have c := hI.ar.cell 2
  have h10 := hI.n10
  have hu : IntKind.u64.wrap (n : Int) = n := wrap64_of (by omega) (by omega)
  have h1 : ¬ (n : Int) ≤ j := by omega
  have h2 : (j : Int) < n := by omega
  clear hI
  go_enter Try.func44, Try.ntmps44
  go_wp2_with fail
  go_ret
  exact ⟨rfl, rfl⟩
theorem word_no {x : Int} (w : World) (hI : RunI gr gw n p0 p1 kv mv W lf w) (hx : (n : Int) ≤ x) :
    Calls Try.prog 44 #[.pointer (some ⟨gr, 0, none⟩), .int .u64 x] w fun e w' => e = .panicked trI ∧ w' = w := by
  have c := hI.ar.cell 2
  have h10 := hI.n10
  have hu : IntKind.u64.wrap (n : Int) = n := wrap64_of (by omega) (by omega)
  clear hI
  go_enter Try.func44, Try.ntmps44
  go_wp2_with fail
  exact ⟨rfl, rfl, rfl⟩
theorem burn_ok {k : Nat} (w : World) (hI : RunI gr gw n p0 p1 kv mv W ((k + 1 : Nat) : Int) w) (hk : k ≤ 4194304) :
    Calls Try.prog 42 #[.pointer (some ⟨gr, 0, none⟩)] w fun e w' => e = .returned (.tuple #[]) ∧ w' = w.setCell ⟨gr, 3, none⟩ (.int .i64 (k : Int)) ∧ RunI gr gw n p0 p1 kv mv W (k : Int) w' := by
  have c := hI.ar.cell 3
  have f := hI.ar.frozen 3
  have h1 : (((k + 1 : Nat) : Int) == 0) = false := by simp; omega
  have h2 : IntKind.i64.wrap (((k + 1 : Nat) : Int) - 1) = (k : Int) := by rw [IntKind.wrap_i64]; omega
  have hR : RunI gr gw n p0 p1 kv mv W (k : Int) (w.setCell ⟨gr, 3, none⟩ (.int .i64 (k : Int))) := ⟨hI.ar.set 3 _, hI.aw.setOther _ (fun e => hI.ne e.symm), hI.ne, hI.len, hI.n10, hI.wU⟩
  clear hI
  generalize ((k + 1 : Nat) : Int) = q at *
  go_enter Try.func42, Try.ntmps42
  go_wp2_with fail
  go_end0
  exact ⟨rfl, rfl, hR⟩
theorem burn_no (w : World) (hI : RunI gr gw n p0 p1 kv mv W 0 w) :
    Calls Try.prog 42 #[.pointer (some ⟨gr, 0, none⟩)] w fun e w' => e = .panicked spI ∧ w' = w := by
  have c := hI.ar.cell 3
  clear hI
  go_enter Try.func42, Try.ntmps42
  go_wp2_with fail
  exact ⟨rfl, rfl, rfl⟩
/-- What an expression comes to. -/
def evX (W V : List Int) : (d : Nat) → ExT d → Option Int
  | 0, _ => none
  | d + 1, t =>
    if t.nd.k = 1 then some t.nd.n
    else if t.nd.k = 2 then some (V.getD t.nd.v.toNat 0)
    else if t.nd.k = 4 then (t.nd.l[0]?).bind fun a => (evX W V d a).bind fun x => if x < W.length then some (W.getD x.toNat 0) else none
    else (t.nd.l[0]?).bind fun a => (t.nd.l[1]?).bind fun b => (evX W V d a).bind fun x => (evX W V d b).bind fun y => rk t.nd.o x y
/-- May it be, whatever is left? -/
def okX (vs : Int) (d : Nat) (t : ExT d) : Prop := ∃ n m, exN vs d t n = some m
theorem fld_all {α : Type} {f : α → Nat → Option Nat} : ∀ (l : List α) (n m : Nat), fld f l n = some m → ∀ a ∈ l, ∃ n m, f a n = some m
  | [], _, _, _, _, h => by cases h
  | b :: r, n, m, h, a, ha => by
    unfold fld at h
    cases h1 : f b n with
    | none => rw [h1] at h; cases h
    | some k =>
      rw [h1] at h
      rcases List.mem_cons.1 ha with rfl | ha
      · exact ⟨n, k, h1⟩
      · exact fld_all r k m h a ha
theorem okX_s {vs : Int} {d : Nat} {t : ExT (d + 1)} (h : okX vs (d + 1) t) : mayE vs t.nd = true ∧ ∀ a ∈ t.nd.l, okX vs d a := by
  obtain ⟨n, m, h⟩ := h
  unfold exN at h
  split at h
  · cases h
  · next hh =>
    refine ⟨?_, fun a ha => fld_all _ _ _ h a ha⟩
    cases h2 : mayE vs t.nd with
    | true => rfl
    | false => exact absurd (Or.inr h2) hh
end Go.Proofs.Ytmljihggooaboaa
