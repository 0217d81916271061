/- Layer vm: reckon. -/
import Derived.Test.YtnjbmffgbgbjmaaX07
namespace Go.Proofs.Ytnjbmffgbgbjmaa
open Go.RowKit
set_option maxRecDepth 100000
set_option linter.unusedVariables false
set_option linter.unusedSimpArgs false


theorem divisor_ok {y : Int} (h : y ≠ 0) (w : World) : Calls Try.prog 71 #[.int .u64 y] w fun e w' => e = .returned (.int .u64 y) ∧ w' = w := by
  have h1 : (y == 0) = false := by simpa using h
  go_enter Try.func71, Try.ntmps71
  go_wp2
  go_ret
  exact ⟨rfl, rfl⟩
theorem divisor_no (w : World) : Calls Try.prog 71 #[.int .u64 0] w fun e w' => e = .panicked trapV ∧ w' = w := by
  go_enter Try.func71, Try.ntmps71
  go_wp2
  exact ⟨rfl, rfl, rfl⟩
theorem truth_any (b : Bool) (w : World) : Calls Try.prog 72 #[.bool b] w fun e w' => e = .returned (.int .u64 (if b = true then 1 else 0)) ∧ w' = w := by
  cases b
  · go_enter Try.func72, Try.ntmps72
    go_wp2
    go_ret
    exact ⟨rfl, rfl⟩
  · go_enter Try.func72, Try.ntmps72
    go_wp2
    go_ret
    exact ⟨rfl, rfl⟩
set_option maxHeartbeats 1000000 in
theorem reckon5 {x y : Int} (w : World) (hx : U64 x) (hy : U64 y) : Calls Try.prog 56 #[.int .u8 5, .int .u64 x, .int .u64 y] w fun e w' => e = .returned (.int .u64 (IntKind.u64.wrap (x + y))) ∧ w' = w := by
  have hx1 := hx.1
  have hx2 := hx.2
  have hy1 := hy.1
  have hy2 := hy.2
  have e6 : IntKind.u64.wrap (x + IntKind.u64.wrap (-y)) = IntKind.u64.wrap (x - y) := by simp only [wrap_mod]; omega
  replace e6 := Hid.mk' e6
  go_enter Try.func56, Try.ntmps56
  go_wp2
  all_goals
    go_ret
    refine ⟨?_, rfl⟩
    first | rfl | simp
set_option maxHeartbeats 1000000 in
theorem reckon6 {x y : Int} (w : World) (hx : U64 x) (hy : U64 y) : Calls Try.prog 56 #[.int .u8 6, .int .u64 x, .int .u64 y] w fun e w' => e = .returned (.int .u64 (IntKind.u64.wrap (x - y))) ∧ w' = w := by
  have hx1 := hx.1
  have hx2 := hx.2
  have hy1 := hy.1
  have hy2 := hy.2
  have e6 : IntKind.u64.wrap (x + IntKind.u64.wrap (-y)) = IntKind.u64.wrap (x - y) := by simp only [wrap_mod]; omega
  replace e6 := Hid.mk' e6
  go_enter Try.func56, Try.ntmps56
  go_wp2
  all_goals
    go_ret
    refine ⟨?_, rfl⟩
    exact congrArg (fun z => Ending.returned (Value.int IntKind.u64 z)) e6.out
set_option maxHeartbeats 1000000 in
theorem reckon7 {x y : Int} (w : World) (hx : U64 x) (hy : U64 y) : Calls Try.prog 56 #[.int .u8 7, .int .u64 x, .int .u64 y] w fun e w' => e = .returned (.int .u64 (IntKind.u64.wrap (x * y))) ∧ w' = w := by
  have hx1 := hx.1
  have hx2 := hx.2
  have hy1 := hy.1
  have hy2 := hy.2
  have e6 : IntKind.u64.wrap (x + IntKind.u64.wrap (-y)) = IntKind.u64.wrap (x - y) := by simp only [wrap_mod]; omega
  replace e6 := Hid.mk' e6
  go_enter Try.func56, Try.ntmps56
  go_wp2
  all_goals
    go_ret
    refine ⟨?_, rfl⟩
    first | rfl | simp
set_option maxHeartbeats 1000000 in
theorem reckon8 {x y : Int} (w : World) (hx : U64 x) (hy : U64 y) (h0 : y ≠ 0) : Calls Try.prog 56 #[.int .u8 8, .int .u64 x, .int .u64 y] w fun e w' => e = .returned (.int .u64 (x / y)) ∧ w' = w := by
  have hx1 := hx.1
  have hx2 := hx.2
  have hy1 := hy.1
  have hy2 := hy.2
  have e6 : IntKind.u64.wrap (x + IntKind.u64.wrap (-y)) = IntKind.u64.wrap (x - y) := by simp only [wrap_mod]; omega
  replace e6 := Hid.mk' e6
  go_enter Try.func56, Try.ntmps56
  go_wp2_with (go_at_call 71; go_must (refine (divisor_ok h0 _).mono ?_; rintro e w1 ⟨rfl, h⟩; replace h := h.symm; subst h))
  all_goals
    go_ret
    refine ⟨?_, rfl⟩
    first | rfl | simp
set_option maxHeartbeats 1000000 in
theorem reckon9 {x y : Int} (w : World) (hx : U64 x) (hy : U64 y) (h0 : y ≠ 0) : Calls Try.prog 56 #[.int .u8 9, .int .u64 x, .int .u64 y] w fun e w' => e = .returned (.int .u64 (x % y)) ∧ w' = w := by
  have hx1 := hx.1
  have hx2 := hx.2
  have hy1 := hy.1
  have hy2 := hy.2
  have e6 : IntKind.u64.wrap (x + IntKind.u64.wrap (-y)) = IntKind.u64.wrap (x - y) := by simp only [wrap_mod]; omega
  replace e6 := Hid.mk' e6
  go_enter Try.func56, Try.ntmps56
  go_wp2_with (go_at_call 71; go_must (refine (divisor_ok h0 _).mono ?_; rintro e w1 ⟨rfl, h⟩; replace h := h.symm; subst h))
  all_goals
    go_ret
    refine ⟨?_, rfl⟩
    first | rfl | simp
set_option maxHeartbeats 1000000 in
theorem reckon10 {x y : Int} (w : World) (hx : U64 x) (hy : U64 y) : Calls Try.prog 56 #[.int .u8 10, .int .u64 x, .int .u64 y] w fun e w' => e = .returned (.int .u64 (bits .and .u64 x y)) ∧ w' = w := by
  have hx1 := hx.1
  have hx2 := hx.2
  have hy1 := hy.1
  have hy2 := hy.2
  have e6 : IntKind.u64.wrap (x + IntKind.u64.wrap (-y)) = IntKind.u64.wrap (x - y) := by simp only [wrap_mod]; omega
  replace e6 := Hid.mk' e6
  go_enter Try.func56, Try.ntmps56
  go_wp2
  all_goals
    go_ret
    refine ⟨?_, rfl⟩
    first | rfl | simp
set_option maxHeartbeats 1000000 in
theorem reckon11 {x y : Int} (w : World) (hx : U64 x) (hy : U64 y) : Calls Try.prog 56 #[.int .u8 11, .int .u64 x, .int .u64 y] w fun e w' => e = .returned (.int .u64 (bits .or .u64 x y)) ∧ w' = w := by
  have hx1 := hx.1
  have hx2 := hx.2
  have hy1 := hy.1
  have hy2 := hy.2
  have e6 : IntKind.u64.wrap (x + IntKind.u64.wrap (-y)) = IntKind.u64.wrap (x - y) := by simp only [wrap_mod]; omega
  replace e6 := Hid.mk' e6
  go_enter Try.func56, Try.ntmps56
  go_wp2
  all_goals
    go_ret
    refine ⟨?_, rfl⟩
    first | rfl | simp
set_option maxHeartbeats 1000000 in
theorem reckon12 {x y : Int} (w : World) (hx : U64 x) (hy : U64 y) : Calls Try.prog 56 #[.int .u8 12, .int .u64 x, .int .u64 y] w fun e w' => e = .returned (.int .u64 (bits .xor .u64 x y)) ∧ w' = w := by
  have hx1 := hx.1
  have hx2 := hx.2
  have hy1 := hy.1
  have hy2 := hy.2
  have e6 : IntKind.u64.wrap (x + IntKind.u64.wrap (-y)) = IntKind.u64.wrap (x - y) := by simp only [wrap_mod]; omega
  replace e6 := Hid.mk' e6
  go_enter Try.func56, Try.ntmps56
  go_wp2
  all_goals
    go_ret
    refine ⟨?_, rfl⟩
    first | rfl | simp
set_option maxHeartbeats 1000000 in
theorem reckon13 {x y : Int} (w : World) (hx : U64 x) (hy : U64 y) : Calls Try.prog 56 #[.int .u8 13, .int .u64 x, .int .u64 y] w fun e w' => e = .returned (.int .u64 (sl64 x y)) ∧ w' = w := by
  have hx1 := hx.1
  have hx2 := hx.2
  have hy1 := hy.1
  have hy2 := hy.2
  have e6 : IntKind.u64.wrap (x + IntKind.u64.wrap (-y)) = IntKind.u64.wrap (x - y) := by simp only [wrap_mod]; omega
  replace e6 := Hid.mk' e6
  go_enter Try.func56, Try.ntmps56
  go_wp2
  all_goals
    go_ret
    refine ⟨?_, rfl⟩
    first | rfl | simp
set_option maxHeartbeats 1000000 in
theorem reckon14 {x y : Int} (w : World) (hx : U64 x) (hy : U64 y) : Calls Try.prog 56 #[.int .u8 14, .int .u64 x, .int .u64 y] w fun e w' => e = .returned (.int .u64 (sr64 x y)) ∧ w' = w := by
  have hx1 := hx.1
  have hx2 := hx.2
  have hy1 := hy.1
  have hy2 := hy.2
  have e6 : IntKind.u64.wrap (x + IntKind.u64.wrap (-y)) = IntKind.u64.wrap (x - y) := by simp only [wrap_mod]; omega
  replace e6 := Hid.mk' e6
  go_enter Try.func56, Try.ntmps56
  go_wp2
  all_goals
    go_ret
    refine ⟨?_, rfl⟩
    first | rfl | simp
set_option maxHeartbeats 1000000 in
theorem reckon15 {x y : Int} (w : World) (hx : U64 x) (hy : U64 y) : Calls Try.prog 56 #[.int .u8 15, .int .u64 x, .int .u64 y] w fun e w' => e = .returned (.int .u64 (if x < y then 1 else 0)) ∧ w' = w := by
  have hx1 := hx.1
  have hx2 := hx.2
  have hy1 := hy.1
  have hy2 := hy.2
  have e6 : IntKind.u64.wrap (x + IntKind.u64.wrap (-y)) = IntKind.u64.wrap (x - y) := by simp only [wrap_mod]; omega
  replace e6 := Hid.mk' e6
  go_enter Try.func56, Try.ntmps56
  go_wp2_with (go_at_call 72; go_must (refine (truth_any _ _).mono ?_; rintro e w1 ⟨rfl, h⟩; replace h := h.symm; subst h))
  all_goals
    go_ret
    refine ⟨?_, rfl⟩
    first | rfl | simp
set_option maxHeartbeats 1000000 in
theorem reckon16 {x y : Int} (w : World) (hx : U64 x) (hy : U64 y) : Calls Try.prog 56 #[.int .u8 16, .int .u64 x, .int .u64 y] w fun e w' => e = .returned (.int .u64 (if x = y then 1 else 0)) ∧ w' = w := by
  have hx1 := hx.1
  have hx2 := hx.2
  have hy1 := hy.1
  have hy2 := hy.2
  have e6 : IntKind.u64.wrap (x + IntKind.u64.wrap (-y)) = IntKind.u64.wrap (x - y) := by simp only [wrap_mod]; omega
  replace e6 := Hid.mk' e6
  go_enter Try.func56, Try.ntmps56
  go_wp2_with (go_at_call 72; go_must (refine (truth_any _ _).mono ?_; rintro e w1 ⟨rfl, h⟩; replace h := h.symm; subst h))
  all_goals
    go_ret
    refine ⟨?_, rfl⟩
    first | rfl | simp

theorem reckon_ok {op x y z : Int} (w : World) (ho : 5 ≤ op ∧ op ≤ 16) (hx : U64 x) (hy : U64 y) (hz : rk op x y = some z) :
    Calls Try.prog 56 #[.int .u8 op, .int .u64 x, .int .u64 y] w fun e w' => e = .returned (.int .u64 z) ∧ w' = w := by
  rcases ops12 ho with rfl | rfl | rfl | rfl | rfl | rfl | rfl | rfl | rfl | rfl | rfl | rfl
  · rw [← show IntKind.u64.wrap (x + y) = z by simpa [rk] using hz]; exact reckon5 w hx hy
  · rw [← show IntKind.u64.wrap (x - y) = z by simpa [rk] using hz]; exact reckon6 w hx hy
  · rw [← show IntKind.u64.wrap (x * y) = z by simpa [rk] using hz]; exact reckon7 w hx hy
  · have hz' : ¬ y = 0 ∧ x / y = z := by simpa [rk] using hz
    rw [← hz'.2]; exact reckon8 w hx hy hz'.1
  · have hz' : ¬ y = 0 ∧ x % y = z := by simpa [rk] using hz
    rw [← hz'.2]; exact reckon9 w hx hy hz'.1
  · rw [← show bits .and .u64 x y = z by simpa [rk] using hz]; exact reckon10 w hx hy
  · rw [← show bits .or .u64 x y = z by simpa [rk] using hz]; exact reckon11 w hx hy
  · rw [← show bits .xor .u64 x y = z by simpa [rk] using hz]; exact reckon12 w hx hy
  · rw [← show sl64 x y = z by simpa [rk] using hz]; exact reckon13 w hx hy
  · rw [← show sr64 x y = z by simpa [rk] using hz]; exact reckon14 w hx hy
  · rw [← show (if x < y then 1 else 0) = z by simpa [rk] using hz]; exact reckon15 w hx hy
  · rw [← show (if x = y then 1 else 0) = z by simpa [rk] using hz]; exact reckon16 w hx hy
set_option maxHeartbeats 1000000 in
theorem reckon_no {op x y : Int} (w : World) (ho : 5 ≤ op ∧ op ≤ 16) (hz : rk op x y = none) :
    Calls Try.prog 56 #[.int .u8 op, .int .u64 x, .int .u64 y] w fun e w' => e = .panicked trapV ∧ w' = w := by
  obtain ⟨h, rfl⟩ := rk_none ho hz
  rcases h with rfl | rfl
  · clear hz
    go_enter Try.func56, Try.ntmps56
    go_wp2_with (go_at_call 71; go_must (refine (divisor_no _).mono ?_; rintro e w1 ⟨rfl, rfl⟩))
    exact ⟨rfl, rfl, rfl⟩
  · clear hz
    go_enter Try.func56, Try.ntmps56
    go_wp2_with (go_at_call 71; go_must (refine (divisor_no _).mono ?_; rintro e w1 ⟨rfl, rfl⟩))
    exact ⟨rfl, rfl, rfl⟩
end Go.Proofs.Ytnjbmffgbgbjmaa
