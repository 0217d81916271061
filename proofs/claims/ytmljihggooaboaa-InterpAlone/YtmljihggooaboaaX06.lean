/- Layer interp: what two words make, by the document. -/
import Derived.Test.YtmljihggooaboaaX01
import Derived.Handy
import Derived.BigQuiet
import Derived.BigRegion
namespace Go.Proofs.Ytmljihggooaboaa
open Go.RowKit
set_option maxRecDepth 100000
set_option linter.unusedVariables false
set_option linter.unusedSimpArgs false

set_option maxHeartbeats 1000000 in
theorem arI5 {x y : Int} (w : World) (hx : U64 x) (hy : U64 y) : Calls Try.prog 21 #[.int .u8 5, .int .u64 x, .int .u64 y] w fun e w' => e = .returned (.tuple #[.int .u64 ((rk 5 x y).getD 0), .bool (rk 5 x y).isSome]) ∧ w' = w := by
  have hx1 := hx.1
  have hx2 := hx.2
  have hy1 := hy.1
  have hy2 := hy.2
  have hL := @sl64_big x y
  have hR := @sr64_big x y hx
  obtain ⟨o, hop⟩ : ∃ o, o = rk 5 x y := ⟨_, rfl⟩
  rw [← hop]
  replace hop := hid hop
  replace hL := hid hL
  replace hR := hid hR
  go_enter Try.func21, Try.ntmps21
  go_wp2
  all_goals
    go_ret2
    rw [hop.out]
    have hL' := hL.out
    have hR' := hR.out
    refine ⟨?_, rfl⟩
    simp_all [rk]
set_option maxHeartbeats 1000000 in
theorem arI6 {x y : Int} (w : World) (hx : U64 x) (hy : U64 y) : Calls Try.prog 21 #[.int .u8 6, .int .u64 x, .int .u64 y] w fun e w' => e = .returned (.tuple #[.int .u64 ((rk 6 x y).getD 0), .bool (rk 6 x y).isSome]) ∧ w' = w := by
  have hx1 := hx.1
  have hx2 := hx.2
  have hy1 := hy.1
  have hy2 := hy.2
  have hL := @sl64_big x y
  have hR := @sr64_big x y hx
  obtain ⟨o, hop⟩ : ∃ o, o = rk 6 x y := ⟨_, rfl⟩
  rw [← hop]
  replace hop := hid hop
  replace hL := hid hL
  replace hR := hid hR
  go_enter Try.func21, Try.ntmps21
  go_wp2
  all_goals
    go_ret2
    rw [hop.out]
    have hL' := hL.out
    have hR' := hR.out
    refine ⟨?_, rfl⟩
    simp_all [rk]
set_option maxHeartbeats 1000000 in
theorem arI7 {x y : Int} (w : World) (hx : U64 x) (hy : U64 y) : Calls Try.prog 21 #[.int .u8 7, .int .u64 x, .int .u64 y] w fun e w' => e = .returned (.tuple #[.int .u64 ((rk 7 x y).getD 0), .bool (rk 7 x y).isSome]) ∧ w' = w := by
  have hx1 := hx.1
  have hx2 := hx.2
  have hy1 := hy.1
  have hy2 := hy.2
  have hL := @sl64_big x y
  have hR := @sr64_big x y hx
  obtain ⟨o, hop⟩ : ∃ o, o = rk 7 x y := ⟨_, rfl⟩
  rw [← hop]
  replace hop := hid hop
  replace hL := hid hL
  replace hR := hid hR
  go_enter Try.func21, Try.ntmps21
  go_wp2
  all_goals
    go_ret2
    rw [hop.out]
    have hL' := hL.out
    have hR' := hR.out
    refine ⟨?_, rfl⟩
    simp_all [rk]
set_option maxHeartbeats 1000000 in
theorem arI8 {x y : Int} (w : World) (hx : U64 x) (hy : U64 y) : Calls Try.prog 21 #[.int .u8 8, .int .u64 x, .int .u64 y] w fun e w' => e = .returned (.tuple #[.int .u64 ((rk 8 x y).getD 0), .bool (rk 8 x y).isSome]) ∧ w' = w := by
  have hx1 := hx.1
  have hx2 := hx.2
  have hy1 := hy.1
  have hy2 := hy.2
  have hL := @sl64_big x y
  have hR := @sr64_big x y hx
  obtain ⟨o, hop⟩ : ∃ o, o = rk 8 x y := ⟨_, rfl⟩
  rw [← hop]
  replace hop := hid hop
  replace hL := hid hL
  replace hR := hid hR
  by_cases h0 : y = 0
  · subst h0
    go_enter Try.func21, Try.ntmps21
    go_wp2
    all_goals
      go_ret2
      rw [hop.out]
      have hL' := hL.out
      have hR' := hR.out
      refine ⟨?_, rfl⟩
      simp_all [rk]
  · have h1 : (y == 0) = false := by simpa using h0
    go_enter Try.func21, Try.ntmps21
    go_wp2
    all_goals
      go_ret2
      rw [hop.out]
      have hL' := hL.out
      have hR' := hR.out
      refine ⟨?_, rfl⟩
      simp_all [rk]
set_option maxHeartbeats 1000000 in
theorem arI9 {x y : Int} (w : World) (hx : U64 x) (hy : U64 y) : Calls Try.prog 21 #[.int .u8 9, .int .u64 x, .int .u64 y] w fun e w' => e = .returned (.tuple #[.int .u64 ((rk 9 x y).getD 0), .bool (rk 9 x y).isSome]) ∧ w' = w := by
  have hx1 := hx.1
  have hx2 := hx.2
  have hy1 := hy.1
  have hy2 := hy.2
  have hL := @sl64_big x y
  have hR := @sr64_big x y hx
  obtain ⟨o, hop⟩ : ∃ o, o = rk 9 x y := ⟨_, rfl⟩
  rw [← hop]
  replace hop := hid hop
  replace hL := hid hL
  replace hR := hid hR
  by_cases h0 : y = 0
  · subst h0
    go_enter Try.func21, Try.ntmps21
    go_wp2
    all_goals
      go_ret2
      rw [hop.out]
      have hL' := hL.out
      have hR' := hR.out
      refine ⟨?_, rfl⟩
      simp_all [rk]
  · have h1 : (y == 0) = false := by simpa using h0
    go_enter Try.func21, Try.ntmps21
    go_wp2
    all_goals
      go_ret2
      rw [hop.out]
      have hL' := hL.out
      have hR' := hR.out
      refine ⟨?_, rfl⟩
      simp_all [rk]
set_option maxHeartbeats 1000000 in
theorem arI10 {x y : Int} (w : World) (hx : U64 x) (hy : U64 y) : Calls Try.prog 21 #[.int .u8 10, .int .u64 x, .int .u64 y] w fun e w' => e = .returned (.tuple #[.int .u64 ((rk 10 x y).getD 0), .bool (rk 10 x y).isSome]) ∧ w' = w := by
  have hx1 := hx.1
  have hx2 := hx.2
  have hy1 := hy.1
  have hy2 := hy.2
  have hL := @sl64_big x y
  have hR := @sr64_big x y hx
  obtain ⟨o, hop⟩ : ∃ o, o = rk 10 x y := ⟨_, rfl⟩
  rw [← hop]
  replace hop := hid hop
  replace hL := hid hL
  replace hR := hid hR
  go_enter Try.func21, Try.ntmps21
  go_wp2
  all_goals
    go_ret2
    rw [hop.out]
    have hL' := hL.out
    have hR' := hR.out
    refine ⟨?_, rfl⟩
    simp_all [rk]
set_option maxHeartbeats 1000000 in
theorem arI11 {x y : Int} (w : World) (hx : U64 x) (hy : U64 y) : Calls Try.prog 21 #[.int .u8 11, .int .u64 x, .int .u64 y] w fun e w' => e = .returned (.tuple #[.int .u64 ((rk 11 x y).getD 0), .bool (rk 11 x y).isSome]) ∧ w' = w := by
  have hx1 := hx.1
  have hx2 := hx.2
  have hy1 := hy.1
  have hy2 := hy.2
  have hL := @sl64_big x y
  have hR := @sr64_big x y hx
  obtain ⟨o, hop⟩ : ∃ o, o = rk 11 x y := ⟨_, rfl⟩
  rw [← hop]
  replace hop := hid hop
  replace hL := hid hL
  replace hR := hid hR
  go_enter Try.func21, Try.ntmps21
  go_wp2
  all_goals
    go_ret2
    rw [hop.out]
    have hL' := hL.out
    have hR' := hR.out
    refine ⟨?_, rfl⟩
    simp_all [rk]
set_option maxHeartbeats 1000000 in
theorem arI12 {x y : Int} (w : World) (hx : U64 x) (hy : U64 y) : Calls Try.prog 21 #[.int .u8 12, .int .u64 x, .int .u64 y] w fun e w' => e = .returned (.tuple #[.int .u64 ((rk 12 x y).getD 0), .bool (rk 12 x y).isSome]) ∧ w' = w := by
  have hx1 := hx.1
  have hx2 := hx.2
  have hy1 := hy.1
  have hy2 := hy.2
  have hL := @sl64_big x y
  have hR := @sr64_big x y hx
  obtain ⟨o, hop⟩ : ∃ o, o = rk 12 x y := ⟨_, rfl⟩
  rw [← hop]
  replace hop := hid hop
  replace hL := hid hL
  replace hR := hid hR
  go_enter Try.func21, Try.ntmps21
  go_wp2
  all_goals
    go_ret2
    rw [hop.out]
    have hL' := hL.out
    have hR' := hR.out
    refine ⟨?_, rfl⟩
    simp_all [rk]
set_option maxHeartbeats 1000000 in
theorem arI13 {x y : Int} (w : World) (hx : U64 x) (hy : U64 y) : Calls Try.prog 21 #[.int .u8 13, .int .u64 x, .int .u64 y] w fun e w' => e = .returned (.tuple #[.int .u64 ((rk 13 x y).getD 0), .bool (rk 13 x y).isSome]) ∧ w' = w := by
  have hx1 := hx.1
  have hx2 := hx.2
  have hy1 := hy.1
  have hy2 := hy.2
  have hL := @sl64_big x y
  have hR := @sr64_big x y hx
  obtain ⟨o, hop⟩ : ∃ o, o = rk 13 x y := ⟨_, rfl⟩
  rw [← hop]
  replace hop := hid hop
  replace hL := hid hL
  replace hR := hid hR
  go_enter Try.func21, Try.ntmps21
  go_wp2
  all_goals
    go_ret2
    rw [hop.out]
    have hL' := hL.out
    have hR' := hR.out
    refine ⟨?_, rfl⟩
    simp_all [rk, sl64]
    all_goals rw [Nat.min_eq_left (by omega)]
set_option maxHeartbeats 1000000 in
theorem arI14 {x y : Int} (w : World) (hx : U64 x) (hy : U64 y) : Calls Try.prog 21 #[.int .u8 14, .int .u64 x, .int .u64 y] w fun e w' => e = .returned (.tuple #[.int .u64 ((rk 14 x y).getD 0), .bool (rk 14 x y).isSome]) ∧ w' = w := by
  have hx1 := hx.1
  have hx2 := hx.2
  have hy1 := hy.1
  have hy2 := hy.2
  have hL := @sl64_big x y
  have hR := @sr64_big x y hx
  obtain ⟨o, hop⟩ : ∃ o, o = rk 14 x y := ⟨_, rfl⟩
  rw [← hop]
  replace hop := hid hop
  replace hL := hid hL
  replace hR := hid hR
  go_enter Try.func21, Try.ntmps21
  go_wp2
  all_goals
    go_ret2
    rw [hop.out]
    have hL' := hL.out
    have hR' := hR.out
    refine ⟨?_, rfl⟩
    simp_all [rk, sr64]
    all_goals rw [Nat.min_eq_left (by omega)]
set_option maxHeartbeats 1000000 in
theorem arI15 {x y : Int} (w : World) (hx : U64 x) (hy : U64 y) : Calls Try.prog 21 #[.int .u8 15, .int .u64 x, .int .u64 y] w fun e w' => e = .returned (.tuple #[.int .u64 ((rk 15 x y).getD 0), .bool (rk 15 x y).isSome]) ∧ w' = w := by
  have hx1 := hx.1
  have hx2 := hx.2
  have hy1 := hy.1
  have hy2 := hy.2
  have hL := @sl64_big x y
  have hR := @sr64_big x y hx
  obtain ⟨o, hop⟩ : ∃ o, o = rk 15 x y := ⟨_, rfl⟩
  rw [← hop]
  replace hop := hid hop
  replace hL := hid hL
  replace hR := hid hR
  go_enter Try.func21, Try.ntmps21
  go_wp2
  all_goals
    go_ret2
    rw [hop.out]
    have hL' := hL.out
    have hR' := hR.out
    refine ⟨?_, rfl⟩
    simp_all [rk]
set_option maxHeartbeats 1000000 in
theorem arI16 {x y : Int} (w : World) (hx : U64 x) (hy : U64 y) : Calls Try.prog 21 #[.int .u8 16, .int .u64 x, .int .u64 y] w fun e w' => e = .returned (.tuple #[.int .u64 ((rk 16 x y).getD 0), .bool (rk 16 x y).isSome]) ∧ w' = w := by
  have hx1 := hx.1
  have hx2 := hx.2
  have hy1 := hy.1
  have hy2 := hy.2
  have hL := @sl64_big x y
  have hR := @sr64_big x y hx
  obtain ⟨o, hop⟩ : ∃ o, o = rk 16 x y := ⟨_, rfl⟩
  rw [← hop]
  replace hop := hid hop
  replace hL := hid hL
  replace hR := hid hR
  go_enter Try.func21, Try.ntmps21
  go_wp2
  all_goals
    go_ret2
    rw [hop.out]
    have hL' := hL.out
    have hR' := hR.out
    refine ⟨?_, rfl⟩
    simp_all [rk]
theorem arI_any {op x y : Int} (w : World) (ho : 5 ≤ op ∧ op ≤ 16) (hx : U64 x) (hy : U64 y) :
    Calls Try.prog 21 #[.int .u8 op, .int .u64 x, .int .u64 y] w fun e w' => e = .returned (.tuple #[.int .u64 ((rk op x y).getD 0), .bool (rk op x y).isSome]) ∧ w' = w := by
  rcases ops12 ho with rfl | rfl | rfl | rfl | rfl | rfl | rfl | rfl | rfl | rfl | rfl | rfl
  · exact arI5 w hx hy
  · exact arI6 w hx hy
  · exact arI7 w hx hy
  · exact arI8 w hx hy
  · exact arI9 w hx hy
  · exact arI10 w hx hy
  · exact arI11 w hx hy
  · exact arI12 w hx hy
  · exact arI13 w hx hy
  · exact arI14 w hx hy
  · exact arI15 w hx hy
  · exact arI16 w hx hy
end Go.Proofs.Ytmljihggooaboaa
