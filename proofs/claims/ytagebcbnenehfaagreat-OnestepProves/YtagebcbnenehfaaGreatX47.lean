/- QWd, QVc. -/
import Derived.Test.YtagebcbnenehfaaGreatX30
namespace Go.Proofs.YtagebcbnenehfaaGreat
open Go.RowKit
set_option maxRecDepth 100000
set_option linter.unusedVariables false
set_option linter.unusedSimpArgs false
set_option maxHeartbeats 40000000
theorem refMay_any (m : Mc) (sp : Option Addr) (n cap : Nat) (w : World) (hok : m.ok) (hl : Hid (n = m.me.length)) (hn : n ≤ 17592186044416) :
   Calls Tryz.prog 33 #[.agg (mcA m sp n cap)] w fun e w' => e = .returned (.bool (mayM m)) ∧ Below w.heap.size w w' := by
 have A0 := Arr.new w 27 (mcA m sp n cap)
 have c17 := (A0.cell 17).trans (mcA_17 hok.r16 sp n cap)
 have c18 := (A0.cell 18).trans (mcA_18 hok.r16 sp n cap)
 have hz : szI (n : Int) = szB m.me.length := by rw [szI_nat, hl.out]
 have hz := Hid.mk' hz
 unfold mayM
 generalize szB m.me.length = b at *
 generalize mcA m sp n cap = C at *
 cases b
 · go_enter Tryz.func33, Tryz.ntmps33
   go_wp2_with (go_at_call 82; go_must (refine (refSize_any _ _ (by omega)).mono ?_; rintro e w1 ⟨rfl, h⟩; subst h; rw [hz.out]))
   go_ret
   exact ⟨rfl, alloc_bel' _ _⟩
 · go_enter Tryz.func33, Tryz.ntmps33
   go_wp2_with (go_at_call 82; go_must (refine (refSize_any _ _ (by omega)).mono ?_; rintro e w1 ⟨rfl, h⟩; subst h; rw [hz.out]))
   go_ret
   exact ⟨rfl, alloc_bel' _ _⟩
theorem arith5 {x y : Int} (w : World) (hx : U64 x) (hy : U64 y) : Calls Tryz.prog 98 #[.int .u8 5, .int .u64 x, .int .u64 y] w fun e w' => e = .returned (.tuple #[.int .u64 ((rk 5 x y).getD 0), .bool (rk 5 x y).isSome]) ∧ w' = w := by
 have hx1 := hx.1
 have hx2 := hx.2
 have hy1 := hy.1
 have hy2 := hy.2
 have hL := @sl64_big x y
 have hR := @sr64_big x y hx
 obtain ⟨o, hop⟩ : ∃ o, o = rk 5 x y := ⟨_, rfl⟩
 rw [← hop]
 replace hop := Hid.mk' hop
 replace hL := Hid.mk' hL
 replace hR := Hid.mk' hR
 go_enter Tryz.func98, Tryz.ntmps98
 go_wp2
 all_goals
   go_ret2
   rw [hop.out]
   have hL' := hL.out
   have hR' := hR.out
   refine ⟨?_, rfl⟩
   simp_all [rk]
theorem arith6 {x y : Int} (w : World) (hx : U64 x) (hy : U64 y) : Calls Tryz.prog 98 #[.int .u8 6, .int .u64 x, .int .u64 y] w fun e w' => e = .returned (.tuple #[.int .u64 ((rk 6 x y).getD 0), .bool (rk 6 x y).isSome]) ∧ w' = w := by
 have hx1 := hx.1
 have hx2 := hx.2
 have hy1 := hy.1
 have hy2 := hy.2
 have hL := @sl64_big x y
 have hR := @sr64_big x y hx
 obtain ⟨o, hop⟩ : ∃ o, o = rk 6 x y := ⟨_, rfl⟩
 rw [← hop]
 replace hop := Hid.mk' hop
 replace hL := Hid.mk' hL
 replace hR := Hid.mk' hR
 go_enter Tryz.func98, Tryz.ntmps98
 go_wp2
 all_goals
   go_ret2
   rw [hop.out]
   have hL' := hL.out
   have hR' := hR.out
   refine ⟨?_, rfl⟩
   simp_all [rk]
theorem arith7 {x y : Int} (w : World) (hx : U64 x) (hy : U64 y) : Calls Tryz.prog 98 #[.int .u8 7, .int .u64 x, .int .u64 y] w fun e w' => e = .returned (.tuple #[.int .u64 ((rk 7 x y).getD 0), .bool (rk 7 x y).isSome]) ∧ w' = w := by
 have hx1 := hx.1
 have hx2 := hx.2
 have hy1 := hy.1
 have hy2 := hy.2
 have hL := @sl64_big x y
 have hR := @sr64_big x y hx
 obtain ⟨o, hop⟩ : ∃ o, o = rk 7 x y := ⟨_, rfl⟩
 rw [← hop]
 replace hop := Hid.mk' hop
 replace hL := Hid.mk' hL
 replace hR := Hid.mk' hR
 go_enter Tryz.func98, Tryz.ntmps98
 go_wp2
 all_goals
   go_ret2
   rw [hop.out]
   have hL' := hL.out
   have hR' := hR.out
   refine ⟨?_, rfl⟩
   simp_all [rk]
theorem arith8 {x y : Int} (w : World) (hx : U64 x) (hy : U64 y) : Calls Tryz.prog 98 #[.int .u8 8, .int .u64 x, .int .u64 y] w fun e w' => e = .returned (.tuple #[.int .u64 ((rk 8 x y).getD 0), .bool (rk 8 x y).isSome]) ∧ w' = w := by
 have hx1 := hx.1
 have hx2 := hx.2
 have hy1 := hy.1
 have hy2 := hy.2
 have hL := @sl64_big x y
 have hR := @sr64_big x y hx
 obtain ⟨o, hop⟩ : ∃ o, o = rk 8 x y := ⟨_, rfl⟩
 rw [← hop]
 replace hop := Hid.mk' hop
 replace hL := Hid.mk' hL
 replace hR := Hid.mk' hR
 by_cases h0 : y = 0
 · subst h0
   go_enter Tryz.func98, Tryz.ntmps98
   go_wp2
   all_goals
     go_ret2
     rw [hop.out]
     have hL' := hL.out
     have hR' := hR.out
     refine ⟨?_, rfl⟩
     simp_all [rk]
 · have h1 : (y == 0) = false := by simpa using h0
   go_enter Tryz.func98, Tryz.ntmps98
   go_wp2
   all_goals
     go_ret2
     rw [hop.out]
     have hL' := hL.out
     have hR' := hR.out
     refine ⟨?_, rfl⟩
     simp_all [rk]
theorem arith9 {x y : Int} (w : World) (hx : U64 x) (hy : U64 y) : Calls Tryz.prog 98 #[.int .u8 9, .int .u64 x, .int .u64 y] w fun e w' => e = .returned (.tuple #[.int .u64 ((rk 9 x y).getD 0), .bool (rk 9 x y).isSome]) ∧ w' = w := by
 have hx1 := hx.1
 have hx2 := hx.2
 have hy1 := hy.1
 have hy2 := hy.2
 have hL := @sl64_big x y
 have hR := @sr64_big x y hx
 obtain ⟨o, hop⟩ : ∃ o, o = rk 9 x y := ⟨_, rfl⟩
 rw [← hop]
 replace hop := Hid.mk' hop
 replace hL := Hid.mk' hL
 replace hR := Hid.mk' hR
 by_cases h0 : y = 0
 · subst h0
   go_enter Tryz.func98, Tryz.ntmps98
   go_wp2
   all_goals
     go_ret2
     rw [hop.out]
     have hL' := hL.out
     have hR' := hR.out
     refine ⟨?_, rfl⟩
     simp_all [rk]
 · have h1 : (y == 0) = false := by simpa using h0
   go_enter Tryz.func98, Tryz.ntmps98
   go_wp2
   all_goals
     go_ret2
     rw [hop.out]
     have hL' := hL.out
     have hR' := hR.out
     refine ⟨?_, rfl⟩
     simp_all [rk]
theorem arith10 {x y : Int} (w : World) (hx : U64 x) (hy : U64 y) : Calls Tryz.prog 98 #[.int .u8 10, .int .u64 x, .int .u64 y] w fun e w' => e = .returned (.tuple #[.int .u64 ((rk 10 x y).getD 0), .bool (rk 10 x y).isSome]) ∧ w' = w := by
 have hx1 := hx.1
 have hx2 := hx.2
 have hy1 := hy.1
 have hy2 := hy.2
 have hL := @sl64_big x y
 have hR := @sr64_big x y hx
 obtain ⟨o, hop⟩ : ∃ o, o = rk 10 x y := ⟨_, rfl⟩
 rw [← hop]
 replace hop := Hid.mk' hop
 replace hL := Hid.mk' hL
 replace hR := Hid.mk' hR
 go_enter Tryz.func98, Tryz.ntmps98
 go_wp2
 all_goals
   go_ret2
   rw [hop.out]
   have hL' := hL.out
   have hR' := hR.out
   refine ⟨?_, rfl⟩
   simp_all [rk]
theorem arith11 {x y : Int} (w : World) (hx : U64 x) (hy : U64 y) : Calls Tryz.prog 98 #[.int .u8 11, .int .u64 x, .int .u64 y] w fun e w' => e = .returned (.tuple #[.int .u64 ((rk 11 x y).getD 0), .bool (rk 11 x y).isSome]) ∧ w' = w := by
 have hx1 := hx.1
 have hx2 := hx.2
 have hy1 := hy.1
 have hy2 := hy.2
 have hL := @sl64_big x y
 have hR := @sr64_big x y hx
 obtain ⟨o, hop⟩ : ∃ o, o = rk 11 x y := ⟨_, rfl⟩
 rw [← hop]
 replace hop := Hid.mk' hop
 replace hL := Hid.mk' hL
 replace hR := Hid.mk' hR
 go_enter Tryz.func98, Tryz.ntmps98
 go_wp2
 all_goals
   go_ret2
   rw [hop.out]
   have hL' := hL.out
   have hR' := hR.out
   refine ⟨?_, rfl⟩
   simp_all [rk]
theorem arith12 {x y : Int} (w : World) (hx : U64 x) (hy : U64 y) : Calls Tryz.prog 98 #[.int .u8 12, .int .u64 x, .int .u64 y] w fun e w' => e = .returned (.tuple #[.int .u64 ((rk 12 x y).getD 0), .bool (rk 12 x y).isSome]) ∧ w' = w := by
 have hx1 := hx.1
 have hx2 := hx.2
 have hy1 := hy.1
 have hy2 := hy.2
 have hL := @sl64_big x y
 have hR := @sr64_big x y hx
 obtain ⟨o, hop⟩ : ∃ o, o = rk 12 x y := ⟨_, rfl⟩
 rw [← hop]
 replace hop := Hid.mk' hop
 replace hL := Hid.mk' hL
 replace hR := Hid.mk' hR
 go_enter Tryz.func98, Tryz.ntmps98
 go_wp2
 all_goals
   go_ret2
   rw [hop.out]
   have hL' := hL.out
   have hR' := hR.out
   refine ⟨?_, rfl⟩
   simp_all [rk]
theorem arith13 {x y : Int} (w : World) (hx : U64 x) (hy : U64 y) : Calls Tryz.prog 98 #[.int .u8 13, .int .u64 x, .int .u64 y] w fun e w' => e = .returned (.tuple #[.int .u64 ((rk 13 x y).getD 0), .bool (rk 13 x y).isSome]) ∧ w' = w := by
 have hx1 := hx.1
 have hx2 := hx.2
 have hy1 := hy.1
 have hy2 := hy.2
 have hL := @sl64_big x y
 have hR := @sr64_big x y hx
 obtain ⟨o, hop⟩ : ∃ o, o = rk 13 x y := ⟨_, rfl⟩
 rw [← hop]
 replace hop := Hid.mk' hop
 replace hL := Hid.mk' hL
 replace hR := Hid.mk' hR
 go_enter Tryz.func98, Tryz.ntmps98
 go_wp2
 all_goals
   go_ret2
   rw [hop.out]
   have hL' := hL.out
   have hR' := hR.out
   refine ⟨?_, rfl⟩
   simp_all [rk, sl64]
   all_goals rw [Nat.min_eq_left (by omega)]
theorem arith14 {x y : Int} (w : World) (hx : U64 x) (hy : U64 y) : Calls Tryz.prog 98 #[.int .u8 14, .int .u64 x, .int .u64 y] w fun e w' => e = .returned (.tuple #[.int .u64 ((rk 14 x y).getD 0), .bool (rk 14 x y).isSome]) ∧ w' = w := by
 have hx1 := hx.1
 have hx2 := hx.2
 have hy1 := hy.1
 have hy2 := hy.2
 have hL := @sl64_big x y
 have hR := @sr64_big x y hx
 obtain ⟨o, hop⟩ : ∃ o, o = rk 14 x y := ⟨_, rfl⟩
 rw [← hop]
 replace hop := Hid.mk' hop
 replace hL := Hid.mk' hL
 replace hR := Hid.mk' hR
 go_enter Tryz.func98, Tryz.ntmps98
 go_wp2
 all_goals
   go_ret2
   rw [hop.out]
   have hL' := hL.out
   have hR' := hR.out
   refine ⟨?_, rfl⟩
   simp_all [rk, sr64]
   all_goals rw [Nat.min_eq_left (by omega)]
theorem arith15 {x y : Int} (w : World) (hx : U64 x) (hy : U64 y) : Calls Tryz.prog 98 #[.int .u8 15, .int .u64 x, .int .u64 y] w fun e w' => e = .returned (.tuple #[.int .u64 ((rk 15 x y).getD 0), .bool (rk 15 x y).isSome]) ∧ w' = w := by
 have hx1 := hx.1
 have hx2 := hx.2
 have hy1 := hy.1
 have hy2 := hy.2
 have hL := @sl64_big x y
 have hR := @sr64_big x y hx
 obtain ⟨o, hop⟩ : ∃ o, o = rk 15 x y := ⟨_, rfl⟩
 rw [← hop]
 replace hop := Hid.mk' hop
 replace hL := Hid.mk' hL
 replace hR := Hid.mk' hR
 go_enter Tryz.func98, Tryz.ntmps98
 go_wp2
 all_goals
   go_ret2
   rw [hop.out]
   have hL' := hL.out
   have hR' := hR.out
   refine ⟨?_, rfl⟩
   simp_all [rk]
theorem arith16 {x y : Int} (w : World) (hx : U64 x) (hy : U64 y) : Calls Tryz.prog 98 #[.int .u8 16, .int .u64 x, .int .u64 y] w fun e w' => e = .returned (.tuple #[.int .u64 ((rk 16 x y).getD 0), .bool (rk 16 x y).isSome]) ∧ w' = w := by
 have hx1 := hx.1
 have hx2 := hx.2
 have hy1 := hy.1
 have hy2 := hy.2
 have hL := @sl64_big x y
 have hR := @sr64_big x y hx
 obtain ⟨o, hop⟩ : ∃ o, o = rk 16 x y := ⟨_, rfl⟩
 rw [← hop]
 replace hop := Hid.mk' hop
 replace hL := Hid.mk' hL
 replace hR := Hid.mk' hR
 go_enter Tryz.func98, Tryz.ntmps98
 go_wp2
 all_goals
   go_ret2
   rw [hop.out]
   have hL' := hL.out
   have hR' := hR.out
   refine ⟨?_, rfl⟩
   simp_all [rk]
theorem arith_any {op x y : Int} (w : World) (ho : 5 ≤ op ∧ op ≤ 16) (hx : U64 x) (hy : U64 y) :
   Calls Tryz.prog 98 #[.int .u8 op, .int .u64 x, .int .u64 y] w fun e w' => e = .returned (.tuple #[.int .u64 ((rk op x y).getD 0), .bool (rk op x y).isSome]) ∧ w' = w := by
 rcases ops12 ho with rfl | rfl | rfl | rfl | rfl | rfl | rfl | rfl | rfl | rfl | rfl | rfl
 · exact arith5 w hx hy
 · exact arith6 w hx hy
 · exact arith7 w hx hy
 · exact arith8 w hx hy
 · exact arith9 w hx hy
 · exact arith10 w hx hy
 · exact arith11 w hx hy
 · exact arith12 w hx hy
 · exact arith13 w hx hy
 · exact arith14 w hx hy
 · exact arith15 w hx hy
 · exact arith16 w hx hy
end Go.Proofs.YtagebcbnenehfaaGreat
