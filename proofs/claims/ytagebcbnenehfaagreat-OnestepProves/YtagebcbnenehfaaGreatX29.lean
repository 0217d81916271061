/- QVb, QVo8, QVq, QVr, QVs, QVt, QVu. -/
import Derived.Test.YtagebcbnenehfaaGreatX24
import Derived.Test.YtagebcbnenehfaaGreatX25
import Derived.Test.YtagebcbnenehfaaGreatX26
import Derived.Test.YtagebcbnenehfaaGreatX27
import Derived.Test.YtagebcbnenehfaaGreatX28
namespace Go.Proofs.YtagebcbnenehfaaGreat
open Go.RowKit
set_option maxRecDepth 100000
set_option linter.unusedVariables false
set_option linter.unusedSimpArgs false
set_option maxHeartbeats 40000000
theorem divisor_ok {y : Int} (h : y ≠ 0) (w : World) : Calls Tryz.prog 209 #[.int .u64 y] w fun e w' => e = .returned (.int .u64 y) ∧ w' = w := by
 have h1 : (y == 0) = false := by simpa using h
 go_enter Tryz.func209, Tryz.ntmps209
 go_wp2
 go_ret
 exact ⟨rfl, rfl⟩
theorem divisor_no (w : World) : Calls Tryz.prog 209 #[.int .u64 0] w fun e w' => e = .panicked trapV ∧ w' = w := by
 go_enter Tryz.func209, Tryz.ntmps209
 go_wp2
 exact ⟨rfl, rfl, rfl⟩
theorem truth_any (b : Bool) (w : World) : Calls Tryz.prog 210 #[.bool b] w fun e w' => e = .returned (.int .u64 (if b = true then 1 else 0)) ∧ w' = w := by
 cases b
 · go_enter Tryz.func210, Tryz.ntmps210
   go_wp2
   go_ret
   exact ⟨rfl, rfl⟩
 · go_enter Tryz.func210, Tryz.ntmps210
   go_wp2
   go_ret
   exact ⟨rfl, rfl⟩
theorem reckon5 {x y : Int} (w : World) (hx : U64 x) (hy : U64 y) : Calls Tryz.prog 202 #[.int .u8 5, .int .u64 x, .int .u64 y] w fun e w' => e = .returned (.int .u64 (IntKind.u64.wrap (x + y))) ∧ w' = w := by
 have hx1 := hx.1
 have hx2 := hx.2
 have hy1 := hy.1
 have hy2 := hy.2
 have e6 : IntKind.u64.wrap (x + IntKind.u64.wrap (-y)) = IntKind.u64.wrap (x - y) := by simp only [wrap_mod]; omega
 replace e6 := Hid.mk' e6
 go_enter Tryz.func202, Tryz.ntmps202
 go_wp2
 all_goals
   go_ret
   refine ⟨?_, rfl⟩
   first | rfl | simp
theorem reckon6 {x y : Int} (w : World) (hx : U64 x) (hy : U64 y) : Calls Tryz.prog 202 #[.int .u8 6, .int .u64 x, .int .u64 y] w fun e w' => e = .returned (.int .u64 (IntKind.u64.wrap (x - y))) ∧ w' = w := by
 have hx1 := hx.1
 have hx2 := hx.2
 have hy1 := hy.1
 have hy2 := hy.2
 have e6 : IntKind.u64.wrap (x + IntKind.u64.wrap (-y)) = IntKind.u64.wrap (x - y) := by simp only [wrap_mod]; omega
 replace e6 := Hid.mk' e6
 go_enter Tryz.func202, Tryz.ntmps202
 go_wp2
 all_goals
   go_ret
   refine ⟨?_, rfl⟩
   exact congrArg (fun z => Ending.returned (Value.int IntKind.u64 z)) e6.out
theorem reckon7 {x y : Int} (w : World) (hx : U64 x) (hy : U64 y) : Calls Tryz.prog 202 #[.int .u8 7, .int .u64 x, .int .u64 y] w fun e w' => e = .returned (.int .u64 (IntKind.u64.wrap (x * y))) ∧ w' = w := by
 have hx1 := hx.1
 have hx2 := hx.2
 have hy1 := hy.1
 have hy2 := hy.2
 have e6 : IntKind.u64.wrap (x + IntKind.u64.wrap (-y)) = IntKind.u64.wrap (x - y) := by simp only [wrap_mod]; omega
 replace e6 := Hid.mk' e6
 go_enter Tryz.func202, Tryz.ntmps202
 go_wp2
 all_goals
   go_ret
   refine ⟨?_, rfl⟩
   first | rfl | simp
theorem reckon8 {x y : Int} (w : World) (hx : U64 x) (hy : U64 y) (h0 : y ≠ 0) : Calls Tryz.prog 202 #[.int .u8 8, .int .u64 x, .int .u64 y] w fun e w' => e = .returned (.int .u64 (x / y)) ∧ w' = w := by
 have hx1 := hx.1
 have hx2 := hx.2
 have hy1 := hy.1
 have hy2 := hy.2
 have e6 : IntKind.u64.wrap (x + IntKind.u64.wrap (-y)) = IntKind.u64.wrap (x - y) := by simp only [wrap_mod]; omega
 replace e6 := Hid.mk' e6
 go_enter Tryz.func202, Tryz.ntmps202
 go_wp2_with (go_at_call 209; go_must (refine (divisor_ok h0 _).mono ?_; rintro e w1 ⟨rfl, h⟩; replace h := h.symm; subst h))
 all_goals
   go_ret
   refine ⟨?_, rfl⟩
   first | rfl | simp
theorem reckon9 {x y : Int} (w : World) (hx : U64 x) (hy : U64 y) (h0 : y ≠ 0) : Calls Tryz.prog 202 #[.int .u8 9, .int .u64 x, .int .u64 y] w fun e w' => e = .returned (.int .u64 (x % y)) ∧ w' = w := by
 have hx1 := hx.1
 have hx2 := hx.2
 have hy1 := hy.1
 have hy2 := hy.2
 have e6 : IntKind.u64.wrap (x + IntKind.u64.wrap (-y)) = IntKind.u64.wrap (x - y) := by simp only [wrap_mod]; omega
 replace e6 := Hid.mk' e6
 go_enter Tryz.func202, Tryz.ntmps202
 go_wp2_with (go_at_call 209; go_must (refine (divisor_ok h0 _).mono ?_; rintro e w1 ⟨rfl, h⟩; replace h := h.symm; subst h))
 all_goals
   go_ret
   refine ⟨?_, rfl⟩
   first | rfl | simp
theorem reckon10 {x y : Int} (w : World) (hx : U64 x) (hy : U64 y) : Calls Tryz.prog 202 #[.int .u8 10, .int .u64 x, .int .u64 y] w fun e w' => e = .returned (.int .u64 (bits .and .u64 x y)) ∧ w' = w := by
 have hx1 := hx.1
 have hx2 := hx.2
 have hy1 := hy.1
 have hy2 := hy.2
 have e6 : IntKind.u64.wrap (x + IntKind.u64.wrap (-y)) = IntKind.u64.wrap (x - y) := by simp only [wrap_mod]; omega
 replace e6 := Hid.mk' e6
 go_enter Tryz.func202, Tryz.ntmps202
 go_wp2
 all_goals
   go_ret
   refine ⟨?_, rfl⟩
   first | rfl | simp
theorem reckon11 {x y : Int} (w : World) (hx : U64 x) (hy : U64 y) : Calls Tryz.prog 202 #[.int .u8 11, .int .u64 x, .int .u64 y] w fun e w' => e = .returned (.int .u64 (bits .or .u64 x y)) ∧ w' = w := by
 have hx1 := hx.1
 have hx2 := hx.2
 have hy1 := hy.1
 have hy2 := hy.2
 have e6 : IntKind.u64.wrap (x + IntKind.u64.wrap (-y)) = IntKind.u64.wrap (x - y) := by simp only [wrap_mod]; omega
 replace e6 := Hid.mk' e6
 go_enter Tryz.func202, Tryz.ntmps202
 go_wp2
 all_goals
   go_ret
   refine ⟨?_, rfl⟩
   first | rfl | simp
theorem reckon12 {x y : Int} (w : World) (hx : U64 x) (hy : U64 y) : Calls Tryz.prog 202 #[.int .u8 12, .int .u64 x, .int .u64 y] w fun e w' => e = .returned (.int .u64 (bits .xor .u64 x y)) ∧ w' = w := by
 have hx1 := hx.1
 have hx2 := hx.2
 have hy1 := hy.1
 have hy2 := hy.2
 have e6 : IntKind.u64.wrap (x + IntKind.u64.wrap (-y)) = IntKind.u64.wrap (x - y) := by simp only [wrap_mod]; omega
 replace e6 := Hid.mk' e6
 go_enter Tryz.func202, Tryz.ntmps202
 go_wp2
 all_goals
   go_ret
   refine ⟨?_, rfl⟩
   first | rfl | simp
theorem reckon13 {x y : Int} (w : World) (hx : U64 x) (hy : U64 y) : Calls Tryz.prog 202 #[.int .u8 13, .int .u64 x, .int .u64 y] w fun e w' => e = .returned (.int .u64 (sl64 x y)) ∧ w' = w := by
 have hx1 := hx.1
 have hx2 := hx.2
 have hy1 := hy.1
 have hy2 := hy.2
 have e6 : IntKind.u64.wrap (x + IntKind.u64.wrap (-y)) = IntKind.u64.wrap (x - y) := by simp only [wrap_mod]; omega
 replace e6 := Hid.mk' e6
 go_enter Tryz.func202, Tryz.ntmps202
 go_wp2
 all_goals
   go_ret
   refine ⟨?_, rfl⟩
   first | rfl | simp
theorem reckon14 {x y : Int} (w : World) (hx : U64 x) (hy : U64 y) : Calls Tryz.prog 202 #[.int .u8 14, .int .u64 x, .int .u64 y] w fun e w' => e = .returned (.int .u64 (sr64 x y)) ∧ w' = w := by
 have hx1 := hx.1
 have hx2 := hx.2
 have hy1 := hy.1
 have hy2 := hy.2
 have e6 : IntKind.u64.wrap (x + IntKind.u64.wrap (-y)) = IntKind.u64.wrap (x - y) := by simp only [wrap_mod]; omega
 replace e6 := Hid.mk' e6
 go_enter Tryz.func202, Tryz.ntmps202
 go_wp2
 all_goals
   go_ret
   refine ⟨?_, rfl⟩
   first | rfl | simp
theorem reckon15 {x y : Int} (w : World) (hx : U64 x) (hy : U64 y) : Calls Tryz.prog 202 #[.int .u8 15, .int .u64 x, .int .u64 y] w fun e w' => e = .returned (.int .u64 (if x < y then 1 else 0)) ∧ w' = w := by
 have hx1 := hx.1
 have hx2 := hx.2
 have hy1 := hy.1
 have hy2 := hy.2
 have e6 : IntKind.u64.wrap (x + IntKind.u64.wrap (-y)) = IntKind.u64.wrap (x - y) := by simp only [wrap_mod]; omega
 replace e6 := Hid.mk' e6
 go_enter Tryz.func202, Tryz.ntmps202
 go_wp2_with (go_at_call 210; go_must (refine (truth_any _ _).mono ?_; rintro e w1 ⟨rfl, h⟩; replace h := h.symm; subst h))
 all_goals
   go_ret
   refine ⟨?_, rfl⟩
   first | rfl | simp
theorem reckon16 {x y : Int} (w : World) (hx : U64 x) (hy : U64 y) : Calls Tryz.prog 202 #[.int .u8 16, .int .u64 x, .int .u64 y] w fun e w' => e = .returned (.int .u64 (if x = y then 1 else 0)) ∧ w' = w := by
 have hx1 := hx.1
 have hx2 := hx.2
 have hy1 := hy.1
 have hy2 := hy.2
 have e6 : IntKind.u64.wrap (x + IntKind.u64.wrap (-y)) = IntKind.u64.wrap (x - y) := by simp only [wrap_mod]; omega
 replace e6 := Hid.mk' e6
 go_enter Tryz.func202, Tryz.ntmps202
 go_wp2_with (go_at_call 210; go_must (refine (truth_any _ _).mono ?_; rintro e w1 ⟨rfl, h⟩; replace h := h.symm; subst h))
 all_goals
   go_ret
   refine ⟨?_, rfl⟩
   first | rfl | simp
theorem reckon_ok {op x y z : Int} (w : World) (ho : 5 ≤ op ∧ op ≤ 16) (hx : U64 x) (hy : U64 y) (hz : rk op x y = some z) :
   Calls Tryz.prog 202 #[.int .u8 op, .int .u64 x, .int .u64 y] w fun e w' => e = .returned (.int .u64 z) ∧ w' = w := by
 rcases ops12 ho with rfl | rfl | rfl | rfl | rfl | rfl | rfl | rfl | rfl | rfl | rfl | rfl
 · rw [← show IntKind.u64.wrap (x + y) = z by simpa [rk] using hz]; exact reckon5 w hx hy
 · rw [← show IntKind.u64.wrap (x - y) = z by simpa [rk] using hz]; exact reckon6 w hx hy
 · rw [← show IntKind.u64.wrap (x * y) = z by simpa [rk] using hz]; exact reckon7 w hx hy
 · have hz' : ¬ y = 0 ∧ x / y = z := by simpa [rk] using hz
   rw [← hz'.2]; exact reckon8 w hx hy hz'.1
 · have hz' : ¬ y = 0 ∧ x % y = z := by simpa [rk] using hz
   rw [← hz'.2]; exact reckon9 w hx hy hz'.1
 · rw [← show bits .and .u64 x y = z by simpa [rk] using hz]; exact reckon10 w hx hy
 · rw [← show bits .or .u64 x y = z by simpa [rk] using hz]; exact reckon11 w hx hy
 · rw [← show bits .xor .u64 x y = z by simpa [rk] using hz]; exact reckon12 w hx hy
 · rw [← show sl64 x y = z by simpa [rk] using hz]; exact reckon13 w hx hy
 · rw [← show sr64 x y = z by simpa [rk] using hz]; exact reckon14 w hx hy
 · rw [← show (if x < y then 1 else 0) = z by simpa [rk] using hz]; exact reckon15 w hx hy
 · rw [← show (if x = y then 1 else 0) = z by simpa [rk] using hz]; exact reckon16 w hx hy
theorem reckon_no {op x y : Int} (w : World) (ho : 5 ≤ op ∧ op ≤ 16) (hz : rk op x y = none) :
   Calls Tryz.prog 202 #[.int .u8 op, .int .u64 x, .int .u64 y] w fun e w' => e = .panicked trapV ∧ w' = w := by
 obtain ⟨h, rfl⟩ := rk_none ho hz
 rcases h with rfl | rfl
 · clear hz
   go_enter Tryz.func202, Tryz.ntmps202
   go_wp2_with (go_at_call 209; go_must (refine (divisor_no _).mono ?_; rintro e w1 ⟨rfl, rfl⟩))
   exact ⟨rfl, rfl, rfl⟩
 · clear hz
   go_enter Tryz.func202, Tryz.ntmps202
   go_wp2_with (go_at_call 209; go_must (refine (divisor_no _).mono ?_; rintro e w1 ⟨rfl, rfl⟩))
   exact ⟨rfl, rfl, rfl⟩
theorem exo {o : Int} (h : 5 ≤ o ∧ o ≤ 16) : o ≠ 1 ∧ o ≠ 2 ∧ o ≠ 3 ∧ o ≠ 4 ∧ o ≠ 17 ∧ o ≠ 18 ∧ o ≠ 19 ∧ o ≠ 20 ∧ o ≠ 21 ∧ o ≠ 22 ∧ o ≠ 23 ∧ o ≠ 24 ∧ o ≠ 25 := by omega
theorem step_o {o : Int} {N : Nat} {es : List En} {g gm gp n cap pN : Nat} {sp : Option Addr} {nk ck : Nat} {m : Mc} {x i : Int} {a b c : Nat} (w : World) (hV : VM N es w g gm gp n cap sp nk ck m) (hp : m.pc = (pN : Int)) (hpn : pN < n) (hx : m.me.getD pN 0 = x) (hd : dOk x = true) (ho : dOp x = o) (ha : dA x = (a : Nat)) (hb : dB x = (b : Nat)) (hc : dC x = (c : Nat)) (hi : dI x = i) (ho5 : 5 ≤ o ∧ o ≤ 16) :
   Calls Tryz.prog 188 #[.pointer (some ⟨g, 0, none⟩)] w (StPost N es g gm gp n cap sp nk ck m (ex es m o a b c i) w) := by
 have z1 : (o == 1) = false := by simp; omega
 have z2 : (o == 2) = false := by simp; omega
 have z3 : (o == 3) = false := by simp; omega
 have z4 : (o == 4) = false := by simp; omega
 have z17 : (o == 17) = false := by simp; omega
 have z18 : (o == 18) = false := by simp; omega
 have z20 : (o == 20) = false := by simp; omega
 have z21 : (o == 21) = false := by simp; omega
 have z19 : (o == 19) = false := by simp; omega
 have z22 : (o == 22) = false := by simp; omega
 have z23 : (o == 23) = false := by simp; omega
 have z24 : (o == 24) = false := by simp; omega
 have z25 : (o == 25) = false := by simp; omega
 have hE := hV.en
 have hok := hE.ok
 have hU : U64 x := by rw [← hx]; exact hok.me _
 have hR := dRg hU
 rw [ha, hb, hc, hi] at hR
 obtain ⟨-, ha2, hb2, hc2, hi2⟩ := hR
 have haI : (a : Int) < 16 := ha2.2
 have hbI : (b : Int) < 16 := hb2.2
 have hcI : (c : Int) < 16 := hc2.2
 have ha16 : a < 16 := by omega
 have hb16 : b < 16 := by omega
 have hc16 : c < 16 := by omega
 have hi0 : 0 ≤ i := hi2.1
 have hi1 : i < 4294967296 := hi2.2
 have hUi : U64 i := by unfold U64; omega
 have hwi : IntKind.u64.wrap i = i := wrap_u64 hUi
 have hUa : U64 (m.get a) := hok.rg a
 have hUb : U64 (m.get b) := hok.rg b
 have hUc : U64 (m.get c) := hok.rg c
 have hv := dV_yes hd
 rw [ho, ha, hb, hc, hi] at hv
 have c0 := hE.c0
 have c18 := hE.c18
 have hn := hE.small
 have cx := hE.cm hpn
 rw [hx] at cx
 have hlen := hE.len
 replace hv := Hid.mk' hv
 replace hd := Hid.mk' hd
 replace hp := Hid.mk' hp
 clear ho ha hb hc hi ha2 hb2 hc2 hi2 hx hE
 go_enter Tryz.func188, Tryz.ntmps188
 go_upto_region 3 with (first
   | (go_at_call 197; go_must (refine (word_ok w c18 hn hp.out hpn).mono ?_; rintro e w1 ⟨rfl, h⟩; replace h := h.symm; subst h))
   | (go_at_call 135; go_must (refine (decode_any w hU).mono ?_; rintro e w2 ⟨rfl, hb2⟩; rw [hv.out, hd.out]; have A0 := Arr.new w2 88 (cdA o a b c i); have hB0 := hb2.alloc hb2.size (.cells (cdA o a b c i) 88); have hV2 := hV.bel hB0; have rb0 := hV2.en.cr hb16; have q1 : (w2.alloc (.cells (cdA o a b c i) 88)).cell? ⟨w2.heap.size, 1, none⟩ = some (.int .u8 (a : Int)) := A0.cell 1; have q2 : (w2.alloc (.cells (cdA o a b c i) 88)).cell? ⟨w2.heap.size, 2, none⟩ = some (.int .u8 (b : Int)) := A0.cell 2; have q4 : (w2.alloc (.cells (cdA o a b c i) 88)).cell? ⟨w2.heap.size, 4, none⟩ = some (.int .u32 i) := A0.cell 4; change _ = some (Value.int IntKind.u64 (m.get b)) at rb0; generalize hcd : cdA o a b c i = CD at A0 hB0 hV2 rb0 q1 q2 q4 ⊢))
   | (refine wpList_store_new w2 _ 88 (by rfl) 88 (.tmp 2) (.tmp 18) (by rfl) CD (by rfl) (by rfl) (by rw [← hcd]; exact size25) (by rw [← hcd]; rfl) (by rw [← hcd]; exact one25 _ _ _ _ _) ?_))
 refine rgn (fun u => u = (w2.alloc (.cells CD 88)).drew) (rfl) (fun hHeld => ?_)
 refine tk 0 rfl ?_
 refine tk 1 rfl ?_
 refine tks 2 rfl ?_
 refine tk 3 rfl ?_
 refine tk 4 rfl ?_
 refine tk 5 rfl ?_
 refine tk 6 rfl ?_
 refine tk 7 rfl ?_
 refine tk 8 rfl ?_
 refine tks 9 rfl ?_
 refine tk 10 rfl ?_
 refine tk 11 rfl ?_
 refine tk 12 rfl ?_
 refine tk 13 rfl ?_
 refine tks 14 rfl ?_
 refine tk 15 rfl ?_
 refine tks 16 rfl ?_
 refine tk 17 rfl ?_
 refine tk 18 rfl ?_
 refine tk 19 rfl ?_
 refine tk 20 rfl ?_
 refine dn ?_
 go_upto_region 4 with fail
 obtain ⟨W, hW⟩ : ∃ W : World, W = (w2.alloc (.cells CD 88)).drew := ⟨_, rfl⟩
 obtain ⟨G, hG⟩ : ∃ G : Nat, G = w2.heap.size := ⟨_, rfl⟩
 have AW : Arr W G 88 CD := by rw [hW, hG]; exact A0
 have hBW : Below w.heap.size w W := by rw [hW]; exact hB0.drew
 have hVW : VM N es W g gm gp n cap sp nk ck m := by rw [hW]; exact hV2.bel ((Below.refl _ _).drew)
 rw [← hW, ← hG]
 clear hW hG A0 hB0 hV2 rb0 q1 q2 q4 hb2 cx c0 c18 hv hd hp
 have hEW := hVW.en
 have c0 := hEW.c0
 have c17 := hEW.c17
 have c18 := hEW.c18
 have x0 : W.cell? ⟨g, 19, none⟩ = some (.slice sp nk ck) := hEW.cx 0
 have x1 : W.cell? ⟨g, 20, none⟩ = some (.map (some gp)) := hEW.cx 1
 have ra := hEW.cr ha16
 have rb := hEW.cr hb16
 have rc := hEW.cr hc16
 change _ = some (Value.int IntKind.u64 (m.get a)) at ra
 change _ = some (Value.int IntKind.u64 (m.get b)) at rb
 change _ = some (Value.int IntKind.u64 (m.get c)) at rc
 have fz := hEW.fz
 have fm := hEW.fm
 have hne := hEW.ne
 have hGg : g ≠ G := fun e => by rw [e] at hEW; have h1 := hEW.eng; rw [Arr, AW] at h1; cases h1
 subst hcd
 have k0 : W.cell? ⟨G, 0, none⟩ = some (.int .u8 o) := AW.cell 0
 have k1 : W.cell? ⟨G, 1, none⟩ = some (.int .u8 (a : Int)) := AW.cell 1
 have k3 : W.cell? ⟨G, 3, none⟩ = some (.int .u8 (c : Int)) := AW.cell 3
 have c0' : ∀ v, (W.setCell ⟨g, 1 + a, none⟩ v).cell? ⟨g, 0, none⟩ = some (.int .u64 m.pc) := fun v => (cell_set_ne v (fun e => by injection e with _ e2 _; omega)).trans c0
 have f' : ∀ v j, (W.setCell ⟨g, 1 + a, none⟩ v).frozen? ⟨g, j, none⟩ = false := fun v j => (hEW.eng.set (1 + a) v).frozen j
 rcases hz : rk o (m.get b) (m.get c) with _ | z
 · have hex : ex es m o a b c i = none := by simp [ex, exo ho5, hz]
   replace hex := Hid.mk' hex
   go_upto_region 31 with fail
   refine rgn (fun u => u.cell? ⟨G, 0, none⟩ = some (.int .u8 o) ∧ u.cell? ⟨G, 3, none⟩ = some (.int .u8 (c : Int))) (⟨by exact k0, by exact k3⟩) (fun hHeld => ?_)
   refine tk 0 rfl ?_
   refine tk 1 rfl ?_
   refine tk2 2 rfl ?_
   refine tk 3 rfl ?_
   refine tk 4 rfl ?_
   refine tk 5 rfl ?_
   refine tk2 6 rfl ?_
   refine tk 7 rfl ?_
   refine tk 8 rfl ?_
   refine tk 9 rfl ?_
   refine tk 10 rfl ?_
   refine rd 11 rfl (fun K hK => ?_)
   go_simp
   go_wp2_with fail
   refine ko hK ⟨by exact k0, by exact k3⟩ (fun hHeld => ?_)
   clear hK K
   refine rd 12 rfl (fun K hK => ?_)
   go_simp
   refine (reckon_no _ ho5 hz).mono ?_
   rintro e w1 ⟨rfl, rfl⟩
   go_wp2_with fail
   exact ⟨rfl, stNo hV hex.out hBW.drew⟩
 · have hex : ex es m o a b c i = some (m.put a z) := by simp [ex, exo ho5, hz]
   have hUz : U64 z := rk_u ho5 hUb hUc hz
   replace hex := Hid.mk' hex
   have c0d : ∀ v, (W.drew.setCell ⟨g, 1 + a, none⟩ v).cell? ⟨g, 0, none⟩ = some (.int .u64 m.pc) := fun v => (cell_set_ne v (fun e => by injection e with _ e2 _; omega)).trans c0
   have f0d : ∀ v j, (W.drew.setCell ⟨g, 1 + a, none⟩ v).frozen? ⟨g, j, none⟩ = false := fun v j => (hEW.drew.eng.set (1 + a) v).frozen j
   go_upto_region 31 with fail
   refine rgn (fun u => u.cell? ⟨G, 0, none⟩ = some (.int .u8 o) ∧ u.cell? ⟨G, 3, none⟩ = some (.int .u8 (c : Int))) (⟨by exact k0, by exact k3⟩) (fun hHeld => ?_)
   refine tk 0 rfl ?_
   refine tk 1 rfl ?_
   refine tk2 2 rfl ?_
   refine tk 3 rfl ?_
   refine tk 4 rfl ?_
   refine tk 5 rfl ?_
   refine tk2 6 rfl ?_
   refine tk 7 rfl ?_
   refine tk 8 rfl ?_
   refine tk 9 rfl ?_
   refine tk 10 rfl ?_
   refine rd 11 rfl (fun K hK => ?_)
   go_simp
   go_wp2_with fail
   refine ko hK ⟨by exact k0, by exact k3⟩ (fun hHeld => ?_)
   clear hK K
   refine rd 12 rfl (fun K hK => ?_)
   go_simp
   refine (reckon_ok _ ho5 hUb hUc hz).mono ?_
   rintro e w1 ⟨rfl, rfl⟩
   go_wp2_with fail
   refine ko hK ⟨by exact k0, by exact k3⟩ (fun hHeld => ?_)
   clear hK K
   refine tk 13 rfl ?_
   refine rd 14 rfl (fun K hK => ?_)
   go_simp
   go_wp2_with fail
   refine ko hK ⟨((cell_set_ne _ (fun e => by injection e with e1; exact hGg e1)).trans k0), ((cell_set_ne _ (fun e => by injection e with e1; exact hGg e1)).trans k3)⟩ (fun hHeld => ?_)
   clear hK K
   refine dn ?_
   go_wp2_with fail
   exact ⟨rfl, _, results_none Tryz.results188 _ _ _, stYes hBW hV hex.out (((Chg.refl _ W).drew.sg _ _).sg _ _) (by simp) ((hVW.bel ((Below.refl _ _).drew)).put ha16 hUz)⟩
section
theorem nil20 (w : World) : (binOp .eql 20 .nilIface .nilIface).run Tryz.prog w = .ok (.bool true) w := by rfl
theorem some20 (w : World) : (binOp .eql 20 (.iface 264 (.agg #[])) .nilIface).run Tryz.prog w = .ok (.bool false) w := by rfl
theorem assert90 (w : World) : (Instr.typeAssert (.iface 264 (.agg #[])) 20 264 true).run Tryz.prog w = .ok (.tuple #[.agg #[], .bool true]) w := by kernel_rfl
theorem catch_idle (p : Addr) (w : World) :
   CallsD Tryz.prog 187 #[.pointer (some p)] .returning w fun e u' w' => e = .returned (.tuple #[]) ∧ u' = .returning ∧ w' = w := by
 have h1 := nil20
 refine callsD_of_wpS Tryz.func187 rfl fun c₀ cs hu => ?_
 apply wpS_seq
 apply wpS_region
 simp [wpOpsS, go_sem, recoverD, hu, Tryz.ntmps187, Exit.thenS]
 refine wpS_of_wp ?_
 go_wp2
 cases c₀
 simp_all [bodyPostS, results, Tryz.results187]
theorem catch_trap (q g : Nat) (w : World) (hq : Arr w q 262 #[.pointer (some ⟨g, 0, none⟩)]) (c17 : ∃ x, w.cell? ⟨g, 17, none⟩ = some x) (fz : w.frozen? ⟨g, 17, none⟩ = false) (hg : g < w.heap.size) :
   CallsD Tryz.prog 187 #[.pointer (some ⟨q, 0, none⟩)] (.panicking trapV) w fun e u' w' => e = .returned (.tuple #[]) ∧ u' = .panicking [{ v := .iface 264 (.agg #[]), recovered := true }] ∧ w' = (w.setCell ⟨g, 17, none⟩ (.int .u8 2)).alloc (.cells #[] 264) := by
 have h1 := some20
 have h2 := assert90
 have hc : ∀ o, (w.alloc o).cell? ⟨q, 0, none⟩ = some (.pointer (some ⟨g, 0, none⟩)) := fun o => (hq.alloc o).cell 0
 obtain ⟨x, hx⟩ := c17
 have hc2 : ∀ o, (w.alloc o).cell? ⟨g, 17, none⟩ = some x := fun o => (World.cell?_alloc_lt _ _ _ hg).trans hx
 have hz : ∀ o, (w.alloc o).frozen? ⟨g, 17, none⟩ = false := fun o => by
   simp only [World.frozen?] at fz ⊢
   rw [Below.heap_alloc _ _ _ hg]
   exact fz
 refine callsD_of_wpS Tryz.func187 rfl fun c₀ cs hu => ?_
 apply wpS_seq
 apply wpS_region
 simp [wpOpsS, go_sem, recoverD, hu, Tryz.ntmps187, Exit.thenS, trapV]
 refine wpS_of_wp ?_
 change Code.wp _ _ _ { tmps := #[.pointer (some ⟨q, 0, none⟩), undef, undef, undef, .iface 264 (.agg #[]), undef, undef, undef, undef, undef, undef, undef, undef, undef], defers := [] } _
 go_wp2
 exact ⟨rfl, _, rfl, _, results_none Tryz.results187 _ _ _, rfl, rfl, rfl⟩
section
variable {N : Nat} {es : List En} {g gm gp n cap : Nat} {sp : Option Addr} {nk ck : Nat} {m : Mc}
theorem step_t0 (w : World) (hV : VM N es w g gm gp n cap sp nk ck m) (hp : (n : Int) ≤ m.pc) : Calls Tryz.prog 188 #[.pointer (some ⟨g, 0, none⟩)] w (StPost N es g gm gp n cap sp nk ck m (stp es m) w) := by
 have hex : stp es m = none := by unfold stp; rw [if_neg (by rw [← hV.en.len.out]; omega)]
 have c0 := hV.en.c0
 have c18 := hV.en.c18
 have hn := hV.en.small
 replace hex := Hid.mk' hex
 go_enter Tryz.func188, Tryz.ntmps188
 go_wp2_with (go_at_call 197; go_must (refine (word_no w c18 hn hp).mono ?_; rintro e w1 ⟨rfl, h⟩; replace h := h.symm; subst h))
 exact ⟨rfl, stNo hV hex.out (Below.refl _ _)⟩
theorem step_t1 (w : World) (hV : VM N es w g gm gp n cap sp nk ck m) {pN : Nat} {x : Int} (hp : m.pc = (pN : Int)) (hpn : pN < n) (hx : m.me.getD pN 0 = x) (hd : dOk x = false) : Calls Tryz.prog 188 #[.pointer (some ⟨g, 0, none⟩)] w (StPost N es g gm gp n cap sp nk ck m (stp es m) w) := by
 have hex : stp es m = none := by
   unfold stp
   rw [hp, Int.toNat_natCast, hx, hd]
   simp
 have c0 := hV.en.c0
 have c18 := hV.en.c18
 have hn := hV.en.small
 have cx := hV.en.cm hpn
 rw [hx] at cx
 have hU : U64 x := by rw [← hx]; exact hV.en.ok.me _
 have hv := dV_no hd
 replace hv := Hid.mk' hv
 replace hd := Hid.mk' hd
 replace hp := Hid.mk' hp
 replace hex := Hid.mk' hex
 clear hx
 go_enter Tryz.func188, Tryz.ntmps188
 go_wp2_with (first
   | (go_at_call 197; go_must (refine (word_ok w c18 hn hp.out hpn).mono ?_; rintro e w1 ⟨rfl, h⟩; replace h := h.symm; subst h))
   | (go_at_call 135; go_must (refine (decode_any w hU).mono ?_; rintro e w2 ⟨rfl, hb2⟩; rw [hv.out, hd.out]; unfold cdA)))
 exact ⟨rfl, stNo hV hex.out (hb2.alloc hb2.size _)⟩
theorem ops25 {o : Int} (h : 1 ≤ o ∧ o ≤ 25) : o = 1 ∨ o = 2 ∨ o = 3 ∨ o = 4 ∨ (5 ≤ o ∧ o ≤ 16) ∨ o = 17 ∨ o = 18 ∨ o = 19 ∨ o = 20 ∨ o = 21 ∨ o = 22 ∨ o = 23 ∨ o = 24 ∨ o = 25 := by omega
theorem step_any (w : World) (hV : VM N es w g gm gp n cap sp nk ck m) : Calls Tryz.prog 188 #[.pointer (some ⟨g, 0, none⟩)] w (StPost N es g gm gp n cap sp nk ck m (stp es m) w) := by
 have hp0 := hV.en.ok.pc.1
 by_cases hp : m.pc < n
 · obtain ⟨pN, hpN⟩ : ∃ k : Nat, m.pc = k := ⟨m.pc.toNat, by omega⟩
   have hpn : pN < n := by omega
   obtain ⟨x, hx⟩ : ∃ x, m.me.getD pN 0 = x := ⟨_, rfl⟩
   have hU : U64 x := by rw [← hx]; exact hV.en.ok.me _
   cases hd : dOk x with
   | false => exact step_t1 w hV hpN hpn hx hd
   | true =>
     have hR := dRg hU
     obtain ⟨a, ha⟩ : ∃ k : Nat, dA x = k := ⟨(dA x).toNat, by omega⟩
     obtain ⟨b, hb⟩ : ∃ k : Nat, dB x = k := ⟨(dB x).toNat, by omega⟩
     obtain ⟨c, hc⟩ : ∃ k : Nat, dC x = k := ⟨(dC x).toNat, by omega⟩
     have hst : stp es m = ex es m (dOp x) a b c (dI x) := by
       unfold stp
       rw [hpN, Int.toNat_natCast, hx, hd, ha, hb, hc, if_pos (by rw [← hV.en.len.out]; omega), if_pos rfl]
       simp
     rw [hst]
     have ho25 : 1 ≤ dOp x ∧ dOp x ≤ 25 := by
       unfold dOk at hd
       have := of_decide_eq_true hd
       exact ⟨this.1, this.2.1⟩
     obtain ⟨i, hi⟩ : ∃ i, dI x = i := ⟨_, rfl⟩
     obtain ⟨o, ho⟩ : ∃ o, dOp x = o := ⟨_, rfl⟩
     rw [hi, ho]
     rw [ho] at ho25
     rcases ops25 ho25 with rfl | rfl | rfl | rfl | h5 | rfl | rfl | rfl | rfl | rfl | rfl | rfl | rfl | rfl
     · exact step_S1 (o := 1) (by simp) w hV hpN hpn hx hd ho ha hb hc hi
     · exact step_S1 (o := 2) (by simp) w hV hpN hpn hx hd ho ha hb hc hi
     · exact step_S1 (o := 3) (by simp) w hV hpN hpn hx hd ho ha hb hc hi
     · exact step_S1 (o := 4) (by simp) w hV hpN hpn hx hd ho ha hb hc hi
     · exact step_o w hV hpN hpn hx hd ho ha hb hc hi h5
     · exact step_S2 (o := 17) (by simp) w hV hpN hpn hx hd ho ha hb hc hi
     · exact step_S2 (o := 18) (by simp) w hV hpN hpn hx hd ho ha hb hc hi
     · exact step_S2 (o := 19) (by simp) w hV hpN hpn hx hd ho ha hb hc hi
     · exact step_S3 (o := 20) (by simp) w hV hpN hpn hx hd ho ha hb hc hi
     · exact step_S3 (o := 21) (by simp) w hV hpN hpn hx hd ho ha hb hc hi
     · exact step_S1 (o := 22) (by simp) w hV hpN hpn hx hd ho ha hb hc hi
     · exact step_S4 (o := 23) (by simp) w hV hpN hpn hx hd ho ha hb hc hi
     · exact step_S5 (o := 24) (by simp) w hV hpN hpn hx hd ho ha hb hc hi
     · exact step_S6 (o := 25) (by simp) w hV hpN hpn hx hd ho ha hb hc hi
 · exact step_t0 w hV (by omega)
end
end
section
theorem rn_stop {es : List En} {m : Mc} (h : m.st ≠ 0) (k : Nat) : rn es k m = (m, 0) := by
 cases k with
 | zero => rfl
 | succ k => simp [rn, h]
theorem rn_go {es : List En} {m : Mc} (h : m.st = 0) (k : Nat) : rn es (k + 1) m = ((rn es k (tick es m)).1, (rn es k (tick es m)).2 + 1) := by simp [rn, h]
theorem rn_next {es : List En} {m mk : Mc} {F k : Nat} (hk : k < F) (h0 : mk.st = 0) (h : rn es F m = ((rn es (F - k) mk).1, (rn es (F - k) mk).2 + k)) : rn es F m = ((rn es (F - (k + 1)) (tick es mk)).1, (rn es (F - (k + 1)) (tick es mk)).2 + (k + 1)) := by
 rw [h, show F - k = (F - (k + 1)) + 1 by omega, rn_go h0]
 simp only [Prod.mk.injEq, true_and]
 omega
section
variable {N : Nat} {es : List En} {g gm gp n cap : Nat} {sp : Option Addr} {nk ck : Nat} {m : Mc}
def RuPost (N : Nat) (es : List En) (g gm gp n cap : Nat) (sp : Option Addr) (nk ck : Nat) (r : Mc × Nat) (w : World) (e : Ending) (w' : World) : Prop :=
 e = .returned (.int .i64 (r.2 : Int)) ∧ Chg (C3 g gm gp) w w' ∧ VM N es w' g gm gp n cap sp nk ck r.1
theorem VM.oth {w w' : World} (hV : VM N es w g gm gp n cap sp nk ck m) {q : Nat} {C : Array Value} {t : TypeId} (hq : Arr w q t C) (ht : t ≠ 248) (ht2 : t ≠ 22) (hc : Chg (C3 g gm gp) w w') : Arr w' q t C := by
 refine (hc.block q hq.lt ?_).trans hq
 rintro (e | e | e)
 · subst e
   have h1 := hV.en.eng
   rw [Arr, hq] at h1
   cases h1
   exact ht rfl
 · subst e
   obtain ⟨D, h1, -⟩ := hV.en.mem
   rw [Arr, hq] at h1
   cases h1
   exact ht2 rfl
 · subst e
   obtain ⟨f, ⟨L, ck', h1, -⟩, -⟩ := hV.map
   rw [Arr, h1] at hq
   cases hq
theorem run_any (w : World) (hV : VM N es w g gm gp n cap sp nk ck m) {F : Nat} {x : Int} (hx : x = (F : Int)) (hF : F ≤ 4194304) :
   Calls Tryz.prog 171 #[.pointer (some ⟨g, 0, none⟩), .int .i64 x] w (RuPost N es g gm gp n cap sp nk ck (rn es F m) w) := by
 subst hx
 have hmf : ∀ (fn : Fn) (first cap : Array Value) (w : World), (Instr.makeFunc fn first cap).run Tryz.prog w = .ok (.func fn first cap) w := fun _ _ _ _ => rfl
 have hV1 := hV.bel (alloc_bel' w (.cells #[.pointer (some ⟨g, 0, none⟩)] 262))
 go_enter_defers Tryz.func171, Tryz.ntmps171
 go_wp2_with fail
 go_loopw [4] (fun v wr => ∃ (k : Nat) (mk : Mc), v = .int .i64 (k : Int) ∧ k ≤ F ∧ VM N es wr g gm gp n cap sp nk ck mk ∧ Chg (C3 g gm gp) w wr ∧ Arr wr w.heap.size 262 #[.pointer (some ⟨g, 0, none⟩)] ∧ Hid (rn es F m = ((rn es (F - k) mk).1, (rn es (F - k) mk).2 + k)))
   (fun v _ => F - (intOf v).toNat)
 case atStart => exact ⟨0, m, rfl, by omega, hV1, Chg.of_below (alloc_bel' _ _), Arr.new _ _ _, Hid.mk' (by simp)⟩
 case round =>
   clear hV1
   obtain ⟨k, mk, rfl, hk, hVr, hcg, hA, hrn⟩ := hrel
   have qc : wr.cell? ⟨w.heap.size, 0, none⟩ = some (.pointer (some ⟨g, 0, none⟩)) := hA.cell 0
   have c17 := hVr.en.c17
   by_cases hlt : k < F
   · have hI : (k : Int) < F := by omega
     by_cases hst : mk.st = 0
     · have hst' : (mk.st == 0) = true := by simpa using hst
       have hnx := Hid.mk' (rn_next hlt hst hrn.out)
       replace hst := Hid.mk' hst
       go_wp2_with (go_at_call 188; go_must (refine (step_any wr hVr).mono ?_; rintro e w1 ⟨hc1, hs1, ⟨m', hm', rfl, hV1⟩ | ⟨hm', rfl, hV1⟩⟩))
       · have A1 := hVr.oth hA (by decide) (by decide) hc1
         have ht : tick es mk = m' := by unfold tick; rw [hm']; rfl
         rw [ht] at hnx
         clear hm' ht
         go_roundw
         case rel => exact ⟨k + 1, m', by go_num, by omega, hV1, hcg.trans hc1, A1, hnx⟩
         case measure => simp [intOf]; omega
       · have A1 := hVr.oth hA (by decide) (by decide) hc1
         have ht : tick es mk = { mk with st := 2 } := by unfold tick; rw [hm']; rfl
         have hfin : rn es F m = ({ mk with st := 2 }, k + 1) := by
           rw [hnx.out, ht, rn_stop (by simp)]
           simp
         refine leaves_cons (f := 187) (args := #[.pointer (some ⟨w.heap.size, 0, none⟩)]) (by simp) (by simp [go_sem]) ?_
         refine (catch_trap w.heap.size g w1 A1 ⟨_, hV1.en.c17⟩ (hV1.en.fz 17) hV1.en.lt).mono ?_
         rintro e u' w'' ⟨rfl, rfl, rfl⟩
         refine ⟨.int .i64 ((k : Int) + 1), by simp [results, Tryz.results171, go_sem], ?_⟩
         unfold RuPost
         rw [hfin]
         have hV2 := hV1.setSt (x := 2) (by omega)
         exact ⟨by simp, ((hcg.trans hc1).sg _ _).alloc _, hV2.bel (alloc_bel' _ _)⟩
     · have hst' : (mk.st == 0) = false := by simpa using hst
       have hfin : Hid (rn es F m = (mk, k)) := Hid.mk' (by rw [hrn.out, rn_stop hst]; simp)
       replace hst := Hid.mk' hst
       go_wp2_with fail
       refine leaves_cons (f := 187) (args := #[.pointer (some ⟨w.heap.size, 0, none⟩)]) (by simp) (by simp [go_sem]) ?_
       refine (catch_idle ⟨w.heap.size, 0, none⟩ _).mono ?_
       rintro e u' w'' ⟨rfl, rfl, rfl⟩
       refine ⟨.int .i64 (k : Int), by simp [results, Tryz.results171, go_sem], ?_⟩
       unfold RuPost
       rw [hfin.out]
       exact ⟨rfl, hcg, hVr⟩
   · obtain rfl : k = F := by omega
     have hI : ¬ (k : Int) < k := by omega
     have hfin : Hid (rn es k m = (mk, k)) := Hid.mk' (by rw [hrn.out]; simp [rn])
     go_wp2_with fail
     refine leaves_cons (f := 187) (args := #[.pointer (some ⟨w.heap.size, 0, none⟩)]) (by simp) (by simp [go_sem]) ?_
     refine (catch_idle ⟨w.heap.size, 0, none⟩ _).mono ?_
     rintro e u' w'' ⟨rfl, rfl, rfl⟩
     refine ⟨.int .i64 (k : Int), by simp [results, Tryz.results171, go_sem], ?_⟩
     unfold RuPost
     rw [hfin.out]
     exact ⟨rfl, hcg, hVr⟩
end
end
theorem may_any (m : Mc) (sp : Option Addr) (n cap : Nat) (w : World) (hok : m.ok) (hl : Hid (n = m.me.length)) (hn : n ≤ 17592186044416) :
   Calls Tryz.prog 26 #[.agg (mcA m sp n cap)] w fun e w' => e = .returned (.bool (mayM m)) ∧ Below w.heap.size w w' := by
 have A0 := Arr.new w 27 (mcA m sp n cap)
 have c17 := (A0.cell 17).trans (mcA_17 hok.r16 sp n cap)
 have c18 := (A0.cell 18).trans (mcA_18 hok.r16 sp n cap)
 have hz : szI (n : Int) = szB m.me.length := by rw [szI_nat, hl.out]
 have hz := Hid.mk' hz
 unfold mayM
 generalize szB m.me.length = b at *
 generalize mcA m sp n cap = C at *
 cases b
 · go_enter Tryz.func26, Tryz.ntmps26
   go_wp2_with (go_at_call 67; go_must (refine (maySize_any _ _ (by omega)).mono ?_; rintro e w1 ⟨rfl, h⟩; subst h; rw [hz.out]))
   go_ret
   exact ⟨rfl, alloc_bel' _ _⟩
 · go_enter Tryz.func26, Tryz.ntmps26
   go_wp2_with (go_at_call 67; go_must (refine (maySize_any _ _ (by omega)).mono ?_; rintro e w1 ⟨rfl, h⟩; subst h; rw [hz.out]))
   go_ret
   exact ⟨rfl, alloc_bel' _ _⟩
theorem newShelf_any (v : Value) (sp : Option Addr) (n cap : Nat) (hv : v = .slice sp n cap) (w : World) :
   Calls Tryz.prog 170 #[v] w fun e w' => ∃ gp, e = .returned (.agg #[.slice sp n cap, .map (some gp)]) ∧ w.heap.size ≤ gp ∧ MapH w' gp (fun _ => none) ∧ Below w.heap.size w w' := by
 subst hv
 have hmm := @run_makeMap Tryz.prog
 go_enter Tryz.func170, Tryz.ntmps170
 go_wp2
 exact bodyPost_ret (v := .agg #[.slice sp n cap, .map (some (w.heap.size + 1))]) (results_cell_row Tryz.results170 _ _ w.heap.size 245 _ (0, 0) _ rfl ((Arr.new w 245 _).alloc _) Tryz.underlying245 rfl (by kernel_rfl)) rfl ⟨_, rfl, by omega, by simpa using MapH.new (w.alloc (.cells #[.slice sp n cap, .map (some (w.heap.size + 1))] 245)), (alloc_bel' _ _).alloc (by simp) _⟩
theorem list16 {P : List Int → Prop} (h : ∀ x0 x1 x2 x3 x4 x5 x6 x7 x8 x9 x10 x11 x12 x13 x14 x15, P [x0, x1, x2, x3, x4, x5, x6, x7, x8, x9, x10, x11, x12, x13, x14, x15]) (X : List Int) (hX : X.length = 16) : P X := by
 match X, hX with
 | [x0, x1, x2, x3, x4, x5, x6, x7, x8, x9, x10, x11, x12, x13, x14, x15], _ => exact h x0 x1 x2 x3 x4 x5 x6 x7 x8 x9 x10 x11 x12 x13 x14 x15
theorem built81 (m : Mc) (hr : m.rg.length = 16) (sp : Option Addr) (n cap : Nat) (sq : Option Addr) (k c gp : Nat) : Tryz.prog.built 248 [(0, .agg (mcA m sp n cap)), (1, .agg #[.slice sq k c, .map (some gp)])] = some (mcL m (.slice sp n cap) ++ [Value.slice sq k c, Value.map (some gp)]).toArray := by
 obtain ⟨pc, rg, st, me⟩ := m
 exact list16 (P := fun rg => Tryz.prog.built 248 [(0, .agg (mcA ⟨pc, rg, st, me⟩ sp n cap)), (1, .agg #[.slice sq k c, .map (some gp)])] = some (mcL ⟨pc, rg, st, me⟩ (.slice sp n cap) ++ [Value.slice sq k c, Value.map (some gp)]).toArray) (fun x0 x1 x2 x3 x4 x5 x6 x7 x8 x9 x10 x11 x12 x13 x14 x15 => by kernel_rfl) rg hr
theorem size81 : (Tryz.prog.info? 248).map (·.size) = some 21 := by kernel_rfl
theorem enA_size {m : Mc} (hr : m.rg.length = 16) (v a b : Value) : (mcL m v ++ [a, b]).toArray.size = 21 := by rw [List.size_toArray, List.length_append, mcL_len hr]; rfl
theorem enA_one (m : Mc) (sp : Option Addr) (n cap : Nat) (sq : Option Addr) (k c gp : Nat) : (mcL m (.slice sp n cap) ++ [Value.slice sq k c, Value.map (some gp)]).toArray.all (·.oneCell') = true := all_oneCell_toArray (by
 intro v hv
 rcases List.mem_append.1 hv with h | h
 · have := mcA_one m sp n cap
   rw [mcA, Array.all_eq_true_iff_forall_mem] at this
   exact this v (by simpa using h)
 · simp at h
   rcases h with rfl | rfl <;> rfl)
theorem y45 {ops : Array Oper} {S : World → Prop} {op : Oper} {a : Act} (hw : Region.wanted op (yielded ops a.tmps) = true) (x : Operand) (ho : op.op = .load 27 x)
   (g : Nat) (hx : a.eval x = .pointer (some ⟨g, 0, none⟩)) (C : Array Value) (hC : C.size = 19) (hS : ∀ u, S u → Arr u g 27 C) : YieldsIf Tryz.prog ops S op (.agg C) a := by
 have := yieldsIf_load_mid (P := Tryz.prog) (S := S) hw 27 x ho g 0 hx C.toList _ (fun u hu => (fun j v hv => by rw [Nat.zero_add, (hS u hu).cell]; simpa using hv)) Tryz.underlying27 rfl (by rw [Array.length_toList, hC]; exact size45)
 simpa using this
theorem y_bd {ops : Array Oper} {S : World → Prop} {op : Oper} {a : Act} (hw : Region.wanted op (yielded ops a.tmps) = true) (t : TypeId) (parts : Array (Nat × Operand)) (ho : op.op = .build t parts) {ps : List (Nat × Value)} (hp : parts.toList.map (fun p => (p.1, a.eval p.2)) = ps) {C : Array Value} (hb : Tryz.prog.built t ps = some C) : YieldsIf Tryz.prog ops S op (.agg C) a :=
 .inl ⟨hw, fun w _ => by
   have e : (parts.map fun (i, x) => (i, a.eval x)).toList = ps := by rw [Array.toList_map]; exact hp
   unfold execOp
   simp only [ho, Sem.run_bind, run_build w t _ C (by rw [e]; exact hb), Result.andThen_ok, Sem.run_pure]⟩
theorem step_wantV {P : Program} {ops : Array Oper} {o : Oper} {a : Act} {w : World} {K : Act → World → Prop} {Q : Exit → Act → World → Prop} {E : Prop} (hw : Region.wanted o (yielded ops a.tmps) = true) (h : o.wp P a w K Q) : if Region.wanted o (yielded ops a.tmps) = true then o.wp P a w K Q else E := by
 rw [if_pos hw]; exact h
def zM : Mc := ⟨0, [0, 0, 0, 0, 0, 0, 0, 0, 0, 0, 0, 0, 0, 0, 0, 0], 0, []⟩
theorem zM_rg : ∀ k, k < 16 → zM.rg.getD k 0 = 0 := by decide
theorem zM_ok : zM.ok := ⟨by show (0 : Int) ≤ 0 ∧ (0 : Int) < 18446744073709551616; omega, rfl, fun k => by
 have : zM.rg.getD k 0 = 0 := by
   by_cases h : k < 16
   · exact zM_rg k h
   · rw [List.getD_eq_getElem?_getD, List.getElem?_eq_none (by show 16 ≤ k; omega)]; rfl
 rw [this]; unfold U64; omega, by show (0 : Int) ≤ 0 ∧ (0 : Int) < 256; omega, fun k => by show U64 (([] : List Int).getD k 0); simp [U64]⟩
def rO (es : List En) (m : Mc) (x : Int) : Mc × Int × Int :=
 if mayM m = false ∨ x < 0 then (zM, 0, 2) else if 4194304 < x then (zM, 0, 4) else ((rn es x.toNat m).1, (rn es x.toNat m).2, 0)
def RnPost (es : List En) (m : Mc) (x : Int) (w : World) (e : Ending) (w' : World) : Prop :=
 ∃ sp n cap, e = .returned (.tuple #[.agg (mcA (rO es m x).1 sp n cap), .int .i64 (rO es m x).2.1, .int .i64 (rO es m x).2.2]) ∧ (rO es m x).1.ok ∧ MS w'.heap.size w' sp n cap (rO es m x).1.me ∧ Below w.heap.size w w' ∧ (0 < n → ∃ gm, sp = some ⟨gm, 0, none⟩ ∧ w.heap.size ≤ gm ∧ MW w' gm (rO es m x).1.me)
theorem rnNo {es : List En} {m : Mc} {x : Int} {w w' : World} {er : Int} (hr : rO es m x = (zM, 0, er)) (hb : Below w.heap.size w w') : RnPost es m x w (.returned (.tuple #[.agg (mcA zM none 0 0), .int .i64 0, .int .i64 er])) w' := by
 refine ⟨none, 0, 0, by rw [hr], by rw [hr]; exact zM_ok, by rw [hr]; exact MS.nil0 _ _, hb, fun h => absurd h (by omega)⟩
theorem run_no {N : Nat} {es : List En} (m : Mc) (sp : Option Addr) (n cap : Nat) (sq : Option Addr) (nk ck : Nat) (x : Int) (w : World) (hok : m.ok) (hM : MS N w sp n cap m.me) (hS : ES N w sq nk ck es) (hx : -9223372036854775808 ≤ x ∧ x ≤ 9223372036854775807) (hbad : mayM m = false ∨ x < 0 ∨ 4194304 < x) :
   Calls Tryz.prog 137 #[.agg (mcA m sp n cap), .slice sq nk ck, .int .i64 x] w (RnPost es m x w) := by
 have A0 := (Arr.new w 27 (mcA m sp n cap)).alloc (.cells (mcA zM none 0 0) 27)
 have A1 := Arr.new (w.alloc (.cells (mcA m sp n cap) 27)) 27 (mcA zM none 0 0)
 simp only [World.size_alloc] at A1
 have hs0 := mcA_size hok.r16 sp n cap
 have hsz := mcA_size zM_ok.r16 none 0 0
 have hoz := mcA_one zM none 0 0
 have hb0 := (alloc_bel' w (.cells (mcA m sp n cap) 27)).alloc (by simp) (.cells (mcA zM none 0 0) 27)
 have hmay : ∀ U, Calls Tryz.prog 26 #[.agg (mcA m sp n cap)] U fun e w' => e = .returned (.bool (mayM m)) ∧ Below U.heap.size U w' := fun U => may_any m sp n cap U hok hM.len hM.small
 generalize hC : mcA m sp n cap = C at *
 cases hmm : mayM m with
 | false =>
   have hr : rO es m x = (zM, 0, 2) := by simp [rO, hmm]
   replace hr := Hid.mk' hr
   replace hmm := Hid.mk' hmm
   clear hbad
   go_enter Tryz.func137, Tryz.ntmps137
   go_wp2_with (first
     | (refine ld45 (by rfl) (.tmp 3) (by rfl) w.heap.size (by rfl) C hs0 A0 ?_)
     | (go_at_call 26; go_must (refine (hmay _).mono ?_; rintro e w1 ⟨rfl, hb1⟩; rw [hmm.out]; have B1 := hb0.trans (hb1.mono (by simp; omega)); have A01 := A0.below hb1 (by simp; omega); have A11 := A1.below hb1 (by simp)))
     | (refine st45 (by rfl) (.tmp 6) (.tmp 17) (by rfl) (w.heap.size + 1) (mcA zM none 0 0) (by rfl) (by rfl) hsz hoz _ hsz A11 ?_))
   exact bodyPost_ret (v := .tuple #[.agg (mcA zM none 0 0), .int .i64 0, .int .i64 2]) (res45 Tryz.results137 rfl rfl rfl hsz (A11.setRow _)) rfl (rnNo hr.out (below_setRow B1 (by omega) _))
 | true =>
   by_cases hx0 : x < 0
   · have hr : rO es m x = (zM, 0, 2) := by simp [rO, hx0]
     replace hr := Hid.mk' hr
     replace hmm := Hid.mk' hmm
     clear hbad
     go_enter Tryz.func137, Tryz.ntmps137
     go_wp2_with (first
       | (refine ld45 (by rfl) (.tmp 3) (by rfl) w.heap.size (by rfl) C hs0 A0 ?_)
       | (go_at_call 26; go_must (refine (hmay _).mono ?_; rintro e w1 ⟨rfl, hb1⟩; rw [hmm.out]; have B1 := hb0.trans (hb1.mono (by simp; omega)); have A01 := A0.below hb1 (by simp; omega); have A11 := A1.below hb1 (by simp)))
       | (refine st45 (by rfl) (.tmp 6) (.tmp 17) (by rfl) (w.heap.size + 1) (mcA zM none 0 0) (by rfl) (by rfl) hsz hoz _ hsz A11 ?_))
     exact bodyPost_ret (v := .tuple #[.agg (mcA zM none 0 0), .int .i64 0, .int .i64 2]) (res45 Tryz.results137 rfl rfl rfl hsz (A11.setRow _)) rfl (rnNo hr.out (below_setRow B1 (by omega) _))
   · have hx4 : 4194304 < x := by rcases hbad with h | h | h; rw [hmm] at h; cases h; exact absurd h hx0; exact h
     have hr : rO es m x = (zM, 0, 4) := by simp [rO, hmm, hx0, hx4]
     replace hr := Hid.mk' hr
     replace hmm := Hid.mk' hmm
     clear hbad
     go_enter Tryz.func137, Tryz.ntmps137
     go_wp2_with (first
       | (refine ld45 (by rfl) (.tmp 3) (by rfl) w.heap.size (by rfl) C hs0 A0 ?_)
       | (go_at_call 26; go_must (refine (hmay _).mono ?_; rintro e w1 ⟨rfl, hb1⟩; rw [hmm.out]; have B1 := hb0.trans (hb1.mono (by simp; omega)); have A01 := A0.below hb1 (by simp; omega); have A11 := A1.below hb1 (by simp)))
       | (refine st45 (by rfl) (.tmp 6) (.tmp 20) (by rfl) (w.heap.size + 1) (mcA zM none 0 0) (by rfl) (by rfl) hsz hoz _ hsz A11 ?_))
     exact bodyPost_ret (v := .tuple #[.agg (mcA zM none 0 0), .int .i64 0, .int .i64 4]) (res45 Tryz.results137 rfl rfl rfl hsz (A11.setRow _)) rfl (rnNo hr.out (below_setRow B1 (by omega) _))
theorem run_ok {N : Nat} {es : List En} (m : Mc) (sp : Option Addr) (n cap : Nat) (sq : Option Addr) (nk ck : Nat) (x : Int) (w : World) (hok : m.ok) (hM : MS N w sp n cap m.me) (hS : ES N w sq nk ck es) (hx : -9223372036854775808 ≤ x ∧ x ≤ 9223372036854775807) (hmay1 : mayM m = true) {F : Nat} (hxF : x = (F : Int)) (hF : F ≤ 4194304) :
   Calls Tryz.prog 137 #[.agg (mcA m sp n cap), .slice sq nk ck, .int .i64 x] w (RnPost es m x w) := by
 subst hxF
 have A0 := (Arr.new w 27 (mcA m sp n cap)).alloc (.cells (mcA zM none 0 0) 27)
 have A1 := Arr.new (w.alloc (.cells (mcA m sp n cap) 27)) 27 (mcA zM none 0 0)
 simp only [World.size_alloc] at A1
 have hs0 := mcA_size hok.r16 sp n cap
 have hsz := mcA_size zM_ok.r16 none 0 0
 have hoz := mcA_one zM none 0 0
 have hb0 := (alloc_bel' w (.cells (mcA m sp n cap) 27)).alloc (by simp) (.cells (mcA zM none 0 0) 27)
 have hmay : ∀ U, Calls Tryz.prog 26 #[.agg (mcA m sp n cap)] U fun e w' => e = .returned (.bool (mayM m)) ∧ Below U.heap.size U w' := fun U => may_any m sp n cap U hok hM.len hM.small
 have hsb : szB m.me.length = true := by unfold mayM at hmay1; exact (Bool.and_eq_true_iff.1 hmay1).1
 have hn := szB_le hsb
 rw [← hM.len.out] at hn
 have hn4 : n ≤ 4096 := hn.2
 have hl := hM.len
 have hxF : (F : Int) = (F : Int) := rfl
 have hr : rO es m F = ((rn es F m).1, ((rn es F m).2 : Int), 0) := by
   unfold rO
   rw [if_neg (by rw [hmay1]; simp), if_neg (by omega), Int.toNat_natCast]
 replace hr := Hid.mk' hr
 have hmm := Hid.mk' hmay1
 clear hmay1 hsb
 have hf0 : ¬ (F : Int) < 0 := by omega
 have hf1 : ¬ (4194304 : Int) < F := by omega
 have c18A := mcA_18 hok.r16 sp n cap
 have hb81 := fun (cp gm gp : Nat) => built81 m hok.r16 (some ⟨gm, 0, none⟩) n cp sq nk ck gp
 have hset : ∀ (cp gm : Nat), (mcA m sp n cap).setIfInBounds 18 (.slice (some ⟨gm, 0, none⟩) n cp) = mcA m (some ⟨gm, 0, none⟩) n cp := fun cp gm => by
   simp only [mcA, List.setIfInBounds_toArray]
   rw [mcL, List.set_cons_succ, List.set_append_right _ _ (by rw [by64_len, hok.r16]; omega), by64_len, hok.r16]
   rfl
 have hsl := hM.here
 have hSS := hS.here
 generalize hC : mcA m sp n cap = C at A0 A1 hb0 hmay hset c18A hs0 ⊢
 replace hC := Hid.mk' hC
 go_enter Tryz.func137, Tryz.ntmps137
 go_upto_region 6 with (first
     | (refine ld45 (by rfl) (.tmp 3) (by rfl) w.heap.size (by rfl) C hs0 A0 ?_)
     | (go_at_call 26; go_must (refine (hmay _).mono ?_; rintro e w1 ⟨rfl, hb1⟩; rw [hmm.out]; have B1 := hb0.trans (hb1.mono (by simp; omega)); have A01 := A0.below hb1 (by simp; omega); have A11 := A1.below hb1 (by simp); have d18 := (A01.cell 18).trans c18A; have f18 := A01.frozen 18))
     | (go_at_call 70; go_must (refine (clone64_any sp n cap m.me _ w1 (hsl.below B1) (by omega)).mono ?_; rintro e w2 ⟨gm, cap', rfl, hgm, hc1, hc2, hMW, hb2⟩; have B2 := B1.trans (hb2.mono B1.size); have A02 := A01.below hb2 A01.lt; have A12 := A11.below hb2 A11.lt; have d18' := (A02.cell 18).trans c18A; have f18' := A02.frozen 18)))
 have hsz1 := hb1.size
 simp only [World.size_alloc] at hsz1
 have hsz2 := hb2.size
 have A5 : Arr (w2.setCell ⟨w.heap.size, 18, none⟩ (.slice (some ⟨gm, 0, none⟩) n cap')) w.heap.size 27 (mcA m (some ⟨gm, 0, none⟩) n cap') := by have := A02.set 18 (.slice (some ⟨gm, 0, none⟩) n cap'); rw [hset] at this; exact this
 have A15 : Arr (w2.setCell ⟨w.heap.size, 18, none⟩ (.slice (some ⟨gm, 0, none⟩) n cap')) (w.heap.size + 1) 27 (mcA zM none 0 0) := A12.setOther _ (by simp)
 have MW5 : MW (w2.setCell ⟨w.heap.size, 18, none⟩ (.slice (some ⟨gm, 0, none⟩) n cap')) gm m.me := hMW.setOther _ (by show gm ≠ w.heap.size; omega)
 have B5 : Below w.heap.size w (w2.setCell ⟨w.heap.size, 18, none⟩ (.slice (some ⟨gm, 0, none⟩) n cap')) := B2.setCell (Nat.le_refl _) _
 generalize w2.setCell ⟨w.heap.size, 18, none⟩ (.slice (some ⟨gm, 0, none⟩) n cap') = W5 at A5 A15 MW5 B5 ⊢
 have hb81 := hb81 cap' gm
 have hgl := MW5.lt
 have hm5 := mcA_size hok.r16 (some ⟨gm, 0, none⟩) n cap'
 clear A0 A1 hb0 hmay B1 A01 A11 d18 f18 A02 A12 d18' f18' hb1 hb2 hMW B2 hset c18A hsl hs0 hC
 have hL5 := A15.lt
 refine rgn (fun u => Below W5.heap.size W5 u) ((Below.refl _ _).drew) (fun hHeld => ?_)
 refine tl 0 rfl (y45 (by rfl) (.tmp 3) rfl w.heap.size rfl (mcA m (some ⟨gm, 0, none⟩) n cap') hm5 (fun u hu => A5.below hu A5.lt)) ?_
 refine tk 1 rfl ?_
 refine rd2 2 4 rfl rfl (fun K hK => ?_) (fun K hK => ?_)
 · go_simp
   refine (newShelf_any _ sq nk ck rfl _).mono ?_
   rintro e u ⟨gp, rfl, hgp, hMp, hbu⟩
   have hHu : Below W5.heap.size W5 u := ((Below.refl _ W5).drew).trans (hbu.mono (by simp))
   have hus := hHu.size
   have hgp' : W5.heap.size ≤ gp := hgp
   have hBs := B5.size
   go_wp2_with fail
   refine ko hK hHu (fun hHeld => ?_)
   clear hK K
   refine tl 3 rfl (y_bd (by rfl) 248 #[(0, .tmp 25), (1, .tmp 27)] rfl (by rfl) (hb81 gp)) ?_
   refine rd 4 rfl (fun K hK => ?_)
   go_simp
   go_wp2_with fail
   refine ko hK (hHu.alloc (by omega) _) (fun hHeld => ?_)
   clear hK K
   refine rd 5 rfl (fun K hK => ?_)
   refine step_wantV rfl (wp_store_row 248 (.tmp 9) (.tmp 28) rfl u.heap.size _ rfl rfl 248 _ (Arr.new u 248 _) (by rw [enA_size hok.r16]; exact size81) (by rw [enA_size hok.r16]; rfl) (enA_one _ _ _ _ _ _ _ _) ?_)
   refine ko hK (below_setRow (hHu.alloc (by omega) _) (by omega) _) (fun hHeld => ?_)
   clear hK K
   refine dn ?_
   have hgpl := hMp.lt
   have hEN := (Arr.new u 248 #[.int .u64 0, .int .u64 0, .int .u64 0, .int .u64 0, .int .u64 0, .int .u64 0, .int .u64 0, .int .u64 0, .int .u64 0, .int .u64 0, .int .u64 0, .int .u64 0, .int .u64 0, .int .u64 0, .int .u64 0, .int .u64 0, .int .u64 0, .int .u8 0, .slice none 0 0, .slice none 0 0, .map none]).setRow (mcL m (.slice (some ⟨gm, 0, none⟩) n cap') ++ [Value.slice sq nk ck, Value.map (some gp)]).toArray
   have hMW' : MW ((u.alloc (.cells #[.int .u64 0, .int .u64 0, .int .u64 0, .int .u64 0, .int .u64 0, .int .u64 0, .int .u64 0, .int .u64 0, .int .u64 0, .int .u64 0, .int .u64 0, .int .u64 0, .int .u64 0, .int .u64 0, .int .u64 0, .int .u64 0, .int .u64 0, .int .u8 0, .slice none 0 0, .slice none 0 0, .map none] 248)).setRow u.heap.size (mcL m (.slice (some ⟨gm, 0, none⟩) n cap') ++ [Value.slice sq nk ck, Value.map (some gp)]).toArray) gm m.me := ((MW5.below hHu hgl).block (Below.heap_alloc _ _ _ (by omega))).block (setRow_other _ _ _ _ (by omega))
   have hMp' : MapH ((u.alloc (.cells #[.int .u64 0, .int .u64 0, .int .u64 0, .int .u64 0, .int .u64 0, .int .u64 0, .int .u64 0, .int .u64 0, .int .u64 0, .int .u64 0, .int .u64 0, .int .u64 0, .int .u64 0, .int .u64 0, .int .u64 0, .int .u64 0, .int .u64 0, .int .u8 0, .slice none 0 0, .slice none 0 0, .map none] 248)).setRow u.heap.size (mcL m (.slice (some ⟨gm, 0, none⟩) n cap') ++ [Value.slice sq nk ck, Value.map (some gp)]).toArray) gp (fun _ => none) := (hMp.same (Below.heap_alloc _ _ _ hgpl)).same (setRow_other _ _ _ _ (by omega))
   have hBU : Below w.heap.size w ((u.alloc (.cells #[.int .u64 0, .int .u64 0, .int .u64 0, .int .u64 0, .int .u64 0, .int .u64 0, .int .u64 0, .int .u64 0, .int .u64 0, .int .u64 0, .int .u64 0, .int .u64 0, .int .u64 0, .int .u64 0, .int .u64 0, .int .u64 0, .int .u64 0, .int .u8 0, .slice none 0 0, .slice none 0 0, .map none] 248)).setRow u.heap.size (mcL m (.slice (some ⟨gm, 0, none⟩) n cap') ++ [Value.slice sq nk ck, Value.map (some gp)]).toArray) := B5.trans ((below_setRow (hHu.alloc (by omega) _) (by omega) _).mono B5.size)
   have hVM : VM w.heap.size es ((u.alloc (.cells #[.int .u64 0, .int .u64 0, .int .u64 0, .int .u64 0, .int .u64 0, .int .u64 0, .int .u64 0, .int .u64 0, .int .u64 0, .int .u64 0, .int .u64 0, .int .u64 0, .int .u64 0, .int .u64 0, .int .u64 0, .int .u64 0, .int .u64 0, .int .u8 0, .slice none 0 0, .slice none 0 0, .map none] 248)).setRow u.heap.size (mcL m (.slice (some ⟨gm, 0, none⟩) n cap') ++ [Value.slice sq nk ck, Value.map (some gp)]).toArray) u.heap.size gm gp n cap' sq nk ck m := ⟨⟨hEN, hMW', by omega, hl, hn4, ⟨hc1, hc2⟩, hok⟩, hSS.below hBU, ⟨_, hMp', FIV.nil es⟩, ⟨by omega, by omega, by omega⟩, ⟨by omega, by omega⟩⟩
   have A1U : Arr ((u.alloc (.cells #[.int .u64 0, .int .u64 0, .int .u64 0, .int .u64 0, .int .u64 0, .int .u64 0, .int .u64 0, .int .u64 0, .int .u64 0, .int .u64 0, .int .u64 0, .int .u64 0, .int .u64 0, .int .u64 0, .int .u64 0, .int .u64 0, .int .u64 0, .int .u8 0, .slice none 0 0, .slice none 0 0, .map none] 248)).setRow u.heap.size (mcL m (.slice (some ⟨gm, 0, none⟩) n cap') ++ [Value.slice sq nk ck, Value.map (some gp)]).toArray) (w.heap.size + 1) 27 (mcA zM none 0 0) := ((A15.below hHu (by omega)).alloc _).setRowOther _ (by omega)
   generalize hUU : ((u.alloc (.cells #[.int .u64 0, .int .u64 0, .int .u64 0, .int .u64 0, .int .u64 0, .int .u64 0, .int .u64 0, .int .u64 0, .int .u64 0, .int .u64 0, .int .u64 0, .int .u64 0, .int .u64 0, .int .u64 0, .int .u64 0, .int .u64 0, .int .u64 0, .int .u8 0, .slice none 0 0, .slice none 0 0, .map none] 248)).setRow u.heap.size (mcL m (.slice (some ⟨gm, 0, none⟩) n cap') ++ [Value.slice sq nk ck, Value.map (some gp)]).toArray) = U at hVM A1U
   have hBU' : Below w.heap.size w U := by rw [← hUU]; exact hBU
   clear hUU hEN hMW' hMp' hBU
   go_wp2_with (first
     | (go_at_call 171; go_must (refine (run_any U hVM (F := F) rfl hF).mono ?_; rintro e u3 ⟨rfl, hcg, hV3⟩; have A13 := hVM.oth A1U (by decide) (by decide) hcg; have hB3 := hBU'.trans (hcg.low (by have := hBU'.size; omega) (fun k hk hs => by rcases hs with e | e | e <;> omega)); have hE3 := hV3.en; have hr3 : u3.rangeAt u.heap.size 0 (mcL (rn es F m).1 (.slice (some ⟨gm, 0, none⟩) n cap')) := (fun j v hv => by rw [Nat.zero_add, hE3.eng.cell, List.getElem?_toArray, List.getElem?_append_left (List.getElem?_eq_some_iff.1 hv).1]; exact hv)))
     | (refine wpList_load_mid (by rfl) 27 (.tmp 31) (by rfl) u.heap.size 0 (by rfl) (mcL (rn es F m).1 (.slice (some ⟨gm, 0, none⟩) n cap')) _ hr3 Tryz.underlying27 rfl (by rw [mcL_len hE3.ok.r16]; exact size45) ?_)
     | (refine st45 (by rfl) (.tmp 6) (.tmp 32) (by rfl) (w.heap.size + 1) (mcA (rn es F m).1 (some ⟨gm, 0, none⟩) n cap') (by rfl) (by rfl) (mcA_size hE3.ok.r16 _ _ _) (mcA_one _ _ _ _) _ hsz A13 ?_))
   refine bodyPost_ret (v := .tuple #[.agg (mcA (rn es F m).1 (some ⟨gm, 0, none⟩) n cap'), .int .i64 ((rn es F m).2 : Int), .int .i64 0]) (res45 Tryz.results137 rfl rfl rfl (mcA_size hE3.ok.r16 _ _ _) (A13.setRow _)) rfl ?_
   have hMWf : MW (u3.setRow (w.heap.size + 1) (mcA (rn es F m).1 (some ⟨gm, 0, none⟩) n cap')) gm (rn es F m).1.me := hE3.mem.block (setRow_other _ _ _ _ (by omega))
   exact ⟨some ⟨gm, 0, none⟩, n, cap', by rw [hr.out], by rw [hr.out]; exact hE3.ok, by rw [hr.out]; exact hMWf.ms hE3.len.out (by omega) ⟨hc1, hc2⟩, below_setRow hB3 (by omega) _, fun _ => ⟨gm, rfl, by omega, by rw [hr.out]; exact hMWf⟩⟩
 · go_simp
   go_wp2_with fail
   refine ko hK (((Below.refl W5.heap.size W5).drew).alloc (by simp) _) (fun hHeld => ?_)
   clear hK K
   refine rd 2 rfl (fun K hK => ?_)
   go_simp
   refine (newShelf_any _ sq nk ck rfl _).mono ?_
   rintro e u ⟨gp, rfl, hgp, hMp, hbu⟩
   have hHu : Below W5.heap.size W5 u := (((Below.refl W5.heap.size W5).drew).alloc (by simp) _).trans (hbu.mono (by simp))
   have hZu := (Arr.new W5.drew 248 #[.int .u64 0, .int .u64 0, .int .u64 0, .int .u64 0, .int .u64 0, .int .u64 0, .int .u64 0, .int .u64 0, .int .u64 0, .int .u64 0, .int .u64 0, .int .u64 0, .int .u64 0, .int .u64 0, .int .u64 0, .int .u64 0, .int .u64 0, .int .u8 0, .slice none 0 0, .slice none 0 0, .map none]).below hbu (by simp)
   have hus := hbu.size
   try simp only [World.size_alloc] at hus
   try simp only [World.size_alloc] at hgp
   go_wp2_with fail
   refine ko hK hHu (fun hHeld => ?_)
   clear hK K
   refine tl 3 rfl (y_bd (by rfl) 248 #[(0, .tmp 25), (1, .tmp 27)] rfl (by rfl) (hb81 gp)) ?_
   refine rd 5 rfl (fun K hK => ?_)
   refine step_wantV rfl (wp_store_row 248 (.tmp 9) (.tmp 28) rfl W5.heap.size _ rfl rfl 248 _ hZu (by rw [enA_size hok.r16]; exact size81) (by rw [enA_size hok.r16]; rfl) (enA_one _ _ _ _ _ _ _ _) ?_)
   refine ko hK (below_setRow hHu (Nat.le_refl _) _) (fun hHeld => ?_)
   clear hK K
   refine dn ?_
   have hgpl := hMp.lt
   have hgp' : W5.heap.size + 1 ≤ gp := by simpa using hgp
   have hBs := B5.size
   have hEN := hZu.setRow (mcL m (.slice (some ⟨gm, 0, none⟩) n cap') ++ [Value.slice sq nk ck, Value.map (some gp)]).toArray
   have hMW' : MW (u.setRow W5.heap.size (mcL m (.slice (some ⟨gm, 0, none⟩) n cap') ++ [Value.slice sq nk ck, Value.map (some gp)]).toArray) gm m.me := (MW5.below hHu hgl).block (setRow_other _ _ _ _ (by omega))
   have hMp' : MapH (u.setRow W5.heap.size (mcL m (.slice (some ⟨gm, 0, none⟩) n cap') ++ [Value.slice sq nk ck, Value.map (some gp)]).toArray) gp (fun _ => none) := hMp.same (setRow_other _ _ _ _ (by omega))
   have hBU : Below w.heap.size w (u.setRow W5.heap.size (mcL m (.slice (some ⟨gm, 0, none⟩) n cap') ++ [Value.slice sq nk ck, Value.map (some gp)]).toArray) := B5.trans ((below_setRow hHu (Nat.le_refl _) _).mono B5.size)
   have hVM : VM w.heap.size es (u.setRow W5.heap.size (mcL m (.slice (some ⟨gm, 0, none⟩) n cap') ++ [Value.slice sq nk ck, Value.map (some gp)]).toArray) W5.heap.size gm gp n cap' sq nk ck m := ⟨⟨hEN, hMW', by omega, hl, hn4, ⟨hc1, hc2⟩, hok⟩, hSS.below hBU, ⟨_, hMp', FIV.nil es⟩, ⟨by have := B5.size; omega, by omega, by omega⟩, ⟨by omega, by omega⟩⟩
   have A1U : Arr (u.setRow W5.heap.size (mcL m (.slice (some ⟨gm, 0, none⟩) n cap') ++ [Value.slice sq nk ck, Value.map (some gp)]).toArray) (w.heap.size + 1) 27 (mcA zM none 0 0) := (A15.below hHu (by omega)).setRowOther _ (by omega)
   generalize hUU : (u.setRow W5.heap.size (mcL m (.slice (some ⟨gm, 0, none⟩) n cap') ++ [Value.slice sq nk ck, Value.map (some gp)]).toArray) = U at hVM A1U
   have hBU' : Below w.heap.size w U := by rw [← hUU]; exact hBU
   clear hUU hEN hMW' hMp' hBU
   go_wp2_with (first
     | (go_at_call 171; go_must (refine (run_any U hVM (F := F) rfl hF).mono ?_; rintro e u3 ⟨rfl, hcg, hV3⟩; have A13 := hVM.oth A1U (by decide) (by decide) hcg; have hB3 := hBU'.trans (hcg.low (by have := hBU'.size; omega) (fun k hk hs => by rcases hs with e | e | e <;> omega)); have hE3 := hV3.en; have hr3 : u3.rangeAt W5.heap.size 0 (mcL (rn es F m).1 (.slice (some ⟨gm, 0, none⟩) n cap')) := (fun j v hv => by rw [Nat.zero_add, hE3.eng.cell, List.getElem?_toArray, List.getElem?_append_left (List.getElem?_eq_some_iff.1 hv).1]; exact hv)))
     | (refine wpList_load_mid (by rfl) 27 (.tmp 31) (by rfl) W5.heap.size 0 (by rfl) (mcL (rn es F m).1 (.slice (some ⟨gm, 0, none⟩) n cap')) _ hr3 Tryz.underlying27 rfl (by rw [mcL_len hE3.ok.r16]; exact size45) ?_)
     | (refine st45 (by rfl) (.tmp 6) (.tmp 32) (by rfl) (w.heap.size + 1) (mcA (rn es F m).1 (some ⟨gm, 0, none⟩) n cap') (by rfl) (by rfl) (mcA_size hE3.ok.r16 _ _ _) (mcA_one _ _ _ _) _ hsz A13 ?_))
   refine bodyPost_ret (v := .tuple #[.agg (mcA (rn es F m).1 (some ⟨gm, 0, none⟩) n cap'), .int .i64 ((rn es F m).2 : Int), .int .i64 0]) (res45 Tryz.results137 rfl rfl rfl (mcA_size hE3.ok.r16 _ _ _) (A13.setRow _)) rfl ?_
   have hMWf : MW (u3.setRow (w.heap.size + 1) (mcA (rn es F m).1 (some ⟨gm, 0, none⟩) n cap')) gm (rn es F m).1.me := hE3.mem.block (setRow_other _ _ _ _ (by omega))
   exact ⟨some ⟨gm, 0, none⟩, n, cap', by rw [hr.out], by rw [hr.out]; exact hE3.ok, by rw [hr.out]; exact hMWf.ms hE3.len.out (by omega) ⟨hc1, hc2⟩, below_setRow hB3 (by omega) _, fun _ => ⟨gm, rfl, by omega, by rw [hr.out]; exact hMWf⟩⟩
end Go.Proofs.YtagebcbnenehfaaGreat
