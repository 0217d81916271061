/- QVs4. -/
import Derived.Test.YtagebcbnenehfaaGreatX23
namespace Go.Proofs.YtagebcbnenehfaaGreat
open Go.RowKit
set_option maxRecDepth 100000
set_option linter.unusedVariables false
set_option linter.unusedSimpArgs false
set_option maxHeartbeats 40000000
theorem step_S4 {N : Nat} {es : List En} {g gm gp n cap pN : Nat} {sp : Option Addr} {nk ck : Nat} {m : Mc} {x i : Int} {a b c : Nat} {o : Int} (hol : o = 23) (w : World) (hV : VM N es w g gm gp n cap sp nk ck m) (hp : m.pc = (pN : Int)) (hpn : pN < n) (hx : m.me.getD pN 0 = x) (hd : dOk x = true) (ho : dOp x = o) (ha : dA x = (a : Nat)) (hb : dB x = (b : Nat)) (hc : dC x = (c : Nat)) (hi : dI x = i) :
   Calls Tryz.prog 188 #[.pointer (some ⟨g, 0, none⟩)] w (StPost N es g gm gp n cap sp nk ck m (ex es m o a b c i) w) := by
 replace hol := Hid.mk' hol
 have hE := hV.en
 have hok := hE.ok
 have hU : U64 x := by rw [← hx]; exact hok.me _
 have hR := dRg hU
 rw [ha, hb, hc, hi] at hR
 obtain ⟨-, ha2, hb2, hc2, hi2⟩ := hR
 have haI : (a : Int) < 16 := ha2.2
 have hbI : (b : Int) < 16 := hb2.2
 have hcI : (c : Int) < 16 := hc2.2
 have ha16 : a < 16 := by omega
 have hb16 : b < 16 := by omega
 have hc16 : c < 16 := by omega
 have hi0 : 0 ≤ i := hi2.1
 have hi1 : i < 4294967296 := hi2.2
 have hUi : U64 i := by unfold U64; omega
 have hwi : IntKind.u64.wrap i = i := wrap_u64 hUi
 have hUa : U64 (m.get a) := hok.rg a
 have hUb : U64 (m.get b) := hok.rg b
 have hUc : U64 (m.get c) := hok.rg c
 have hv := dV_yes hd
 rw [ho, ha, hb, hc, hi] at hv
 have c0 := hE.c0
 have c18 := hE.c18
 have hn := hE.small
 have cx := hE.cm hpn
 rw [hx] at cx
 have hlen := hE.len
 replace hv := Hid.mk' hv
 replace hd := Hid.mk' hd
 replace hp := Hid.mk' hp
 clear ho ha hb hc hi ha2 hb2 hc2 hi2 hx hE
 go_enter Tryz.func188, Tryz.ntmps188
 go_upto_region 3 with (first
   | (go_at_call 197; go_must (refine (word_ok w c18 hn hp.out hpn).mono ?_; rintro e w1 ⟨rfl, h⟩; replace h := h.symm; subst h))
   | (go_at_call 135; go_must (refine (decode_any w hU).mono ?_; rintro e w2 ⟨rfl, hb2⟩; rw [hv.out, hd.out]; have A0 := Arr.new w2 88 (cdA o a b c i); have hB0 := hb2.alloc hb2.size (.cells (cdA o a b c i) 88); have hV2 := hV.bel hB0; have rb0 := hV2.en.cr hb16; have q1 : (w2.alloc (.cells (cdA o a b c i) 88)).cell? ⟨w2.heap.size, 1, none⟩ = some (.int .u8 (a : Int)) := A0.cell 1; have q2 : (w2.alloc (.cells (cdA o a b c i) 88)).cell? ⟨w2.heap.size, 2, none⟩ = some (.int .u8 (b : Int)) := A0.cell 2; have q4 : (w2.alloc (.cells (cdA o a b c i) 88)).cell? ⟨w2.heap.size, 4, none⟩ = some (.int .u32 i) := A0.cell 4; change _ = some (Value.int IntKind.u64 (m.get b)) at rb0; generalize hcd : cdA o a b c i = CD at A0 hB0 hV2 rb0 q1 q2 q4 ⊢))
   | (refine wpList_store_new w2 _ 88 (by rfl) 88 (.tmp 2) (.tmp 18) (by rfl) CD (by rfl) (by rfl) (by rw [← hcd]; exact size25) (by rw [← hcd]; rfl) (by rw [← hcd]; exact one25 _ _ _ _ _) ?_))
 refine rgn (fun u => u = (w2.alloc (.cells CD 88)).drew) (rfl) (fun hHeld => ?_)
 refine tk 0 rfl ?_
 refine tk 1 rfl ?_
 refine tks 2 rfl ?_
 refine tk 3 rfl ?_
 refine tk 4 rfl ?_
 refine tk 5 rfl ?_
 refine tk 6 rfl ?_
 refine tk 7 rfl ?_
 refine tk 8 rfl ?_
 refine tks 9 rfl ?_
 refine tk 10 rfl ?_
 refine tk 11 rfl ?_
 refine tk 12 rfl ?_
 refine tk 13 rfl ?_
 refine tks 14 rfl ?_
 refine tk 15 rfl ?_
 refine tks 16 rfl ?_
 refine tk 17 rfl ?_
 refine tk 18 rfl ?_
 refine tk 19 rfl ?_
 refine tk 20 rfl ?_
 refine dn ?_
 go_upto_region 4 with fail
 obtain ⟨W, hW⟩ : ∃ W : World, W = (w2.alloc (.cells CD 88)).drew := ⟨_, rfl⟩
 obtain ⟨G, hG⟩ : ∃ G : Nat, G = w2.heap.size := ⟨_, rfl⟩
 have AW : Arr W G 88 CD := by rw [hW, hG]; exact A0
 have hBW : Below w.heap.size w W := by rw [hW]; exact hB0.drew
 have hVW : VM N es W g gm gp n cap sp nk ck m := by rw [hW]; exact hV2.bel ((Below.refl _ _).drew)
 rw [← hW, ← hG]
 clear hW hG A0 hB0 hV2 rb0 q1 q2 q4 hb2 cx c0 c18 hv hd hp
 have hEW := hVW.en
 have c0 := hEW.c0
 have c17 := hEW.c17
 have c18 := hEW.c18
 have x0 : W.cell? ⟨g, 19, none⟩ = some (.slice sp nk ck) := hEW.cx 0
 have x1 : W.cell? ⟨g, 20, none⟩ = some (.map (some gp)) := hEW.cx 1
 have ra := hEW.cr ha16
 have rb := hEW.cr hb16
 have rc := hEW.cr hc16
 change _ = some (Value.int IntKind.u64 (m.get a)) at ra
 change _ = some (Value.int IntKind.u64 (m.get b)) at rb
 change _ = some (Value.int IntKind.u64 (m.get c)) at rc
 have fz := hEW.fz
 have fm := hEW.fm
 have hne := hEW.ne
 have hGg : g ≠ G := fun e => by rw [e] at hEW; have h1 := hEW.eng; rw [Arr, AW] at h1; cases h1
 subst hcd
 have k0 : W.cell? ⟨G, 0, none⟩ = some (.int .u8 o) := AW.cell 0
 have k1 : W.cell? ⟨G, 1, none⟩ = some (.int .u8 (a : Int)) := AW.cell 1
 have k3 : W.cell? ⟨G, 3, none⟩ = some (.int .u8 (c : Int)) := AW.cell 3
 have c0' : ∀ v, (W.setCell ⟨g, 1 + a, none⟩ v).cell? ⟨g, 0, none⟩ = some (.int .u64 m.pc) := fun v => (cell_set_ne v (fun e => by injection e with _ e2 _; omega)).trans c0
 have f' : ∀ v j, (W.setCell ⟨g, 1 + a, none⟩ v).frozen? ⟨g, j, none⟩ = false := fun v j => (hEW.eng.set (1 + a) v).frozen j
 rcases hol.out with rfl
 · have hb0 := hUb.1
   have hc0 := hUc.1
   by_cases h1 : 128 < m.get c
   · have hex : ex es m 23 a b c i = none := by simp [ex, hs, h1]
     replace hex := Hid.mk' hex
     go_wp2_with (first | (refine ldA25 (by rfl) (.tmp 2) (by rfl) G (by rfl) (cdA 23 a b c i) rfl AW ?_) | (go_at_call 198; go_must (refine (hash_1 W hEW ha16 hb16 hc16 h1).mono ?_; rintro e w1 ⟨rfl, hb1⟩)))
     exact ⟨rfl, stNo hV hex.out (hBW.trans (hb1.mono hBW.size))⟩
   by_cases h2 : m.get a + (4 : Int) ≤ n
   rotate_left
   · have h2' : ¬ m.get a + 4 ≤ (m.me.length : Int) := by rw [← hlen.out]; exact h2
     replace h2' := Hid.mk' h2'
     have hex : ex es m 23 a b c i = none := by simp [ex, hs, h1, h2'.out]
     replace hex := Hid.mk' hex
     go_wp2_with (first | (refine ldA25 (by rfl) (.tmp 2) (by rfl) G (by rfl) (cdA 23 a b c i) rfl AW ?_) | (go_at_call 198; go_must (refine (hash_2 W hEW ha16 hb16 hc16 h1 h2).mono ?_; rintro e w1 ⟨rfl, hb1⟩)))
     exact ⟨rfl, stNo hV hex.out (hBW.trans (hb1.mono hBW.size))⟩
   have h2' : m.get a + 4 ≤ (m.me.length : Int) := by rw [← hlen.out]; exact h2
   replace h2' := Hid.mk' h2'
   by_cases h3 : m.get c = 0 ∨ m.get b + (m.get c + 7) / 8 ≤ n
   rotate_left
   · have h3a : m.get c ≠ 0 := fun e => h3 (.inl e)
     have h3b : ¬ m.get b + (m.get c + 7) / 8 ≤ n := fun e => h3 (.inr e)
     have h3' : ¬ (m.get c = 0 ∨ m.get b + (m.get c + 7) / 8 ≤ (m.me.length : Int)) := by rw [← hlen.out]; exact h3
     replace h3' := Hid.mk' h3'
     replace h3 := Hid.mk' h3
     have hex : ex es m 23 a b c i = none := by simp [ex, hs, h1, h2'.out, h3'.out]
     replace hex := Hid.mk' hex
     go_wp2_with (first | (refine ldA25 (by rfl) (.tmp 2) (by rfl) G (by rfl) (cdA 23 a b c i) rfl AW ?_) | (go_at_call 198; go_must (refine (hash_3 W hEW ha16 hb16 hc16 h1 h2 h3a h3b).mono ?_; rintro e w1 ⟨rfl, hb1⟩)))
     exact ⟨rfl, stNo hV hex.out (hBW.trans (hb1.mono hBW.size))⟩
   have h3' : m.get c = 0 ∨ m.get b + (m.get c + 7) / 8 ≤ (m.me.length : Int) := by rw [← hlen.out]; exact h3
   replace h3' := Hid.mk' h3'
   replace h3 := Hid.mk' h3
   rcases hm : mkL i with _ | P
   · replace hm := Hid.mk' hm
     have hex : ex es m 23 a b c i = none := by simp [ex, hs, h1, h2'.out, h3'.out, hm.out]
     replace hex := Hid.mk' hex
     go_wp2_with (first | (refine ldA25 (by rfl) (.tmp 2) (by rfl) G (by rfl) (cdA 23 a b c i) rfl AW ?_) | (go_at_call 198; go_must (refine (hash_4 W hEW ha16 hb16 hc16 h1 h2 h3.out ⟨hi0, hi1⟩ hm.out).mono ?_; rintro e w1 ⟨rfl, hb1⟩)))
     exact ⟨rfl, stNo hV hex.out (hBW.trans (hb1.mono hBW.size))⟩
   · replace hm := Hid.mk' hm
     obtain ⟨M, hM⟩ : ∃ M : List Int, M = put4 m.me (m.get a).toNat (wsu (P ++ fbL (m.wds (m.get b).toNat) (m.get c).toNat)) := ⟨_, rfl⟩
     have hex : ex es m 23 a b c i = some { m.nxt with me := M } := by rw [hM]; simp [ex, hs, h1, h2'.out, h3'.out, hm.out, Mc.nxt]
     replace hex := Hid.mk' hex
     replace hM := Hid.mk' hM
     go_wp2_with (first | (refine ldA25 (by rfl) (.tmp 2) (by rfl) G (by rfl) (cdA 23 a b c i) rfl AW ?_) | (go_at_call 198; go_must (refine (hash_ok W hEW ha16 hb16 hc16 h1 h2 h3.out ⟨hi0, hi1⟩ hm.out (mkL_one hm.out)).mono ?_; rintro e w1 ⟨rfl, hcg, hE1⟩; rw [← hM.out] at hE1; obtain ⟨hV1, hb1⟩ := hVW.chg hcg hE1; have c01 := hE1.c0; have f1 := hE1.fz; have hs1 := hcg.size; clear hE1 hcg)))
     exact ⟨rfl, _, results_none Tryz.results188 _ _ _, stYes hBW hV hex.out (hb1.sg _ _) (by simpa using hs1) (hV1.setPc (U64.wrap _))⟩
end Go.Proofs.YtagebcbnenehfaaGreat
