/- QYi. -/
import Derived.Test.YtagebcbnenehfaaGreatX31
import Derived.Test.YtagebcbnenehfaaGreatX47
namespace Go.Proofs.YtagebcbnenehfaaGreat
open Go.RowKit
set_option maxRecDepth 100000
set_option linter.unusedVariables false
set_option linter.unusedSimpArgs false
set_option maxHeartbeats 40000000
theorem do_o {o : Int} {N : Nat} {es : List En} {g gm n cap pN : Nat} {sp : Option Addr} {nk ck : Nat} {m : Mc} {x i : Int} {a b c : Nat} (w : World) (hV : DM N es w g gm n cap sp nk ck m) (hp : m.pc = (pN : Int)) (hpn : pN < n) (hx : m.me.getD pN 0 = x) (hd : dOk x = true) (ho : dOp x = o) (ha : dA x = (a : Nat)) (hb : dB x = (b : Nat)) (hc : dC x = (c : Nat)) (hi : dI x = i) (ho5 : 5 ≤ o ∧ o ≤ 16) :
   Calls Tryz.prog 167 #[.pointer (some ⟨g, 0, none⟩), .slice sp nk ck] w (DoPost N es g gm n cap sp nk ck m (ex es m o a b c i) w) := by
 have z1 : (o == 1) = false := by simp; omega
 have z2 : (o == 2) = false := by simp; omega
 have z3 : (o == 3) = false := by simp; omega
 have z4 : (o == 4) = false := by simp; omega
 have z17 : (o == 17) = false := by simp; omega
 have z18 : (o == 18) = false := by simp; omega
 have z20 : (o == 20) = false := by simp; omega
 have z21 : (o == 21) = false := by simp; omega
 have z19 : (o == 19) = false := by simp; omega
 have z22 : (o == 22) = false := by simp; omega
 have z23 : (o == 23) = false := by simp; omega
 have z24 : (o == 24) = false := by simp; omega
 have z25 : (o == 25) = false := by simp; omega
 have hE := hV.en
 have hok := hE.ok
 have hU : U64 x := by rw [← hx]; exact hok.me _
 have hR := dRg hU
 rw [ha, hb, hc, hi] at hR
 obtain ⟨-, ha2, hb2, hc2, hi2⟩ := hR
 have haI : (a : Int) < 16 := ha2.2
 have hbI : (b : Int) < 16 := hb2.2
 have hcI : (c : Int) < 16 := hc2.2
 have ha16 : a < 16 := by omega
 have hb16 : b < 16 := by omega
 have hc16 : c < 16 := by omega
 have hi0 : 0 ≤ i := hi2.1
 have hi1 : i < 4294967296 := hi2.2
 have hUi : U64 i := by unfold U64; omega
 have hwi : IntKind.u64.wrap i = i := wrap_u64 hUi
 have hUa : U64 (m.get a) := hok.rg a
 have hUb : U64 (m.get b) := hok.rg b
 have hUc : U64 (m.get c) := hok.rg c
 have hv := dV_yes hd
 rw [ho, ha, hb, hc, hi] at hv
 have c0 := hE.c0
 rw [hp] at c0
 have c18 := hE.c18
 have hn := hE.small
 have wn : IntKind.u64.wrap (n : Int) = n := wrap64_of (by omega) (by omega)
 have hpn1 : ¬ (n : Int) ≤ (pN : Int) := by omega
 have hpn2 : (pN : Int) < (n : Int) := by omega
 have cx := hE.cm hpn
 rw [hx] at cx
 have hlen := hE.len
 replace hv := Hid.mk' hv
 replace hd := Hid.mk' hd
 replace hp := Hid.mk' hp
 have hx2 := Hid.mk' hx
 clear ho ha hb hc hi ha2 hb2 hc2 hi2 hx hE
 go_enter Tryz.func167, Tryz.ntmps167
 go_upto_region 4 with fail
 go_cut [6, 7] from 36 to 49 (fun p q wc => ∃ G, (p = .pointer (some ⟨G, 0, none⟩) ∧ q = .bool true) ∧ Arr wc G 88 (cdA o a b c i) ∧ Below w.heap.size w wc)
 case first =>
   refine rgn (fun u => Below w.heap.size w u) ((Below.refl _ _).drew) (fun hHeld => ?_)
   refine tk 0 rfl ?_
   refine tk 1 rfl ?_
   refine tk 2 rfl ?_
   refine tk 3 rfl (hy := by (intro u hSw; have c18 := (hV.bel hSw).en.c18; go_simp; try (with_reducible rfl))) ?_
   refine tk 4 rfl ?_
   refine tk 5 rfl ?_
   refine tk 6 rfl ?_
   refine tk 7 rfl (hy := by (intro u hSw; have c0 := (hV.bel hSw).en.c0; rw [hp.out] at c0; go_simp; try (with_reducible rfl))) ?_
   refine tk 8 rfl ?_
   refine tk 9 rfl (hy := by (intro u hSw; have cx := (hV.bel hSw).en.cm hpn; rw [hx2.out] at cx; go_simp; try (with_reducible rfl))) ?_
   refine rd2 10 14 rfl rfl (fun K hK => ?_) (fun K hK => ?_)
   · go_simp
     refine (refdecode_any _ hU).mono ?_
     rintro e w2 ⟨rfl, hb2⟩
     rw [hv.out, hd.out]
     have hB2 : Below w.heap.size w w2 := hHeld.trans (hb2.mono (hHeld.size))
     go_wp2_with fail
     refine ko hK hB2 (fun hHeld => ?_)
     clear hK K
     refine tk 11 rfl ?_
     refine tk 12 rfl ?_
     refine tk 13 rfl ?_
     refine rd 14 rfl (fun K hK => ?_)
     go_simp
     go_wp2_with fail
     refine ko hK (hB2.alloc hB2.size _) (fun hHeld => ?_)
     clear hK K
     refine rd 15 rfl (fun K hK => ?_)
     refine step_wantV rfl (wp_store_row 88 (.tmp 6) (.tmp 48) rfl w2.heap.size _ rfl rfl 88 _ (Arr.new w2 88 #[.int .u8 0, .int .u8 0, .int .u8 0, .int .u8 0, .int .u32 0]) (by rw [cdA_size]; exact size25) (by rw [cdA_size]; rfl) (one25 _ _ _ _ _) ?_)
     refine ko hK (below_setRow (hB2.alloc hB2.size _) hB2.size _) (fun hHeld => ?_)
     clear hK K
     refine tk 16 rfl ?_
     refine dn ?_
     go_wp2_with fail
     go_meet
     exact ⟨_, ⟨rfl, rfl⟩, (Arr.new w2 88 #[.int .u8 0, .int .u8 0, .int .u8 0, .int .u8 0, .int .u32 0]).setRow _, below_setRow (hB2.alloc hB2.size _) hB2.size _⟩
   · go_simp
     go_wp2_with fail
     refine ko hK ((Below.refl _ w).drew.alloc (Nat.le_refl _) _) (fun hHeld => ?_)
     clear hK K
     refine rd 10 rfl (fun K hK => ?_)
     go_simp
     refine (refdecode_any _ hU).mono ?_
     rintro e w2 ⟨rfl, hb2⟩
     rw [hv.out, hd.out]
     have hB2 : Below w.heap.size w w2 := hHeld.trans (hb2.mono (hHeld.size))
     go_wp2_with fail
     have AZ := (Arr.new w.drew 88 #[.int .u8 0, .int .u8 0, .int .u8 0, .int .u8 0, .int .u32 0]).below hb2 (by simp)
     refine ko hK hB2 (fun hHeld => ?_)
     clear hK K
     refine tk 11 rfl ?_
     refine tk 12 rfl ?_
     refine tk 13 rfl ?_
     refine rd 15 rfl (fun K hK => ?_)
     refine step_wantV rfl (wp_store_row 88 (.tmp 6) (.tmp 48) rfl w.drew.heap.size _ rfl rfl 88 _ AZ (by rw [cdA_size]; exact size25) (by rw [cdA_size]; rfl) (one25 _ _ _ _ _) ?_)
     refine ko hK (below_setRow hB2 (Nat.le_refl _) _) (fun hHeld => ?_)
     clear hK K
     refine tk 16 rfl ?_
     refine dn ?_
     go_wp2_with fail
     go_meet
     exact ⟨_, ⟨rfl, rfl⟩, AZ.setRow _, below_setRow hB2 (Nat.le_refl _) _⟩
 case rest =>
   obtain ⟨G, ⟨rfl, rfl⟩, AG, hBc⟩ := hcut
   have hVc := hV.bel hBc
   have hEc := hVc.en
   have ra0 := hEc.cr ha16
   have rb0 := hEc.cr hb16
   have rc0 := hEc.cr hc16
   change _ = some (Value.int IntKind.u64 (m.get a)) at ra0
   change _ = some (Value.int IntKind.u64 (m.get b)) at rb0
   change _ = some (Value.int IntKind.u64 (m.get c)) at rc0
   have k1 : wc.cell? ⟨G, 1, none⟩ = some (.int .u8 (a : Int)) := AG.cell 1
   have k2 : wc.cell? ⟨G, 2, none⟩ = some (.int .u8 (b : Int)) := AG.cell 2
   have k3 : wc.cell? ⟨G, 3, none⟩ = some (.int .u8 (c : Int)) := AG.cell 3
   go_upto_region 7 with fail
   refine rgn (fun u => u = wc.drew) (rfl) (fun hHeld => ?_)
   refine tk 0 rfl ?_
   refine tk 1 rfl ?_
   refine tks 2 rfl ?_
   refine tk 3 rfl ?_
   refine tk 4 rfl ?_
   refine tk 5 rfl ?_
   refine tks 6 rfl ?_
   refine tk 7 rfl ?_
   refine tk 8 rfl ?_
   refine tks 9 rfl ?_
   refine tk 10 rfl ?_
   refine tk 11 rfl ?_
   refine tk 12 rfl ?_
   refine tks 13 rfl ?_
   refine tk 14 rfl ?_
   refine tk 15 rfl ?_
   refine tks 16 rfl ?_
   refine tk 17 rfl ?_
   refine tk 18 rfl ?_
   refine tk 19 rfl ?_
   refine tks 20 rfl ?_
   refine tk 21 rfl ?_
   refine tk 22 rfl ?_
   refine tk 23 rfl ?_
   refine dn ?_
   obtain ⟨W, hW⟩ : ∃ W : World, W = wc.drew := ⟨_, rfl⟩
   have AW : Arr W G 88 (cdA o a b c i) := by rw [hW]; exact AG
   have hBW : Below w.heap.size w W := by rw [hW]; exact hBc.drew
   have hVW : DM N es W g gm n cap sp nk ck m := by rw [hW]; exact hVc.bel ((Below.refl _ _).drew)
   rw [← hW]
   clear hW AG hBc hVc hEc ra0 rb0 rc0 k1 k2 k3 cx c0 c18 hv hd hpn1 hpn2
   have hEW := hVW.en
   have c0 := hEW.c0
   have c17 := hEW.c17
   have c18 := hEW.c18
   have fz := hEW.fz
   have fm := hEW.fm
   have hne := hEW.ne
   have hGg : g ≠ G := fun e => by rw [e] at hEW; have h1 := hEW.eng; rw [Arr, AW] at h1; cases h1
   have k0 : W.cell? ⟨G, 0, none⟩ = some (.int .u8 o) := AW.cell 0
   have k1 : W.cell? ⟨G, 1, none⟩ = some (.int .u8 (a : Int)) := AW.cell 1
   have k4 : W.cell? ⟨G, 4, none⟩ = some (.int .u32 i) := AW.cell 4
   have c0' : ∀ v, (W.setCell ⟨g, 1 + a, none⟩ v).cell? ⟨g, 0, none⟩ = some (.int .u64 m.pc) := fun v => (cell_set_ne v (fun e => by injection e with _ e2 _; omega)).trans c0
   have f' : ∀ v j, (W.setCell ⟨g, 1 + a, none⟩ v).frozen? ⟨g, j, none⟩ = false := fun v j => (hEW.eng.set (1 + a) v).frozen j
   have ra := hEW.cr ha16
   have c0d : ∀ v, (W.drew.setCell ⟨g, 1 + a, none⟩ v).cell? ⟨g, 0, none⟩ = some (.int .u64 m.pc) := fun v => (cell_set_ne v (fun e => by injection e with _ e2 _; omega)).trans c0
   have fd : ∀ v j, (W.drew.setCell ⟨g, 1 + a, none⟩ v).frozen? ⟨g, j, none⟩ = false := fun v j => (hEW.drew.eng.set (1 + a) v).frozen j
   have fdm : ∀ k v j, (W.drew.setCell ⟨gm, k, none⟩ v).frozen? ⟨g, j, none⟩ = false := fun k v j => (hEW.drew.eng.setOther v hne).frozen j
   rcases hz : rk o (m.get b) (m.get c) with _ | z
   · have hex : ex es m o a b c i = none := by simp [ex, exo ho5, hz]
     replace hex := Hid.mk' hex
     replace hz := Hid.mk' hz
     go_wp2_with (go_at_call 98; go_must (refine (arith_any W ho5 hUb hUc).mono ?_; rintro e w1 ⟨rfl, h⟩; replace h := h.symm; subst h; rw [hz.out]; simp only [Option.isSome, Option.getD]))
     go_ret
     exact doNo hV hex.out hBW
   · have hex : ex es m o a b c i = some (m.put a z) := by simp [ex, exo ho5, hz]
     have hUz : U64 z := rk_u ho5 hUb hUc hz
     replace hex := Hid.mk' hex
     replace hz := Hid.mk' hz
     go_upto_region 14 with (go_at_call 98; go_must (refine (arith_any W ho5 hUb hUc).mono ?_; rintro e w1 ⟨rfl, h⟩; replace h := h.symm; subst h; rw [hz.out]; simp only [Option.isSome, Option.getD]))
     refine rgn (fun u => u.cell? ⟨G, 1, none⟩ = some (.int .u8 (a : Int))) (by exact k1) (fun hHeld => ?_)
     refine tk 0 rfl ?_
     refine tk 1 rfl ?_
     refine tk 2 rfl ?_
     refine tk 3 rfl ?_
     refine tk 4 rfl ?_
     refine tk 5 rfl ?_
     refine tk 6 rfl ?_
     refine rd 7 rfl (fun K hK => ?_)
     go_simp
     go_wp2_with fail
     refine ko hK ((cell_set_ne _ (fun e => by injection e with e1 e2; omega)).trans k1) (fun hHeld => ?_)
     clear hK K
     refine dn ?_
     go_wp2_with fail
     go_ret
     exact doYes hBW (m' := m.put a z) hex.out (((Chg.refl _ W).drew.g2 _ _).g2 _ _) (by simp) ((hVW.bel ((Below.refl _ _).drew)).put ha16 hUz)
end Go.Proofs.YtagebcbnenehfaaGreat
