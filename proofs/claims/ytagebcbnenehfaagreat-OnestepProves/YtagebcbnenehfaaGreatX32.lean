/- QYs. -/
import Derived.Test.YtagebcbnenehfaaGreatX31
namespace Go.Proofs.YtagebcbnenehfaaGreat
open Go.RowKit
set_option maxRecDepth 100000
set_option linter.unusedVariables false
set_option linter.unusedSimpArgs false
set_option maxHeartbeats 40000000
def putk (L : List Int) (a : Nat) (W : Nat → Int) : Nat → List Int
 | 0 => L
 | k + 1 => (putk L a W k).set (a + k) (W k)
theorem Arr.drew' {w : World} {g : Nat} {t : TypeId} {C : Array Value} (h : Arr w g t C) : Arr w.drew g t C := h
theorem wrapI {x : Int} (h : 0 ≤ x) (h2 : x < 9223372036854775808) : IntKind.i64.wrap x = x := by simp [IntKind.wrap, IntKind.bits, IntKind.signed]; omega
theorem built109 (x0 x1 x2 x3 : Int) : Tryz.prog.built 96 [(0, .int .u64 x0), (1, .int .u64 x1), (2, .int .u64 x2), (3, .int .u64 x3)] = some #[.int .u64 x0, .int .u64 x1, .int .u64 x2, .int .u64 x3] := by kernel_rfl
theorem do_S1 {N : Nat} {es : List En} {g gm n cap pN : Nat} {sp : Option Addr} {nk ck : Nat} {m : Mc} {x i : Int} {a b c : Nat} {o : Int} (hol : o = 1 ∨ o = 2 ∨ o = 3 ∨ o = 4 ∨ o = 17 ∨ o = 18 ∨ o = 19 ∨ o = 20 ∨ o = 21 ∨ o = 22) (w : World) (hV : DM N es w g gm n cap sp nk ck m) (hp : m.pc = (pN : Int)) (hpn : pN < n) (hx : m.me.getD pN 0 = x) (hd : dOk x = true) (ho : dOp x = o) (ha : dA x = (a : Nat)) (hb : dB x = (b : Nat)) (hc : dC x = (c : Nat)) (hi : dI x = i) :
   Calls Tryz.prog 167 #[.pointer (some ⟨g, 0, none⟩), .slice sp nk ck] w (DoPost N es g gm n cap sp nk ck m (ex es m o a b c i) w) := by
 replace hol := Hid.mk' hol
 have hE := hV.en
 have hok := hE.ok
 have hU : U64 x := by rw [← hx]; exact hok.me _
 have hR := dRg hU
 rw [ha, hb, hc, hi] at hR
 obtain ⟨-, ha2, hb2, hc2, hi2⟩ := hR
 have haI : (a : Int) < 16 := ha2.2
 have hbI : (b : Int) < 16 := hb2.2
 have hcI : (c : Int) < 16 := hc2.2
 have ha16 : a < 16 := by omega
 have hb16 : b < 16 := by omega
 have hc16 : c < 16 := by omega
 have hi0 : 0 ≤ i := hi2.1
 have hi1 : i < 4294967296 := hi2.2
 have hUi : U64 i := by unfold U64; omega
 have hwi : IntKind.u64.wrap i = i := wrap_u64 hUi
 have hUa : U64 (m.get a) := hok.rg a
 have hUb : U64 (m.get b) := hok.rg b
 have hUc : U64 (m.get c) := hok.rg c
 have hv := dV_yes hd
 rw [ho, ha, hb, hc, hi] at hv
 have c0 := hE.c0
 rw [hp] at c0
 have c18 := hE.c18
 have hn := hE.small
 have wn : IntKind.u64.wrap (n : Int) = n := wrap64_of (by omega) (by omega)
 have hpn1 : ¬ (n : Int) ≤ (pN : Int) := by omega
 have hpn2 : (pN : Int) < (n : Int) := by omega
 have cx := hE.cm hpn
 rw [hx] at cx
 have hlen := hE.len
 replace hv := Hid.mk' hv
 replace hd := Hid.mk' hd
 replace hp := Hid.mk' hp
 have hx2 := Hid.mk' hx
 clear ho ha hb hc hi ha2 hb2 hc2 hi2 hx hE
 go_enter Tryz.func167, Tryz.ntmps167
 go_upto_region 4 with fail
 go_cut [6, 7] from 36 to 49 (fun p q wc => ∃ G, (p = .pointer (some ⟨G, 0, none⟩) ∧ q = .bool true) ∧ Arr wc G 88 (cdA o a b c i) ∧ Below w.heap.size w wc)
 case first =>
   refine rgn (fun u => Below w.heap.size w u) ((Below.refl _ _).drew) (fun hHeld => ?_)
   refine tk 0 rfl ?_
   refine tk 1 rfl ?_
   refine tk 2 rfl ?_
   refine tk 3 rfl (hy := by (intro u hSw; have c18 := (hV.bel hSw).en.c18; go_simp; try (with_reducible rfl))) ?_
   refine tk 4 rfl ?_
   refine tk 5 rfl ?_
   refine tk 6 rfl ?_
   refine tk 7 rfl (hy := by (intro u hSw; have c0 := (hV.bel hSw).en.c0; rw [hp.out] at c0; go_simp; try (with_reducible rfl))) ?_
   refine tk 8 rfl ?_
   refine tk 9 rfl (hy := by (intro u hSw; have cx := (hV.bel hSw).en.cm hpn; rw [hx2.out] at cx; go_simp; try (with_reducible rfl))) ?_
   refine rd2 10 14 rfl rfl (fun K hK => ?_) (fun K hK => ?_)
   · go_simp
     refine (refdecode_any _ hU).mono ?_
     rintro e w2 ⟨rfl, hb2⟩
     rw [hv.out, hd.out]
     have hB2 : Below w.heap.size w w2 := hHeld.trans (hb2.mono (hHeld.size))
     go_wp2_with fail
     refine ko hK hB2 (fun hHeld => ?_)
     clear hK K
     refine tk 11 rfl ?_
     refine tk 12 rfl ?_
     refine tk 13 rfl ?_
     refine rd 14 rfl (fun K hK => ?_)
     go_simp
     go_wp2_with fail
     refine ko hK (hB2.alloc hB2.size _) (fun hHeld => ?_)
     clear hK K
     refine rd 15 rfl (fun K hK => ?_)
     refine step_wantV rfl (wp_store_row 88 (.tmp 6) (.tmp 48) rfl w2.heap.size _ rfl rfl 88 _ (Arr.new w2 88 #[.int .u8 0, .int .u8 0, .int .u8 0, .int .u8 0, .int .u32 0]) (by rw [cdA_size]; exact size25) (by rw [cdA_size]; rfl) (one25 _ _ _ _ _) ?_)
     refine ko hK (below_setRow (hB2.alloc hB2.size _) hB2.size _) (fun hHeld => ?_)
     clear hK K
     refine tk 16 rfl ?_
     refine dn ?_
     go_wp2_with fail
     go_meet
     exact ⟨_, ⟨rfl, rfl⟩, (Arr.new w2 88 #[.int .u8 0, .int .u8 0, .int .u8 0, .int .u8 0, .int .u32 0]).setRow _, below_setRow (hB2.alloc hB2.size _) hB2.size _⟩
   · go_simp
     go_wp2_with fail
     refine ko hK ((Below.refl _ w).drew.alloc (Nat.le_refl _) _) (fun hHeld => ?_)
     clear hK K
     refine rd 10 rfl (fun K hK => ?_)
     go_simp
     refine (refdecode_any _ hU).mono ?_
     rintro e w2 ⟨rfl, hb2⟩
     rw [hv.out, hd.out]
     have hB2 : Below w.heap.size w w2 := hHeld.trans (hb2.mono (hHeld.size))
     go_wp2_with fail
     have AZ := (Arr.new w.drew 88 #[.int .u8 0, .int .u8 0, .int .u8 0, .int .u8 0, .int .u32 0]).below hb2 (by simp)
     refine ko hK hB2 (fun hHeld => ?_)
     clear hK K
     refine tk 11 rfl ?_
     refine tk 12 rfl ?_
     refine tk 13 rfl ?_
     refine rd 15 rfl (fun K hK => ?_)
     refine step_wantV rfl (wp_store_row 88 (.tmp 6) (.tmp 48) rfl w.drew.heap.size _ rfl rfl 88 _ AZ (by rw [cdA_size]; exact size25) (by rw [cdA_size]; rfl) (one25 _ _ _ _ _) ?_)
     refine ko hK (below_setRow hB2 (Nat.le_refl _) _) (fun hHeld => ?_)
     clear hK K
     refine tk 16 rfl ?_
     refine dn ?_
     go_wp2_with fail
     go_meet
     exact ⟨_, ⟨rfl, rfl⟩, AZ.setRow _, below_setRow hB2 (Nat.le_refl _) _⟩
 case rest =>
   obtain ⟨G, ⟨rfl, rfl⟩, AG, hBc⟩ := hcut
   have hVc := hV.bel hBc
   have hEc := hVc.en
   have ra0 := hEc.cr ha16
   have rb0 := hEc.cr hb16
   have rc0 := hEc.cr hc16
   change _ = some (Value.int IntKind.u64 (m.get a)) at ra0
   change _ = some (Value.int IntKind.u64 (m.get b)) at rb0
   change _ = some (Value.int IntKind.u64 (m.get c)) at rc0
   have k1 : wc.cell? ⟨G, 1, none⟩ = some (.int .u8 (a : Int)) := AG.cell 1
   have k2 : wc.cell? ⟨G, 2, none⟩ = some (.int .u8 (b : Int)) := AG.cell 2
   have k3 : wc.cell? ⟨G, 3, none⟩ = some (.int .u8 (c : Int)) := AG.cell 3
   go_upto_region 7 with fail
   refine rgn (fun u => u = wc.drew) (rfl) (fun hHeld => ?_)
   refine tk 0 rfl ?_
   refine tk 1 rfl ?_
   refine tks 2 rfl ?_
   refine tk 3 rfl ?_
   refine tk 4 rfl ?_
   refine tk 5 rfl ?_
   refine tks 6 rfl ?_
   refine tk 7 rfl ?_
   refine tk 8 rfl ?_
   refine tks 9 rfl ?_
   refine tk 10 rfl ?_
   refine tk 11 rfl ?_
   refine tk 12 rfl ?_
   refine tks 13 rfl ?_
   refine tk 14 rfl ?_
   refine tk 15 rfl ?_
   refine tks 16 rfl ?_
   refine tk 17 rfl ?_
   refine tk 18 rfl ?_
   refine tk 19 rfl ?_
   refine tks 20 rfl ?_
   refine tk 21 rfl ?_
   refine tk 22 rfl ?_
   refine tk 23 rfl ?_
   refine dn ?_
   obtain ⟨W, hW⟩ : ∃ W : World, W = wc.drew := ⟨_, rfl⟩
   have AW : Arr W G 88 (cdA o a b c i) := by rw [hW]; exact AG
   have hBW : Below w.heap.size w W := by rw [hW]; exact hBc.drew
   have hVW : DM N es W g gm n cap sp nk ck m := by rw [hW]; exact hVc.bel ((Below.refl _ _).drew)
   rw [← hW]
   clear hW AG hBc hVc hEc ra0 rb0 rc0 k1 k2 k3 cx c0 c18 hv hd hpn1 hpn2
   have hEW := hVW.en
   have c0 := hEW.c0
   have c17 := hEW.c17
   have c18 := hEW.c18
   have fz := hEW.fz
   have fm := hEW.fm
   have hne := hEW.ne
   have hGg : g ≠ G := fun e => by rw [e] at hEW; have h1 := hEW.eng; rw [Arr, AW] at h1; cases h1
   have k0 : W.cell? ⟨G, 0, none⟩ = some (.int .u8 o) := AW.cell 0
   have k1 : W.cell? ⟨G, 1, none⟩ = some (.int .u8 (a : Int)) := AW.cell 1
   have k4 : W.cell? ⟨G, 4, none⟩ = some (.int .u32 i) := AW.cell 4
   have c0' : ∀ v, (W.setCell ⟨g, 1 + a, none⟩ v).cell? ⟨g, 0, none⟩ = some (.int .u64 m.pc) := fun v => (cell_set_ne v (fun e => by injection e with _ e2 _; omega)).trans c0
   have f' : ∀ v j, (W.setCell ⟨g, 1 + a, none⟩ v).frozen? ⟨g, j, none⟩ = false := fun v j => (hEW.eng.set (1 + a) v).frozen j
   rcases hol.out with rfl | rfl | rfl | rfl | rfl | rfl | rfl | rfl | rfl | rfl
   · go_wp2_with fail
     go_ret
     exact doYes hBW (m' := { m with st := 1 }) (by simp [ex]) (((Chg.refl _ W).g2 _ _).g2 _ _) (by simp) ((hVW.setSt (x := 1) (by omega)).setPc hok.pc)
   · have ra := hEW.cr ha16
     have c0d : ∀ v, (W.drew.setCell ⟨g, 1 + a, none⟩ v).cell? ⟨g, 0, none⟩ = some (.int .u64 m.pc) := fun v => (cell_set_ne v (fun e => by injection e with _ e2 _; omega)).trans c0
     have fd : ∀ v j, (W.drew.setCell ⟨g, 1 + a, none⟩ v).frozen? ⟨g, j, none⟩ = false := fun v j => (hEW.drew.eng.set (1 + a) v).frozen j
     have fdm : ∀ k v j, (W.drew.setCell ⟨gm, k, none⟩ v).frozen? ⟨g, j, none⟩ = false := fun k v j => (hEW.drew.eng.setOther v hne).frozen j
     go_upto_region 19 with fail
     refine rgn (fun u => u.cell? ⟨G, 1, none⟩ = some (.int .u8 (a : Int))) (by exact k1) (fun hHeld => ?_)
     refine tk 0 rfl ?_
     refine tk 1 rfl ?_
     refine tk 2 rfl ?_
     refine tk 3 rfl ?_
     refine tk 4 rfl ?_
     refine tk 5 rfl ?_
     refine tk 6 rfl ?_
     refine rd 7 rfl (fun K hK => ?_)
     go_simp
     go_wp2_with fail
     refine ko hK ((cell_set_ne _ (fun e => by injection e with e1 e2; omega)).trans k1) (fun hHeld => ?_)
     clear hK K
     refine dn ?_
     go_wp2_with fail
     go_ret
     exact doYes hBW (m' := m.put a i) (by simp [ex]) (((Chg.refl _ W).drew.g2 _ _).g2 _ _) (by simp) ((hVW.bel ((Below.refl _ _).drew)).put ha16 hUi)
   · have ra := hEW.cr ha16
     have c0d : ∀ v, (W.drew.setCell ⟨g, 1 + a, none⟩ v).cell? ⟨g, 0, none⟩ = some (.int .u64 m.pc) := fun v => (cell_set_ne v (fun e => by injection e with _ e2 _; omega)).trans c0
     have fd : ∀ v j, (W.drew.setCell ⟨g, 1 + a, none⟩ v).frozen? ⟨g, j, none⟩ = false := fun v j => (hEW.drew.eng.set (1 + a) v).frozen j
     have fdm : ∀ k v j, (W.drew.setCell ⟨gm, k, none⟩ v).frozen? ⟨g, j, none⟩ = false := fun k v j => (hEW.drew.eng.setOther v hne).frozen j
     go_upto_region 21 with fail
     refine rgn (fun u => u.cell? ⟨G, 1, none⟩ = some (.int .u8 (a : Int))) (by exact k1) (fun hHeld => ?_)
     refine tk 0 rfl ?_
     refine tk 1 rfl ?_
     refine tk 2 rfl ?_
     refine tk 3 rfl ?_
     refine tk 4 rfl ?_
     refine tk 5 rfl ?_
     refine tk 6 rfl ?_
     refine tk 7 rfl ?_
     refine tk 8 rfl ?_
     refine tk 9 rfl ?_
     refine rd 10 rfl (fun K hK => ?_)
     go_simp
     go_wp2_with fail
     refine ko hK ((cell_set_ne _ (fun e => by injection e with e1 e2; omega)).trans k1) (fun hHeld => ?_)
     clear hK K
     refine dn ?_
     go_wp2_with fail
     go_ret
     exact doYes hBW (m' := m.put a (bits .or .u64 (IntKind.u64.wrap (m.get a * 4294967296)) i)) (by simp [ex]) (((Chg.refl _ W).drew.g2 _ _).g2 _ _) (by simp) ((hVW.bel ((Below.refl _ _).drew)).put ha16 (bits_u64 _ _ _))
   · have ra := hEW.cr ha16
     have c0d : ∀ v, (W.drew.setCell ⟨g, 1 + a, none⟩ v).cell? ⟨g, 0, none⟩ = some (.int .u64 m.pc) := fun v => (cell_set_ne v (fun e => by injection e with _ e2 _; omega)).trans c0
     have fd : ∀ v j, (W.drew.setCell ⟨g, 1 + a, none⟩ v).frozen? ⟨g, j, none⟩ = false := fun v j => (hEW.drew.eng.set (1 + a) v).frozen j
     have fdm : ∀ k v j, (W.drew.setCell ⟨gm, k, none⟩ v).frozen? ⟨g, j, none⟩ = false := fun k v j => (hEW.drew.eng.setOther v hne).frozen j
     go_upto_region 23 with fail
     refine rgn (fun u => u.cell? ⟨G, 1, none⟩ = some (.int .u8 (a : Int))) (by exact k1) (fun hHeld => ?_)
     refine tk 0 rfl ?_
     refine tk 1 rfl ?_
     refine tk 2 rfl ?_
     refine tk 3 rfl ?_
     refine tk 4 rfl ?_
     refine tk 5 rfl ?_
     refine tk 6 rfl ?_
     refine rd 7 rfl (fun K hK => ?_)
     go_simp
     go_wp2_with fail
     refine ko hK ((cell_set_ne _ (fun e => by injection e with e1 e2; omega)).trans k1) (fun hHeld => ?_)
     clear hK K
     refine dn ?_
     go_wp2_with fail
     go_ret
     exact doYes hBW (m' := m.put a (m.get b)) (by simp [ex]) (((Chg.refl _ W).drew.g2 _ _).g2 _ _) (by simp) ((hVW.bel ((Below.refl _ _).drew)).put ha16 hUb)
   · have ra := hEW.cr ha16
     have c0d : ∀ v, (W.drew.setCell ⟨g, 1 + a, none⟩ v).cell? ⟨g, 0, none⟩ = some (.int .u64 m.pc) := fun v => (cell_set_ne v (fun e => by injection e with _ e2 _; omega)).trans c0
     have fd : ∀ v j, (W.drew.setCell ⟨g, 1 + a, none⟩ v).frozen? ⟨g, j, none⟩ = false := fun v j => (hEW.drew.eng.set (1 + a) v).frozen j
     have fdm : ∀ k v j, (W.drew.setCell ⟨gm, k, none⟩ v).frozen? ⟨g, j, none⟩ = false := fun k v j => (hEW.drew.eng.setOther v hne).frozen j
     have hn' : n ≤ 4096 := by omega
     by_cases hq : IntKind.u64.wrap (m.get b + i) < n
     · obtain ⟨k, hk⟩ : ∃ k : Nat, IntKind.u64.wrap (m.get b + i) = k := ⟨(IntKind.u64.wrap (m.get b + i)).toNat, by have := (U64.wrap (m.get b + i)).1; omega⟩
       have hkn : k < n := by omega
       have hib : Hid (inB (IntKind.u64.wrap (m.get b + i)) 1 n = true) := Hid.mk' (by simp [inB]; omega)
       have cmk := hEW.cm hkn
       have hex : ex es m 17 a b c i = some (m.put a (m.me.getD k 0)) := by simp only [ex]; rw [hk, ← hlen.out]; simp [hkn]
       have hkI : (k : Int) < (n : Int) := by omega
       replace hk := Hid.mk' hk
       replace hex := Hid.mk' hex
       clear hq
       go_upto_region 30 with (go_at_call 186; go_must (refine (inside_any _ 1 n W (U64.wrap _) (by omega) hn').mono ?_; rintro e w1 ⟨rfl, h⟩; replace h := h.symm; subst h; rw [hib.out]))
       simp only [hk.out]
       refine rgn (fun u => u.cell? ⟨G, 1, none⟩ = some (.int .u8 (a : Int)) ∧ u.cell? ⟨g, 18, none⟩ = some (.slice (some ⟨gm, 0, none⟩) n cap) ∧ u.cell? ⟨gm, k, none⟩ = some (.int .u64 (m.me.getD k 0))) (⟨by exact k1, by exact c18, by exact cmk⟩) (fun hHeld => ?_)
       refine tk 0 rfl ?_
       refine tk 1 rfl ?_
       refine tk3 2 rfl ?_
       refine tk 3 rfl ?_
       refine tk 4 rfl ?_
       refine tk 5 rfl ?_
       refine tk3 6 rfl ?_
       refine tk 7 rfl ?_
       refine tk 8 rfl ?_
       refine tk3 9 rfl ?_
       refine tk 10 rfl ?_
       refine tk 11 rfl ?_
       refine tk 12 rfl ?_
       refine rd 13 rfl (fun K hK => ?_)
       go_simp
       go_wp2_with fail
       refine ko hK ⟨(cell_set_ne _ (fun e => by injection e with e1 e2; omega)).trans k1, (cell_set_ne _ (fun e => by injection e with e1 e2; omega)).trans c18, (cell_set_ne _ (fun e => by injection e with e1 e2; omega)).trans cmk⟩ (fun hHeld => ?_)
       clear hK K
       refine dn ?_
       go_wp2_with fail
       go_ret
       exact doYes hBW (m' := m.put a (m.me.getD k 0)) hex.out (((Chg.refl _ W).drew.g2 _ _).g2 _ _) (by simp) ((hVW.bel ((Below.refl _ _).drew)).put ha16 (hok.me k))
     · have hex : ex es m 17 a b c i = none := by simp only [ex]; rw [← hlen.out]; simp; omega
       have hib : Hid (inB (IntKind.u64.wrap (m.get b + i)) 1 n = false) := Hid.mk' (by have := (U64.wrap (m.get b + i)).1; simp [inB]; omega)
       replace hex := Hid.mk' hex
       go_wp2_with (go_at_call 186; go_must (refine (inside_any _ 1 n W (U64.wrap _) (by omega) hn').mono ?_; rintro e w1 ⟨rfl, h⟩; replace h := h.symm; subst h; rw [hib.out]))
       go_ret
       exact doNo hV hex.out hBW
   · skip
     have c0d : ∀ v, (W.drew.setCell ⟨g, 1 + a, none⟩ v).cell? ⟨g, 0, none⟩ = some (.int .u64 m.pc) := fun v => (cell_set_ne v (fun e => by injection e with _ e2 _; omega)).trans c0
     have fd : ∀ v j, (W.drew.setCell ⟨g, 1 + a, none⟩ v).frozen? ⟨g, j, none⟩ = false := fun v j => (hEW.drew.eng.set (1 + a) v).frozen j
     have fdm : ∀ k v j, (W.drew.setCell ⟨gm, k, none⟩ v).frozen? ⟨g, j, none⟩ = false := fun k v j => (hEW.drew.eng.setOther v hne).frozen j
     have hn' : n ≤ 4096 := by omega
     by_cases hq : IntKind.u64.wrap (m.get b + i) < n
     · obtain ⟨k, hk⟩ : ∃ k : Nat, IntKind.u64.wrap (m.get b + i) = k := ⟨(IntKind.u64.wrap (m.get b + i)).toNat, by have := (U64.wrap (m.get b + i)).1; omega⟩
       have hkn : k < n := by omega
       have hib : Hid (inB (IntKind.u64.wrap (m.get b + i)) 1 n = true) := Hid.mk' (by simp [inB]; omega)
       have cmk := hEW.cm hkn
       have hex : ex es m 18 a b c i = some { m.nxt with me := m.me.set k (m.get a) } := by simp only [ex]; rw [hk, ← hlen.out]; simp [hkn]
       have hkI : (k : Int) < (n : Int) := by omega
       replace hk := Hid.mk' hk
       replace hex := Hid.mk' hex
       clear hq
       have fd2 : ∀ v j, (W.setCell ⟨gm, k, none⟩ v).frozen? ⟨g, j, none⟩ = false := fun v j => (hEW.eng.setOther v hne).frozen j
       go_upto_region 31 with (go_at_call 186; go_must (refine (inside_any _ 1 n W (U64.wrap _) (by omega) hn').mono ?_; rintro e w1 ⟨rfl, h⟩; replace h := h.symm; subst h; rw [hib.out]))
       simp only [hk.out]
       go_wp2_with fail
       go_ret
       exact doYes hBW (m' := { m.nxt with me := m.me.set k (m.get a) }) hex.out (((Chg.refl _ W).m2 _ _).g2 _ _) (by simp) ((hVW.setMem hkn hUa).setPc (U64.wrap _))
     · have hex : ex es m 18 a b c i = none := by simp only [ex]; rw [← hlen.out]; simp; omega
       have hib : Hid (inB (IntKind.u64.wrap (m.get b + i)) 1 n = false) := Hid.mk' (by have := (U64.wrap (m.get b + i)).1; simp [inB]; omega)
       replace hex := Hid.mk' hex
       go_wp2_with (go_at_call 186; go_must (refine (inside_any _ 1 n W (U64.wrap _) (by omega) hn').mono ?_; rintro e w1 ⟨rfl, h⟩; replace h := h.symm; subst h; rw [hib.out]))
       go_ret
       exact doNo hV hex.out hBW
   · go_wp2_with fail
     go_ret
     exact doYes hBW (m' := { m with pc := i }) (by simp [ex]) ((Chg.refl _ W).g2 _ _) (by simp) (hVW.setPc hUi)
   · by_cases hq : m.get a = 0
     · have hq1 : (m.get a == 0) = true := by simpa using hq
       replace hq := Hid.mk' hq
       go_wp2_with fail
       go_ret
       exact doYes hBW (m' := { m with pc := i }) (by simp [ex, hq.out]) ((Chg.refl _ W).g2 _ _) (by simp) (hVW.setPc hUi)
     · have hq1 : (m.get a == 0) = false := by simpa using hq
       replace hq := Hid.mk' hq
       go_wp2_with fail
       go_ret
       exact doYes hBW (m' := m.nxt) (by simp [ex, hq.out]) ((Chg.refl _ W).g2 _ _) (by simp) (hVW.setPc (U64.wrap _))
   · by_cases hq : m.get a = 0
     · have hq1 : (m.get a == 0) = true := by simpa using hq
       replace hq := Hid.mk' hq
       go_wp2_with fail
       go_ret
       exact doYes hBW (m' := m.nxt) (by simp [ex, hq.out]) ((Chg.refl _ W).g2 _ _) (by simp) (hVW.setPc (U64.wrap _))
     · have hq1 : (m.get a == 0) = false := by simpa using hq
       replace hq := Hid.mk' hq
       go_wp2_with fail
       go_ret
       exact doYes hBW (m' := { m with pc := i }) (by simp [ex, hq.out]) ((Chg.refl _ W).g2 _ _) (by simp) (hVW.setPc hUi)
   · go_wp2_with fail
     go_ret
     exact doYes hBW (m' := { m with pc := m.get a }) (by simp [ex]) ((Chg.refl _ W).g2 _ _) (by simp) (hVW.setPc hUa)
theorem do_S2 {N : Nat} {es : List En} {g gm n cap pN : Nat} {sp : Option Addr} {nk ck : Nat} {m : Mc} {x i : Int} {a b c : Nat} {o : Int} (hol : o = 23 ∨ o = 24 ∨ o = 25) (w : World) (hV : DM N es w g gm n cap sp nk ck m) (hp : m.pc = (pN : Int)) (hpn : pN < n) (hx : m.me.getD pN 0 = x) (hd : dOk x = true) (ho : dOp x = o) (ha : dA x = (a : Nat)) (hb : dB x = (b : Nat)) (hc : dC x = (c : Nat)) (hi : dI x = i) :
   Calls Tryz.prog 167 #[.pointer (some ⟨g, 0, none⟩), .slice sp nk ck] w (DoPost N es g gm n cap sp nk ck m (ex es m o a b c i) w) := by
 replace hol := Hid.mk' hol
 have hE := hV.en
 have hok := hE.ok
 have hU : U64 x := by rw [← hx]; exact hok.me _
 have hR := dRg hU
 rw [ha, hb, hc, hi] at hR
 obtain ⟨-, ha2, hb2, hc2, hi2⟩ := hR
 have haI : (a : Int) < 16 := ha2.2
 have hbI : (b : Int) < 16 := hb2.2
 have hcI : (c : Int) < 16 := hc2.2
 have ha16 : a < 16 := by omega
 have hb16 : b < 16 := by omega
 have hc16 : c < 16 := by omega
 have hi0 : 0 ≤ i := hi2.1
 have hi1 : i < 4294967296 := hi2.2
 have hUi : U64 i := by unfold U64; omega
 have hwi : IntKind.u64.wrap i = i := wrap_u64 hUi
 have hUa : U64 (m.get a) := hok.rg a
 have hUb : U64 (m.get b) := hok.rg b
 have hUc : U64 (m.get c) := hok.rg c
 have hv := dV_yes hd
 rw [ho, ha, hb, hc, hi] at hv
 have c0 := hE.c0
 rw [hp] at c0
 have c18 := hE.c18
 have hn := hE.small
 have wn : IntKind.u64.wrap (n : Int) = n := wrap64_of (by omega) (by omega)
 have hpn1 : ¬ (n : Int) ≤ (pN : Int) := by omega
 have hpn2 : (pN : Int) < (n : Int) := by omega
 have cx := hE.cm hpn
 rw [hx] at cx
 have hlen := hE.len
 replace hv := Hid.mk' hv
 replace hd := Hid.mk' hd
 replace hp := Hid.mk' hp
 have hx2 := Hid.mk' hx
 clear ho ha hb hc hi ha2 hb2 hc2 hi2 hx hE
 go_enter Tryz.func167, Tryz.ntmps167
 go_upto_region 4 with fail
 go_cut [6, 7] from 36 to 49 (fun p q wc => ∃ G, (p = .pointer (some ⟨G, 0, none⟩) ∧ q = .bool true) ∧ Arr wc G 88 (cdA o a b c i) ∧ Below w.heap.size w wc)
 case first =>
   refine rgn (fun u => Below w.heap.size w u) ((Below.refl _ _).drew) (fun hHeld => ?_)
   refine tk 0 rfl ?_
   refine tk 1 rfl ?_
   refine tk 2 rfl ?_
   refine tk 3 rfl (hy := by (intro u hSw; have c18 := (hV.bel hSw).en.c18; go_simp; try (with_reducible rfl))) ?_
   refine tk 4 rfl ?_
   refine tk 5 rfl ?_
   refine tk 6 rfl ?_
   refine tk 7 rfl (hy := by (intro u hSw; have c0 := (hV.bel hSw).en.c0; rw [hp.out] at c0; go_simp; try (with_reducible rfl))) ?_
   refine tk 8 rfl ?_
   refine tk 9 rfl (hy := by (intro u hSw; have cx := (hV.bel hSw).en.cm hpn; rw [hx2.out] at cx; go_simp; try (with_reducible rfl))) ?_
   refine rd2 10 14 rfl rfl (fun K hK => ?_) (fun K hK => ?_)
   · go_simp
     refine (refdecode_any _ hU).mono ?_
     rintro e w2 ⟨rfl, hb2⟩
     rw [hv.out, hd.out]
     have hB2 : Below w.heap.size w w2 := hHeld.trans (hb2.mono (hHeld.size))
     go_wp2_with fail
     refine ko hK hB2 (fun hHeld => ?_)
     clear hK K
     refine tk 11 rfl ?_
     refine tk 12 rfl ?_
     refine tk 13 rfl ?_
     refine rd 14 rfl (fun K hK => ?_)
     go_simp
     go_wp2_with fail
     refine ko hK (hB2.alloc hB2.size _) (fun hHeld => ?_)
     clear hK K
     refine rd 15 rfl (fun K hK => ?_)
     refine step_wantV rfl (wp_store_row 88 (.tmp 6) (.tmp 48) rfl w2.heap.size _ rfl rfl 88 _ (Arr.new w2 88 #[.int .u8 0, .int .u8 0, .int .u8 0, .int .u8 0, .int .u32 0]) (by rw [cdA_size]; exact size25) (by rw [cdA_size]; rfl) (one25 _ _ _ _ _) ?_)
     refine ko hK (below_setRow (hB2.alloc hB2.size _) hB2.size _) (fun hHeld => ?_)
     clear hK K
     refine tk 16 rfl ?_
     refine dn ?_
     go_wp2_with fail
     go_meet
     exact ⟨_, ⟨rfl, rfl⟩, (Arr.new w2 88 #[.int .u8 0, .int .u8 0, .int .u8 0, .int .u8 0, .int .u32 0]).setRow _, below_setRow (hB2.alloc hB2.size _) hB2.size _⟩
   · go_simp
     go_wp2_with fail
     refine ko hK ((Below.refl _ w).drew.alloc (Nat.le_refl _) _) (fun hHeld => ?_)
     clear hK K
     refine rd 10 rfl (fun K hK => ?_)
     go_simp
     refine (refdecode_any _ hU).mono ?_
     rintro e w2 ⟨rfl, hb2⟩
     rw [hv.out, hd.out]
     have hB2 : Below w.heap.size w w2 := hHeld.trans (hb2.mono (hHeld.size))
     go_wp2_with fail
     have AZ := (Arr.new w.drew 88 #[.int .u8 0, .int .u8 0, .int .u8 0, .int .u8 0, .int .u32 0]).below hb2 (by simp)
     refine ko hK hB2 (fun hHeld => ?_)
     clear hK K
     refine tk 11 rfl ?_
     refine tk 12 rfl ?_
     refine tk 13 rfl ?_
     refine rd 15 rfl (fun K hK => ?_)
     refine step_wantV rfl (wp_store_row 88 (.tmp 6) (.tmp 48) rfl w.drew.heap.size _ rfl rfl 88 _ AZ (by rw [cdA_size]; exact size25) (by rw [cdA_size]; rfl) (one25 _ _ _ _ _) ?_)
     refine ko hK (below_setRow hB2 (Nat.le_refl _) _) (fun hHeld => ?_)
     clear hK K
     refine tk 16 rfl ?_
     refine dn ?_
     go_wp2_with fail
     go_meet
     exact ⟨_, ⟨rfl, rfl⟩, AZ.setRow _, below_setRow hB2 (Nat.le_refl _) _⟩
 case rest =>
   obtain ⟨G, ⟨rfl, rfl⟩, AG, hBc⟩ := hcut
   have hVc := hV.bel hBc
   have hEc := hVc.en
   have ra0 := hEc.cr ha16
   have rb0 := hEc.cr hb16
   have rc0 := hEc.cr hc16
   change _ = some (Value.int IntKind.u64 (m.get a)) at ra0
   change _ = some (Value.int IntKind.u64 (m.get b)) at rb0
   change _ = some (Value.int IntKind.u64 (m.get c)) at rc0
   have k1 : wc.cell? ⟨G, 1, none⟩ = some (.int .u8 (a : Int)) := AG.cell 1
   have k2 : wc.cell? ⟨G, 2, none⟩ = some (.int .u8 (b : Int)) := AG.cell 2
   have k3 : wc.cell? ⟨G, 3, none⟩ = some (.int .u8 (c : Int)) := AG.cell 3
   go_upto_region 7 with fail
   refine rgn (fun u => u = wc.drew) (rfl) (fun hHeld => ?_)
   refine tk 0 rfl ?_
   refine tk 1 rfl ?_
   refine tks 2 rfl ?_
   refine tk 3 rfl ?_
   refine tk 4 rfl ?_
   refine tk 5 rfl ?_
   refine tks 6 rfl ?_
   refine tk 7 rfl ?_
   refine tk 8 rfl ?_
   refine tks 9 rfl ?_
   refine tk 10 rfl ?_
   refine tk 11 rfl ?_
   refine tk 12 rfl ?_
   refine tks 13 rfl ?_
   refine tk 14 rfl ?_
   refine tk 15 rfl ?_
   refine tks 16 rfl ?_
   refine tk 17 rfl ?_
   refine tk 18 rfl ?_
   refine tk 19 rfl ?_
   refine tks 20 rfl ?_
   refine tk 21 rfl ?_
   refine tk 22 rfl ?_
   refine tk 23 rfl ?_
   refine dn ?_
   obtain ⟨W, hW⟩ : ∃ W : World, W = wc.drew := ⟨_, rfl⟩
   have AW : Arr W G 88 (cdA o a b c i) := by rw [hW]; exact AG
   have hBW : Below w.heap.size w W := by rw [hW]; exact hBc.drew
   have hVW : DM N es W g gm n cap sp nk ck m := by rw [hW]; exact hVc.bel ((Below.refl _ _).drew)
   rw [← hW]
   clear hW AG hBc hVc hEc ra0 rb0 rc0 k1 k2 k3 cx c0 c18 hv hd hpn1 hpn2
   have hEW := hVW.en
   have c0 := hEW.c0
   have c17 := hEW.c17
   have c18 := hEW.c18
   have fz := hEW.fz
   have fm := hEW.fm
   have hne := hEW.ne
   have hGg : g ≠ G := fun e => by rw [e] at hEW; have h1 := hEW.eng; rw [Arr, AW] at h1; cases h1
   have k0 : W.cell? ⟨G, 0, none⟩ = some (.int .u8 o) := AW.cell 0
   have k1 : W.cell? ⟨G, 1, none⟩ = some (.int .u8 (a : Int)) := AW.cell 1
   have k4 : W.cell? ⟨G, 4, none⟩ = some (.int .u32 i) := AW.cell 4
   have c0' : ∀ v, (W.setCell ⟨g, 1 + a, none⟩ v).cell? ⟨g, 0, none⟩ = some (.int .u64 m.pc) := fun v => (cell_set_ne v (fun e => by injection e with _ e2 _; omega)).trans c0
   have f' : ∀ v j, (W.setCell ⟨g, 1 + a, none⟩ v).frozen? ⟨g, j, none⟩ = false := fun v j => (hEW.eng.set (1 + a) v).frozen j
   rcases hol.out with rfl | rfl | rfl
   · have hn' : n ≤ 4096 := by omega
     have h44 : (0 : Int) ≤ 4 ∧ (4 : Int) ≤ 4096 := by omega
     have hl := hlen.out
     have hcapn := hEW.cap.1
     have hcap2 := hEW.cap.2
     obtain ⟨s, hse⟩ : ∃ s : Nat, m.get c = s := ⟨(m.get c).toNat, by have := hUc.1; omega⟩
     obtain ⟨q, hqe⟩ : ∃ q : Nat, m.get b = q := ⟨(m.get b).toNat, by have := hUb.1; omega⟩
     obtain ⟨ka, hka⟩ : ∃ ka : Nat, m.get a = ka := ⟨(m.get a).toNat, by have := hUa.1; omega⟩
     have hex0 : ex es m 23 a b c i = hs m i ka q s := by simp [ex, hse, hqe, hka]
     rw [hse, hqe, hka]
     rw [hse] at hUc
     rw [hqe] at hUb
     rw [hka] at hUa
     clear hse hqe hka
     by_cases h1 : 128 < s
     · have hex : ex es m 23 a b c i = none := by rw [hex0]; unfold hs; rw [if_pos (by omega)]
       have h1I : (128 : Int) < s := by omega
       replace hex := Hid.mk' hex
       clear hl hex0
       by_cases h129 : (129 : Int) < s
       · go_wp2_with fail
         go_ret
         exact doNo hV hex.out hBW
       · obtain rfl : s = 129 := by omega
         go_wp2_with fail
         go_ret
         exact doNo hV hex.out hBW
     have h1I : ¬ (128 : Int) < s := by omega
     have h129 : ¬ (129 : Int) < s := by omega
     obtain ⟨kk, hkk⟩ : ∃ kk : Nat, kk = (s + 7) / 8 := ⟨_, rfl⟩
     have hk17 : kk ≤ 16 := by omega
     have hk44 : (0 : Int) ≤ kk ∧ (kk : Int) ≤ 4096 := by omega
     have e7 : IntKind.u64.wrap ((s : Int) + 7) = (s : Int) + 7 := wrap64_of (by omega) (by omega)
     have e7i : IntKind.i64.wrap ((s : Int) + 7) = (s : Int) + 7 := wrapI (by omega) (by omega)
     have et : ((s : Int) + 7) / 8 = (kk : Int) := by omega
     have eki : IntKind.i64.wrap (kk : Int) = kk := wrapI (by omega) (by omega)
     have eku : IntKind.u64.wrap (kk : Int) = kk := wrap64_of (by omega) (by omega)
     have hexa : Hid (¬ (s = 0 ∨ q + kk ≤ n) ∨ ¬ ka + 4 ≤ n ∨ mkL i = none → ex es m 23 a b c i = none) := Hid.mk' (by
       intro h
       rw [hex0]
       unfold hs
       rw [if_neg (by omega)]
       by_cases h2 : ka + 4 ≤ n
       · rw [if_neg (by omega)]
         by_cases h3 : s = 0 ∨ q + kk ≤ n
         · rw [if_neg (by omega)]
           have h4 : mkL i = none := by rcases h with h | h | h; exact absurd h3 h; exact absurd h2 h; exact h
           rw [h4]
         · rw [if_pos (by omega)]
       · rw [if_pos (by omega)])
     have hexb : Hid (∀ P, (s = 0 ∨ q + kk ≤ n) → ka + 4 ≤ n → mkL i = some P → ex es m 23 a b c i = some { m.nxt with me := put4 m.me ka (wsu (P ++ fbL (m.wds q) s)) }) := Hid.mk' (by
       intro P h3 h2 h4
       rw [hex0]
       unfold hs
       rw [if_neg (by omega), if_neg (by omega), if_neg (by omega), h4]
       simp only [Int.toNat_natCast])
     replace hl := Hid.mk' hl
     have hkk0 : s = 0 → kk = 0 := by omega
     have hkk1 : ¬ s = 0 → 0 < kk := by omega
     have hsk : s ≤ 8 * kk := by omega
     replace hkk0 := Hid.mk' hkk0
     replace hkk1 := Hid.mk' hkk1
     clear hex0 hkk
     go_upto_region 44 with fail
     simp only [et]
     by_cases h3 : s = 0 ∨ q + kk ≤ n
     case neg =>
       have hex := hexa.out (.inl h3)
       have hib : Hid (inB (q : Int) kk n = false) := Hid.mk' (by simp [inB]; omega)
       replace hex := Hid.mk' hex
       clear hexa hexb h3
       go_wp2_with (go_at_call 186; go_must (refine (inside_any _ _ n W hUb hk44 hn').mono ?_; rintro e w1 ⟨rfl, h⟩; replace h := h.symm; subst h; rw [hib.out]))
       go_ret
       exact doNo hV hex.out hBW
     have hib : Hid (inB (q : Int) kk n = true) := Hid.mk' (by have := hkk0.out; simp [inB]; omega)
     have tok : True := trivial
     by_cases h2 : ka + 4 ≤ n
     case neg =>
       have hex := hexa.out (.inr (.inl h2))
       have hia : Hid (inB (ka : Int) 4 n = false) := Hid.mk' (by simp [inB]; omega)
       replace hex := Hid.mk' hex
       clear hexa hexb h3 h2
       go_wp2_with (first
         | (go_at_call 186; have tq1 := tok; clear tok; go_must (refine (inside_any _ (kk : Int) n W hUb hk44 hn').mono ?_; rintro e w1 ⟨rfl, h⟩; replace h := h.symm; subst h; rw [hib.out]))
         | (go_at_call 186; have tq2 := tq1; clear tq1; go_must (refine (inside_any _ 4 n W hUa h44 hn').mono ?_; rintro e w1 ⟨rfl, h⟩; replace h := h.symm; subst h; rw [hia.out])))
       go_ret
       exact doNo hV hex.out hBW
     have hia : Hid (inB (ka : Int) 4 n = true) := Hid.mk' (by simp [inB]; omega)
     rcases hmk : mkL i with _ | P
     · have hex := hexa.out (.inr (.inr hmk))
       replace hex := Hid.mk' hex
       clear hexa hexb
       by_cases hs0 : s = 0
       · have hkp : ¬ (0 : Int) < kk := by have := hkk0.out hs0; omega
         replace hs0 := Hid.mk' hs0
         clear h3
         go_wp2_with (first
         | (go_at_call 186; have tq1 := tok; clear tok; go_must (refine (inside_any _ (kk : Int) n W hUb hk44 hn').mono ?_; rintro e w1 ⟨rfl, h⟩; replace h := h.symm; subst h; rw [hib.out]))
         | (go_at_call 186; have tq2 := tq1; clear tq1; go_must (refine (inside_any _ 4 n W hUa h44 hn').mono ?_; rintro e w1 ⟨rfl, h⟩; replace h := h.symm; subst h; rw [hia.out]))
         | (go_at_call 95; go_must (refine (summed_no W ⟨hi0, hi1⟩ (by omega) hmk ⟨_, _, _, rfl⟩).mono ?_; rintro e w1 ⟨rfl, h⟩; replace h := h.symm; subst h)))
         go_ret
         exact doNo hV hex.out hBW
       · have hkp : (0 : Int) < kk := by have := hkk1.out hs0; omega
         have hqk : q + kk ≤ n := by omega
         have a5 : IntKind.u64.wrap ((q : Int) + kk) = ((q + kk : Nat) : Int) := by rw [wrap64_of (by omega) (by omega)]; omega
         have a6 : ¬ cap = q := by omega
         have a7 : ((q + kk : Nat) : Int) ≤ cap := by omega
         have a8 : (q : Int) ≤ ((q + kk : Nat) : Int) := by omega
         have a9 : q + kk - q = kk := by omega
         clear h3
         go_wp2_with (first
         | (go_at_call 186; have tq1 := tok; clear tok; go_must (refine (inside_any _ (kk : Int) n W hUb hk44 hn').mono ?_; rintro e w1 ⟨rfl, h⟩; replace h := h.symm; subst h; rw [hib.out]))
         | (go_at_call 186; have tq2 := tq1; clear tq1; go_must (refine (inside_any _ 4 n W hUa h44 hn').mono ?_; rintro e w1 ⟨rfl, h⟩; replace h := h.symm; subst h; rw [hia.out]))
         | (go_at_call 95; go_must (refine (summed_no W ⟨hi0, hi1⟩ (by omega) hmk ⟨_, _, _, rfl⟩).mono ?_; rintro e w1 ⟨rfl, h⟩; replace h := h.symm; subst h)))
         go_ret
         exact doNo hV hex.out hBW
     · have hex := hexb.out P h3 h2 hmk
       replace hex := Hid.mk' hex
       clear hexa hexb
       have hPb : Bts (P ++ fbL (m.wds q) s) := Bts.app (mkL_bts hmk) (fbL_bts _ _)
       have hPl : (P ++ fbL (m.wds q) s).length = P.length + s := by simp [fbL_len]
       have hP1 := mkL_one hmk
       by_cases hs0 : s = 0
       · have hkp : ¬ (0 : Int) < kk := by have := hkk0.out hs0; omega
         replace hs0 := Hid.mk' hs0
         clear h3
         go_upto_region 52 with (first
         | (go_at_call 186; have tq1 := tok; clear tok; go_must (refine (inside_any _ (kk : Int) n W hUb hk44 hn').mono ?_; rintro e w1 ⟨rfl, h⟩; replace h := h.symm; subst h; rw [hib.out]))
         | (go_at_call 186; have tq2 := tq1; clear tq1; go_must (refine (inside_any _ 4 n W hUa h44 hn').mono ?_; rintro e w1 ⟨rfl, h⟩; replace h := h.symm; subst h; rw [hia.out]))
         | (go_at_call 95; go_must (refine (summed_ok (c := 0) (s := s) W ⟨hi0, hi1⟩ hmk rfl (by omega) (W := m.wds q) (fun t => hok.me _) (by have := hs0.out; omega) (by omega) (by omega) (fun h => absurd h (by omega))).mono ?_; rintro e w1 ⟨v1, rfl, ho1, hb1⟩)))
         obtain ⟨LL, hLL⟩ : ∃ LL, LL = P ++ fbL (m.wds q) s := ⟨_, rfl⟩
         rw [← hLL] at hex hPb hPl ho1
         replace hPl := Hid.mk' hPl
         clear hLL hmk
         obtain ⟨sp1, cp1, rfl, hB1, -⟩ := own_bs ho1 hPb (by omega)
         go_upto_region 53 with (first
           | (go_at_call 23; go_must (refine (refSum_any sp1 _ cp1 LL w1 hPl.out.symm hB1.nil hB1.sl (by omega)).mono ?_; rintro e w2 ⟨rfl, hb2⟩))
           | (go_at_call 96; go_must (refine (refWords_any (sha LL) (shaB (bat LL) LL.length) w2 (sha_get LL) (fun t _ => shaB_range _ _ t)).mono ?_; rintro e w3 ⟨rfl, hb3⟩; rw [wordsOf_four]))
           | (refine wpList_store_new w3 _ 96 (by rfl) 96 (.tmp 18) (.tmp 234) (by rfl) (four (wsu LL)).toArray (by rfl) (by rfl) size30 (by rfl) (all_oneCell_toArray (four_one _)) ?_))
         have hb6 : Below W.heap.size W (w3.alloc (.cells (four (wsu LL)).toArray 96)) := ((hb1.trans (hb2.mono hb1.size)).trans (hb3.mono (by have := hb1.size; have := hb2.size; omega))).alloc (by have := hb1.size; have := hb2.size; have := hb3.size; omega) _
         have hs3 : W.heap.size ≤ w3.heap.size := by have := hb1.size; have := hb2.size; have := hb3.size; omega
         have A6 := Arr.new w3 96 (four (wsu LL)).toArray
         obtain ⟨gw, hgw⟩ : ∃ gw, gw = w3.heap.size := ⟨_, rfl⟩
         obtain ⟨W6, hW6⟩ : ∃ W6 : World, W6 = w3.alloc (.cells (four (wsu LL)).toArray 96) := ⟨_, rfl⟩
         rw [← hgw] at A6 ⊢
         rw [← hW6] at A6 hb6 ⊢
         have hV6 := hVW.bel hb6
         have hgw2 : W.heap.size ≤ gw := by omega
         have hltg := hEW.lt
         have hltm := hEW.ltm
         have hgwm : gw ≠ gm := by omega
         have hgwg : gw ≠ g := by omega
         have hBB := hBW.trans (hb6.mono hBW.size)
         clear hW6 hgw hb1 hb2 hb3 ho1 hB1 hb6 hs3 k0 k1 k4 c0 c17 c18 fz fm c0' f' hEW hVW AW hltg hltm hgw2
         go_wp2_with fail
         go_loopw [19] (fun iv wr => ∃ (k : Nat) , k ≤ 4 ∧ iv = .int .i64 k ∧ Arr wr gw 96 (four (wsu LL)).toArray ∧ DM N es wr g gm n cap sp nk ck { m with me := putk m.me ka (wsu LL) k } ∧ Chg (C2 g gm) W6 wr ∧ W6.heap.size ≤ wr.heap.size)
           (fun iv _ => 4 - (intOf iv).toNat)
         case atStart => exact ⟨0, by omega, rfl, A6, hV6, Chg.refl _ _, Nat.le_refl _⟩
         case round =>
           obtain ⟨k, hk, rfl, AR, hVr, hch, hsz⟩ := hrel
           have hEr := hVr.en
           by_cases hlt : k < 4
           · have h4I : (k : Int) < 4 := by omega
             have cw : wr.cell? ⟨gw, k, none⟩ = some (.int .u64 (wsu LL k)) := by rw [AR.cell]; exact four_get _ k hlt
             have c18 := hEr.c18
             have fmr := hEr.fm
             obtain ⟨kp, hkpe⟩ : ∃ kp : Nat, kp = ka + k := ⟨_, rfl⟩
             have eak : IntKind.u64.wrap ((ka : Int) + k) = (kp : Int) := by rw [wrap64_of (by omega) (by omega)]; omega
             have eku' : IntKind.u64.wrap (k : Int) = k := wrap64_of (by omega) (by omega)
             have hakn : kp < n := by omega
             have hakI : (kp : Int) < n := by omega
             replace hkpe := Hid.mk' hkpe
             obtain ⟨cmx, hcmx⟩ : ∃ v, wr.cell? ⟨gm, kp, none⟩ = some v := ⟨_, hEr.cm hakn⟩
             go_upto_region 56 with fail
             refine rgn (fun u => u.cell? ⟨g, 18, none⟩ = some (.slice (some ⟨gm, 0, none⟩) n cap) ∧ u.cell? ⟨gw, k, none⟩ = some (.int .u64 (wsu LL k))) (⟨by exact c18, by exact cw⟩) (fun hHeld => ?_)
             refine tk 0 rfl ?_
             refine tk 1 rfl ?_
             refine tk 2 rfl ?_
             refine tk2 3 rfl ?_
             refine tk 4 rfl ?_
             refine tk 5 rfl ?_
             refine tk 6 rfl ?_
             refine tk 7 rfl ?_
             refine tk 8 rfl ?_
             refine tk 9 rfl ?_
             refine tk2 10 rfl ?_
             refine tk 11 rfl ?_
             refine rd 12 rfl (fun K hK => ?_)
             go_simp
             go_wp2_with fail
             refine ko hK ⟨(cell_set_ne _ (fun e => by injection e with e1; exact hEr.ne e1.symm)).trans c18, (cell_set_ne _ (fun e => by injection e with e1; exact hgwm e1.symm)).trans cw⟩ (fun hHeld => ?_)
             clear hK K
             refine dn ?_
             go_wp2_with fail
             go_roundw
             case rel => exact ⟨k + 1, by omega, by go_num, (AR.drew').setOther _ hgwm, (by show DM N es _ g gm n cap sp nk ck { m with me := (putk m.me ka (wsu LL) k).set (ka + k) (wsu LL k) }; rw [← hkpe.out]; exact (hVr.bel ((Below.refl _ _).drew)).setMem hakn (wsu_u _ hlt)), (hch.drew).m2 _ _, by simpa using hsz⟩
             case measure => simp [intOf]; omega
           · obtain rfl : k = 4 := by omega
             have hpk : putk m.me ka (wsu LL) 4 = put4 m.me ka (wsu LL) := rfl
             rw [hpk] at hVr hEr
             have c0 := hEr.c0
             have fzr := hEr.fz
             go_wp2_with fail
             go_ret
             exact doYes hBB (m' := { m.nxt with me := put4 m.me ka (wsu LL) }) hex.out (hch.g2 _ _) (by simpa using hsz) (hVr.setPc (U64.wrap _))
       · have hkp : (0 : Int) < kk := by have := hkk1.out hs0; omega
         have hqk : q + kk ≤ n := by omega
         have a5 : IntKind.u64.wrap ((q : Int) + kk) = ((q + kk : Nat) : Int) := by rw [wrap64_of (by omega) (by omega)]; omega
         have a6 : ¬ cap = q := by omega
         have a7 : ((q + kk : Nat) : Int) ≤ cap := by omega
         have a8 : (q : Int) ≤ ((q + kk : Nat) : Int) := by omega
         have a9 : q + kk - q = kk := by omega
         clear h3
         go_upto_region 52 with (first
         | (go_at_call 186; have tq1 := tok; clear tok; go_must (refine (inside_any _ (kk : Int) n W hUb hk44 hn').mono ?_; rintro e w1 ⟨rfl, h⟩; replace h := h.symm; subst h; rw [hib.out]))
         | (go_at_call 186; have tq2 := tq1; clear tq1; go_must (refine (inside_any _ 4 n W hUa h44 hn').mono ?_; rintro e w1 ⟨rfl, h⟩; replace h := h.symm; subst h; rw [hia.out]))
         | (go_at_call 95; go_must (refine (summed_ok (c := kk) (s := s) W ⟨hi0, hi1⟩ hmk rfl (by omega) (W := m.wds q) (fun t => hok.me _) hsk (by omega) (by omega) (fun _ => ⟨gm, q, rfl, hEW.ltm, fun t ht => hEW.cm (by omega)⟩)).mono ?_; rintro e w1 ⟨v1, rfl, ho1, hb1⟩)))
         obtain ⟨LL, hLL⟩ : ∃ LL, LL = P ++ fbL (m.wds q) s := ⟨_, rfl⟩
         rw [← hLL] at hex hPb hPl ho1
         replace hPl := Hid.mk' hPl
         clear hLL hmk
         obtain ⟨sp1, cp1, rfl, hB1, -⟩ := own_bs ho1 hPb (by omega)
         go_upto_region 53 with (first
           | (go_at_call 23; go_must (refine (refSum_any sp1 _ cp1 LL w1 hPl.out.symm hB1.nil hB1.sl (by omega)).mono ?_; rintro e w2 ⟨rfl, hb2⟩))
           | (go_at_call 96; go_must (refine (refWords_any (sha LL) (shaB (bat LL) LL.length) w2 (sha_get LL) (fun t _ => shaB_range _ _ t)).mono ?_; rintro e w3 ⟨rfl, hb3⟩; rw [wordsOf_four]))
           | (refine wpList_store_new w3 _ 96 (by rfl) 96 (.tmp 18) (.tmp 234) (by rfl) (four (wsu LL)).toArray (by rfl) (by rfl) size30 (by rfl) (all_oneCell_toArray (four_one _)) ?_))
         have hb6 : Below W.heap.size W (w3.alloc (.cells (four (wsu LL)).toArray 96)) := ((hb1.trans (hb2.mono hb1.size)).trans (hb3.mono (by have := hb1.size; have := hb2.size; omega))).alloc (by have := hb1.size; have := hb2.size; have := hb3.size; omega) _
         have hs3 : W.heap.size ≤ w3.heap.size := by have := hb1.size; have := hb2.size; have := hb3.size; omega
         have A6 := Arr.new w3 96 (four (wsu LL)).toArray
         obtain ⟨gw, hgw⟩ : ∃ gw, gw = w3.heap.size := ⟨_, rfl⟩
         obtain ⟨W6, hW6⟩ : ∃ W6 : World, W6 = w3.alloc (.cells (four (wsu LL)).toArray 96) := ⟨_, rfl⟩
         rw [← hgw] at A6 ⊢
         rw [← hW6] at A6 hb6 ⊢
         have hV6 := hVW.bel hb6
         have hgw2 : W.heap.size ≤ gw := by omega
         have hltg := hEW.lt
         have hltm := hEW.ltm
         have hgwm : gw ≠ gm := by omega
         have hgwg : gw ≠ g := by omega
         have hBB := hBW.trans (hb6.mono hBW.size)
         clear hW6 hgw hb1 hb2 hb3 ho1 hB1 hb6 hs3 k0 k1 k4 c0 c17 c18 fz fm c0' f' hEW hVW AW hltg hltm hgw2
         go_wp2_with fail
         go_loopw [19] (fun iv wr => ∃ (k : Nat) , k ≤ 4 ∧ iv = .int .i64 k ∧ Arr wr gw 96 (four (wsu LL)).toArray ∧ DM N es wr g gm n cap sp nk ck { m with me := putk m.me ka (wsu LL) k } ∧ Chg (C2 g gm) W6 wr ∧ W6.heap.size ≤ wr.heap.size)
           (fun iv _ => 4 - (intOf iv).toNat)
         case atStart => exact ⟨0, by omega, rfl, A6, hV6, Chg.refl _ _, Nat.le_refl _⟩
         case round =>
           obtain ⟨k, hk, rfl, AR, hVr, hch, hsz⟩ := hrel
           have hEr := hVr.en
           by_cases hlt : k < 4
           · have h4I : (k : Int) < 4 := by omega
             have cw : wr.cell? ⟨gw, k, none⟩ = some (.int .u64 (wsu LL k)) := by rw [AR.cell]; exact four_get _ k hlt
             have c18 := hEr.c18
             have fmr := hEr.fm
             obtain ⟨kp, hkpe⟩ : ∃ kp : Nat, kp = ka + k := ⟨_, rfl⟩
             have eak : IntKind.u64.wrap ((ka : Int) + k) = (kp : Int) := by rw [wrap64_of (by omega) (by omega)]; omega
             have eku' : IntKind.u64.wrap (k : Int) = k := wrap64_of (by omega) (by omega)
             have hakn : kp < n := by omega
             have hakI : (kp : Int) < n := by omega
             replace hkpe := Hid.mk' hkpe
             obtain ⟨cmx, hcmx⟩ : ∃ v, wr.cell? ⟨gm, kp, none⟩ = some v := ⟨_, hEr.cm hakn⟩
             go_upto_region 56 with fail
             refine rgn (fun u => u.cell? ⟨g, 18, none⟩ = some (.slice (some ⟨gm, 0, none⟩) n cap) ∧ u.cell? ⟨gw, k, none⟩ = some (.int .u64 (wsu LL k))) (⟨by exact c18, by exact cw⟩) (fun hHeld => ?_)
             refine tk 0 rfl ?_
             refine tk 1 rfl ?_
             refine tk 2 rfl ?_
             refine tk2 3 rfl ?_
             refine tk 4 rfl ?_
             refine tk 5 rfl ?_
             refine tk 6 rfl ?_
             refine tk 7 rfl ?_
             refine tk 8 rfl ?_
             refine tk 9 rfl ?_
             refine tk2 10 rfl ?_
             refine tk 11 rfl ?_
             refine rd 12 rfl (fun K hK => ?_)
             go_simp
             go_wp2_with fail
             refine ko hK ⟨(cell_set_ne _ (fun e => by injection e with e1; exact hEr.ne e1.symm)).trans c18, (cell_set_ne _ (fun e => by injection e with e1; exact hgwm e1.symm)).trans cw⟩ (fun hHeld => ?_)
             clear hK K
             refine dn ?_
             go_wp2_with fail
             go_roundw
             case rel => exact ⟨k + 1, by omega, by go_num, (AR.drew').setOther _ hgwm, (by show DM N es _ g gm n cap sp nk ck { m with me := (putk m.me ka (wsu LL) k).set (ka + k) (wsu LL k) }; rw [← hkpe.out]; exact (hVr.bel ((Below.refl _ _).drew)).setMem hakn (wsu_u _ hlt)), (hch.drew).m2 _ _, by simpa using hsz⟩
             case measure => simp [intOf]; omega
           · obtain rfl : k = 4 := by omega
             have hpk : putk m.me ka (wsu LL) 4 = put4 m.me ka (wsu LL) := rfl
             rw [hpk] at hVr hEr
             have c0 := hEr.c0
             have fzr := hEr.fz
             go_wp2_with fail
             go_ret
             exact doYes hBB (m' := { m.nxt with me := put4 m.me ka (wsu LL) }) hex.out (hch.g2 _ _) (by simpa using hsz) (hVr.setPc (U64.wrap _))
   · have ra := hEW.cr ha16
     have c0d : ∀ v, (W.drew.setCell ⟨g, 1 + a, none⟩ v).cell? ⟨g, 0, none⟩ = some (.int .u64 m.pc) := fun v => (cell_set_ne v (fun e => by injection e with _ e2 _; omega)).trans c0
     have fd : ∀ v j, (W.drew.setCell ⟨g, 1 + a, none⟩ v).frozen? ⟨g, j, none⟩ = false := fun v j => (hEW.drew.eng.set (1 + a) v).frozen j
     have fdm : ∀ k v j, (W.drew.setCell ⟨gm, k, none⟩ v).frozen? ⟨g, j, none⟩ = false := fun k v j => (hEW.drew.eng.setOther v hne).frozen j
     have hn' : n ≤ 4096 := by omega
     have h44 : (0 : Int) ≤ 4 ∧ (4 : Int) ≤ 4096 := by omega
     have hl := hlen.out
     by_cases hq : m.get b + 4 ≤ n
     · obtain ⟨q, hqe⟩ : ∃ q : Nat, m.get b = q := ⟨(m.get b).toNat, by have := hUb.1; omega⟩
       have hib : Hid (inB (m.get b) 4 n = true) := Hid.mk' (by have := hUb.1; simp [inB]; omega)
       have hqn : q + 4 ≤ n := by omega
       obtain ⟨q1, hq1⟩ : ∃ q1 : Nat, q1 = q + 1 := ⟨_, rfl⟩
       obtain ⟨q2, hq2⟩ : ∃ q2 : Nat, q2 = q + 2 := ⟨_, rfl⟩
       obtain ⟨q3, hq3⟩ : ∃ q3 : Nat, q3 = q + 3 := ⟨_, rfl⟩
       have hn0 : q < n := by omega
       have hn1 : q1 < n := by omega
       have hn2 : q2 < n := by omega
       have hn3 : q3 < n := by omega
       have hqI : (q : Int) < (n : Int) := by omega
       have hqI1 : (q1 : Int) < (n : Int) := by omega
       have hqI2 : (q2 : Int) < (n : Int) := by omega
       have hqI3 : (q3 : Int) < (n : Int) := by omega
       have e1 : IntKind.u64.wrap ((q : Int) + 1) = (q1 : Int) := by rw [wrap64_of (by omega) (by omega)]; omega
       have e2 : IntKind.u64.wrap ((q : Int) + 2) = (q2 : Int) := by rw [wrap64_of (by omega) (by omega)]; omega
       have e3 : IntKind.u64.wrap ((q : Int) + 3) = (q3 : Int) := by rw [wrap64_of (by omega) (by omega)]; omega
       have hb9 : Tryz.prog.built 96 [(0, .int .u64 (m.me.getD q 0)), (1, .int .u64 (m.me.getD q1 0)), (2, .int .u64 (m.me.getD q2 0)), (3, .int .u64 (m.me.getD q3 0))] = some (four (m.wds q)).toArray := by rw [hq1, hq2, hq3]; exact built109 _ _ _ _
       replace hq1 := Hid.mk' hq1
       replace hq2 := Hid.mk' hq2
       replace hq3 := Hid.mk' hq3
       have hpm : Hid (prm es m (m.get b) = pre es (fmL (m.wds q))) := Hid.mk' (by unfold prm; rw [if_pos (by omega), hqe]; simp only [Int.toNat_natCast])
       have hfl : (fmL (m.wds q)).length = 32 := fmL_len _
       replace hqe := Hid.mk' hqe
       clear hl hq
       go_upto_region 61 with (go_at_call 186; go_must (refine (inside_any _ 4 n W hUb h44 hn').mono ?_; rintro e w1 ⟨rfl, h⟩; replace h := h.symm; subst h; rw [hib.out]))
       simp only [hqe.out]
       refine rgn (fun u => Below W.heap.size W u) ((Below.refl _ _).drew) (fun hHeld => ?_)
       refine tk 0 rfl ?_
       refine tk 1 rfl ?_
       refine tk 2 rfl ?_
       refine tk 3 rfl ?_
       refine tk 4 rfl (hy := by (intro u hSw; have hEu := (hVW.bel hSw).en; have c18 := hEu.c18; go_simp; try (with_reducible rfl))) ?_
       refine tk 5 rfl ?_
       refine tk 6 rfl ?_
       refine tk 7 rfl (hy := by (intro u hSw; have hEu := (hVW.bel hSw).en; have cj := hEu.cm (t := q) hn0; go_simp; try (with_reducible rfl))) ?_
       refine tk 8 rfl ?_
       refine tk 9 rfl ?_
       refine tk 10 rfl ?_
       refine tk 11 rfl (hy := by (intro u hSw; have hEu := (hVW.bel hSw).en; have c18 := hEu.c18; go_simp; try (with_reducible rfl))) ?_
       refine tk 12 rfl ?_
       refine tk 13 rfl ?_
       refine tk 14 rfl ?_
       refine tk 15 rfl (hy := by (intro u hSw; have hEu := (hVW.bel hSw).en; have cj := hEu.cm (t := q1) hn1; go_simp; try (with_reducible rfl))) ?_
       refine tk 16 rfl ?_
       refine tk 17 rfl ?_
       refine tk 18 rfl ?_
       refine tk 19 rfl (hy := by (intro u hSw; have hEu := (hVW.bel hSw).en; have c18 := hEu.c18; go_simp; try (with_reducible rfl))) ?_
       refine tk 20 rfl ?_
       refine tk 21 rfl ?_
       refine tk 22 rfl ?_
       refine tk 23 rfl (hy := by (intro u hSw; have hEu := (hVW.bel hSw).en; have cj := hEu.cm (t := q2) hn2; go_simp; try (with_reducible rfl))) ?_
       refine tk 24 rfl ?_
       refine tk 25 rfl ?_
       refine tk 26 rfl ?_
       refine tk 27 rfl (hy := by (intro u hSw; have hEu := (hVW.bel hSw).en; have c18 := hEu.c18; go_simp; try (with_reducible rfl))) ?_
       refine tk 28 rfl ?_
       refine tk 29 rfl ?_
       refine tk 30 rfl ?_
       refine tk 31 rfl (hy := by (intro u hSw; have hEu := (hVW.bel hSw).en; have cj := hEu.cm (t := q3) hn3; go_simp; try (with_reducible rfl))) ?_
       refine tl 32 rfl (y_bd (by rfl) 96 #[(0, .tmp 266), (1, .tmp 274), (2, .tmp 282), (3, .tmp 290)] rfl (by rfl) hb9) ?_
       refine rd 33 rfl (fun K hK => ?_)
       go_simp
       refine (refFrom_any _ (m.wds q) _ (four_get _)).mono ?_
       rintro e w1 ⟨rfl, hb1⟩
       rw [fmL_h8]
       have hB1 : Below W.heap.size W w1 := hHeld.trans (hb1.mono hHeld.size)
       go_wp2_with fail
       refine ko hK hB1 (fun hHeld => ?_)
       clear hK K
       refine rd 34 rfl (fun K hK => ?_)
       go_simp
       refine (refPre_any sp nk ck es (fmL (m.wds q)) N _ (hVW.bel hB1).known hfl).mono ?_
       rintro e w2 ⟨hb2, hcs⟩
       have hB2 : Below W.heap.size W w2 := hB1.trans (hb2.mono hB1.size)
       rcases hcs with ⟨e0, he0, hm0, rfl⟩ | ⟨he0, rfl⟩
       · go_wp2_with fail
         refine ko hK hB2 (fun hHeld => ?_)
         clear hK K
         refine tk 35 rfl ?_
         refine tk 36 rfl ?_
         refine tk 37 rfl ?_
         refine tk 38 rfl ?_
         refine tk 39 rfl ?_
         refine dn ?_
         have hex : Hid (ex es m 24 a b c i = some (m.put a (pcN e0.bs (m.get c).toNat 8))) := Hid.mk' (by simp [ex, hpm.out, he0])
         have hV2 := hVW.bel hB2
         have hE2 := hV2.en
         have A2 := AW.below hB2 AW.lt
         have hB0 := (hV2.known.ok e0 hm0).body
         have hnn := hB0.small
         have hwn : IntKind.u64.wrap (e0.n : Int) = e0.n := wrap64_of (by omega) (by omega)
         have hUz : U64 (e0.n : Int) := by unfold U64; omega
         have j0 : w2.cell? ⟨G, 0, none⟩ = some (.int .u8 24) := A2.cell 0
         have j1 : w2.cell? ⟨G, 1, none⟩ = some (.int .u8 (a : Int)) := A2.cell 1
         have ra2 := hE2.cr ha16
         have fz2 := hE2.fz
         have j0d : ∀ v, (w2.drew.setCell ⟨g, 1 + a, none⟩ v).cell? ⟨G, 0, none⟩ = some (.int .u8 24) := fun v => (cell_set_ne v (fun e => by injection e with e1; exact hGg e1)).trans j0
         have c2d : ∀ v, (w2.drew.setCell ⟨g, 1 + a, none⟩ v).cell? ⟨g, 0, none⟩ = some (.int .u64 m.pc) := fun v => (cell_set_ne v (fun e => by injection e with _ e2 _; omega)).trans hE2.c0
         have f2d : ∀ v j, (w2.drew.setCell ⟨g, 1 + a, none⟩ v).frozen? ⟨g, j, none⟩ = false := fun v j => (hE2.drew.eng.set (1 + a) v).frozen j
         have c2e : ∀ v, (w2.setCell ⟨g, 1 + a, none⟩ v).cell? ⟨g, 0, none⟩ = some (.int .u64 m.pc) := fun v => (cell_set_ne v (fun e => by injection e with _ e2 _; omega)).trans hE2.c0
         have f2e : ∀ v j, (w2.setCell ⟨g, 1 + a, none⟩ v).frozen? ⟨g, j, none⟩ = false := fun v j => (hE2.eng.set (1 + a) v).frozen j
         have j0e : ∀ v, (w2.setCell ⟨g, 1 + a, none⟩ v).cell? ⟨G, 0, none⟩ = some (.int .u8 24) := fun v => (cell_set_ne v (fun e => by injection e with e1; exact hGg e1)).trans j0
         have hBB := hBW.trans (hB2.mono hBW.size)
         clear he0 ra k0 k1 k4 c0 c17 c18 fz fm c0' f' c0d fd fdm e1 e2 e3 hb9
         go_upto_region 64 with fail
         refine rgn (fun u => u.cell? ⟨G, 1, none⟩ = some (.int .u8 (a : Int))) (by exact j1) (fun hHeld => ?_)
         refine tk 0 rfl ?_
         refine tk 1 rfl ?_
         refine tk 2 rfl ?_
         refine tk 3 rfl ?_
         refine tk 4 rfl ?_
         refine tk 5 rfl ?_
         refine tk 6 rfl ?_
         refine tk 7 rfl ?_
         refine tk 8 rfl ?_
         refine rd 9 rfl (fun K hK => ?_)
         go_simp
         go_wp2_with fail
         refine ko hK ((cell_set_ne _ (fun e => by injection e with e1; exact hGg e1)).trans j1) (fun hHeld => ?_)
         clear hK K
         refine dn ?_
         have hV3 := (hV2.setReg ha16 hUz).bel ((((Below.refl _ (w2.setCell ⟨g, 1 + a, none⟩ (.int .u64 (e0.n : Int)))).drew).drew))
         have hB3 := (hV3.known.ok e0 hm0).body
         have hUp : U64 (pcN e0.bs (m.get c).toNat 8) := pcN_u hB0.bts _
         have j1e : ∀ v, (w2.setCell ⟨g, 1 + a, none⟩ v).cell? ⟨G, 1, none⟩ = some (.int .u8 (a : Int)) := fun v => (cell_set_ne v (fun e => by injection e with e1; exact hGg e1)).trans j1
         go_upto_region 66 with fail
         refine rgn (fun u => u.cell? ⟨G, 1, none⟩ = some (.int .u8 (a : Int))) (by exact j1e _) (fun hHeld => ?_)
         refine tk 0 rfl ?_
         refine tk 1 rfl ?_
         refine tk 2 rfl ?_
         refine tk 3 rfl ?_
         refine tk 4 rfl ?_
         refine tk 6 rfl ?_
         refine tk 7 rfl ?_
         refine rd 5 rfl (fun K hK => ?_)
         go_simp
         refine (refPiece_any _ (by exact hB3) hUc).mono ?_
         rintro e w3 ⟨rfl, h⟩
         subst h
         go_wp2_with fail
         refine ko hK (by exact j1e _) (fun hHeld => ?_)
         clear hK K
         refine tk 8 rfl ?_
         refine rd 9 rfl (fun K hK => ?_)
         go_simp
         go_wp2_with fail
         refine ko hK ((cell_set_ne _ (fun e => by injection e with e1; exact hGg e1)).trans (j1e _)) (fun hHeld => ?_)
         clear hK K
         refine dn ?_
         go_wp2_with fail
         go_ret
         exact doYes hBB (m' := m.put a (pcN e0.bs (m.get c).toNat 8)) hex.out (((((Chg.refl _ w2).g2 _ _).g2 _ _).g2 _ _).drew.drew) (by simp) (by have h := (((hV2.setReg ha16 hUz).put ha16 hUp).bel ((Below.refl _ _).drew.drew)); simpa [Mc.put] using h)
       · go_wp2_with fail
         refine ko hK hB2 (fun hHeld => ?_)
         clear hK K
         refine tk 35 rfl ?_
         refine tk 36 rfl ?_
         refine tk 37 rfl ?_
         refine tk 38 rfl ?_
         refine tk 39 rfl ?_
         refine dn ?_
         have hex : Hid (ex es m 24 a b c i = none) := Hid.mk' (by simp [ex, hpm.out, he0])
         clear he0
         go_wp2_with fail
         go_ret
         exact doNo hV hex.out (hBW.trans (hB2.mono hBW.size))
     · have hex : ex es m 24 a b c i = none := (by have h1 : prm es m (m.get b) = none := (by unfold prm; rw [if_neg (by omega)]); simp [ex, h1])
       have hib : Hid (inB (m.get b) 4 n = false) := Hid.mk' (by have := hUb.1; simp [inB]; omega)
       replace hex := Hid.mk' hex
       clear hl hq
       go_wp2_with (go_at_call 186; go_must (refine (inside_any _ 4 n W hUb h44 hn').mono ?_; rintro e w1 ⟨rfl, h⟩; replace h := h.symm; subst h; rw [hib.out]))
       go_ret
       exact doNo hV hex.out hBW
   · have ra := hEW.cr ha16
     have c0d : ∀ v, (W.drew.setCell ⟨g, 1 + a, none⟩ v).cell? ⟨g, 0, none⟩ = some (.int .u64 m.pc) := fun v => (cell_set_ne v (fun e => by injection e with _ e2 _; omega)).trans c0
     have fd : ∀ v j, (W.drew.setCell ⟨g, 1 + a, none⟩ v).frozen? ⟨g, j, none⟩ = false := fun v j => (hEW.drew.eng.set (1 + a) v).frozen j
     have fdm : ∀ k v j, (W.drew.setCell ⟨gm, k, none⟩ v).frozen? ⟨g, j, none⟩ = false := fun k v j => (hEW.drew.eng.setOther v hne).frozen j
     have hn' : n ≤ 4096 := by omega
     have h44 : (0 : Int) ≤ 4 ∧ (4 : Int) ≤ 4096 := by omega
     have hl := hlen.out
     by_cases hq : m.get b + 4 ≤ n
     · obtain ⟨q, hqe⟩ : ∃ q : Nat, m.get b = q := ⟨(m.get b).toNat, by have := hUb.1; omega⟩
       have hib : Hid (inB (m.get b) 4 n = true) := Hid.mk' (by have := hUb.1; simp [inB]; omega)
       have hqn : q + 4 ≤ n := by omega
       obtain ⟨q1, hq1⟩ : ∃ q1 : Nat, q1 = q + 1 := ⟨_, rfl⟩
       obtain ⟨q2, hq2⟩ : ∃ q2 : Nat, q2 = q + 2 := ⟨_, rfl⟩
       obtain ⟨q3, hq3⟩ : ∃ q3 : Nat, q3 = q + 3 := ⟨_, rfl⟩
       have hn0 : q < n := by omega
       have hn1 : q1 < n := by omega
       have hn2 : q2 < n := by omega
       have hn3 : q3 < n := by omega
       have hqI : (q : Int) < (n : Int) := by omega
       have hqI1 : (q1 : Int) < (n : Int) := by omega
       have hqI2 : (q2 : Int) < (n : Int) := by omega
       have hqI3 : (q3 : Int) < (n : Int) := by omega
       have e1 : IntKind.u64.wrap ((q : Int) + 1) = (q1 : Int) := by rw [wrap64_of (by omega) (by omega)]; omega
       have e2 : IntKind.u64.wrap ((q : Int) + 2) = (q2 : Int) := by rw [wrap64_of (by omega) (by omega)]; omega
       have e3 : IntKind.u64.wrap ((q : Int) + 3) = (q3 : Int) := by rw [wrap64_of (by omega) (by omega)]; omega
       have hb9 : Tryz.prog.built 96 [(0, .int .u64 (m.me.getD q 0)), (1, .int .u64 (m.me.getD q1 0)), (2, .int .u64 (m.me.getD q2 0)), (3, .int .u64 (m.me.getD q3 0))] = some (four (m.wds q)).toArray := by rw [hq1, hq2, hq3]; exact built109 _ _ _ _
       replace hq1 := Hid.mk' hq1
       replace hq2 := Hid.mk' hq2
       replace hq3 := Hid.mk' hq3
       have hpm : Hid (prm es m (m.get b) = pre es (fmL (m.wds q))) := Hid.mk' (by unfold prm; rw [if_pos (by omega), hqe]; simp only [Int.toNat_natCast])
       have hfl : (fmL (m.wds q)).length = 32 := fmL_len _
       replace hqe := Hid.mk' hqe
       clear hl hq
       go_upto_region 61 with (go_at_call 186; go_must (refine (inside_any _ 4 n W hUb h44 hn').mono ?_; rintro e w1 ⟨rfl, h⟩; replace h := h.symm; subst h; rw [hib.out]))
       simp only [hqe.out]
       refine rgn (fun u => Below W.heap.size W u) ((Below.refl _ _).drew) (fun hHeld => ?_)
       refine tk 0 rfl ?_
       refine tk 1 rfl ?_
       refine tk 2 rfl ?_
       refine tk 3 rfl ?_
       refine tk 4 rfl (hy := by (intro u hSw; have hEu := (hVW.bel hSw).en; have c18 := hEu.c18; go_simp; try (with_reducible rfl))) ?_
       refine tk 5 rfl ?_
       refine tk 6 rfl ?_
       refine tk 7 rfl (hy := by (intro u hSw; have hEu := (hVW.bel hSw).en; have cj := hEu.cm (t := q) hn0; go_simp; try (with_reducible rfl))) ?_
       refine tk 8 rfl ?_
       refine tk 9 rfl ?_
       refine tk 10 rfl ?_
       refine tk 11 rfl (hy := by (intro u hSw; have hEu := (hVW.bel hSw).en; have c18 := hEu.c18; go_simp; try (with_reducible rfl))) ?_
       refine tk 12 rfl ?_
       refine tk 13 rfl ?_
       refine tk 14 rfl ?_
       refine tk 15 rfl (hy := by (intro u hSw; have hEu := (hVW.bel hSw).en; have cj := hEu.cm (t := q1) hn1; go_simp; try (with_reducible rfl))) ?_
       refine tk 16 rfl ?_
       refine tk 17 rfl ?_
       refine tk 18 rfl ?_
       refine tk 19 rfl (hy := by (intro u hSw; have hEu := (hVW.bel hSw).en; have c18 := hEu.c18; go_simp; try (with_reducible rfl))) ?_
       refine tk 20 rfl ?_
       refine tk 21 rfl ?_
       refine tk 22 rfl ?_
       refine tk 23 rfl (hy := by (intro u hSw; have hEu := (hVW.bel hSw).en; have cj := hEu.cm (t := q2) hn2; go_simp; try (with_reducible rfl))) ?_
       refine tk 24 rfl ?_
       refine tk 25 rfl ?_
       refine tk 26 rfl ?_
       refine tk 27 rfl (hy := by (intro u hSw; have hEu := (hVW.bel hSw).en; have c18 := hEu.c18; go_simp; try (with_reducible rfl))) ?_
       refine tk 28 rfl ?_
       refine tk 29 rfl ?_
       refine tk 30 rfl ?_
       refine tk 31 rfl (hy := by (intro u hSw; have hEu := (hVW.bel hSw).en; have cj := hEu.cm (t := q3) hn3; go_simp; try (with_reducible rfl))) ?_
       refine tl 32 rfl (y_bd (by rfl) 96 #[(0, .tmp 266), (1, .tmp 274), (2, .tmp 282), (3, .tmp 290)] rfl (by rfl) hb9) ?_
       refine rd 33 rfl (fun K hK => ?_)
       go_simp
       refine (refFrom_any _ (m.wds q) _ (four_get _)).mono ?_
       rintro e w1 ⟨rfl, hb1⟩
       rw [fmL_h8]
       have hB1 : Below W.heap.size W w1 := hHeld.trans (hb1.mono hHeld.size)
       go_wp2_with fail
       refine ko hK hB1 (fun hHeld => ?_)
       clear hK K
       refine rd 34 rfl (fun K hK => ?_)
       go_simp
       refine (refPre_any sp nk ck es (fmL (m.wds q)) N _ (hVW.bel hB1).known hfl).mono ?_
       rintro e w2 ⟨hb2, hcs⟩
       have hB2 : Below W.heap.size W w2 := hB1.trans (hb2.mono hB1.size)
       rcases hcs with ⟨e0, he0, hm0, rfl⟩ | ⟨he0, rfl⟩
       · go_wp2_with fail
         refine ko hK hB2 (fun hHeld => ?_)
         clear hK K
         refine tk 35 rfl ?_
         refine tk 36 rfl ?_
         refine tk 37 rfl ?_
         refine tk 38 rfl ?_
         refine tk 39 rfl ?_
         refine dn ?_
         have hex : Hid (ex es m 25 a b c i = some (m.put a e0.n)) := Hid.mk' (by simp [ex, hpm.out, he0])
         have hV2 := hVW.bel hB2
         have hE2 := hV2.en
         have A2 := AW.below hB2 AW.lt
         have hB0 := (hV2.known.ok e0 hm0).body
         have hnn := hB0.small
         have hwn : IntKind.u64.wrap (e0.n : Int) = e0.n := wrap64_of (by omega) (by omega)
         have hUz : U64 (e0.n : Int) := by unfold U64; omega
         have j0 : w2.cell? ⟨G, 0, none⟩ = some (.int .u8 25) := A2.cell 0
         have j1 : w2.cell? ⟨G, 1, none⟩ = some (.int .u8 (a : Int)) := A2.cell 1
         have ra2 := hE2.cr ha16
         have fz2 := hE2.fz
         have j0d : ∀ v, (w2.drew.setCell ⟨g, 1 + a, none⟩ v).cell? ⟨G, 0, none⟩ = some (.int .u8 25) := fun v => (cell_set_ne v (fun e => by injection e with e1; exact hGg e1)).trans j0
         have c2d : ∀ v, (w2.drew.setCell ⟨g, 1 + a, none⟩ v).cell? ⟨g, 0, none⟩ = some (.int .u64 m.pc) := fun v => (cell_set_ne v (fun e => by injection e with _ e2 _; omega)).trans hE2.c0
         have f2d : ∀ v j, (w2.drew.setCell ⟨g, 1 + a, none⟩ v).frozen? ⟨g, j, none⟩ = false := fun v j => (hE2.drew.eng.set (1 + a) v).frozen j
         have c2e : ∀ v, (w2.setCell ⟨g, 1 + a, none⟩ v).cell? ⟨g, 0, none⟩ = some (.int .u64 m.pc) := fun v => (cell_set_ne v (fun e => by injection e with _ e2 _; omega)).trans hE2.c0
         have f2e : ∀ v j, (w2.setCell ⟨g, 1 + a, none⟩ v).frozen? ⟨g, j, none⟩ = false := fun v j => (hE2.eng.set (1 + a) v).frozen j
         have j0e : ∀ v, (w2.setCell ⟨g, 1 + a, none⟩ v).cell? ⟨G, 0, none⟩ = some (.int .u8 25) := fun v => (cell_set_ne v (fun e => by injection e with e1; exact hGg e1)).trans j0
         have hBB := hBW.trans (hB2.mono hBW.size)
         clear he0 ra k0 k1 k4 c0 c17 c18 fz fm c0' f' c0d fd fdm e1 e2 e3 hb9
         go_upto_region 64 with fail
         refine rgn (fun u => u.cell? ⟨G, 1, none⟩ = some (.int .u8 (a : Int))) (by exact j1) (fun hHeld => ?_)
         refine tk 0 rfl ?_
         refine tk 1 rfl ?_
         refine tk 2 rfl ?_
         refine tk 3 rfl ?_
         refine tk 4 rfl ?_
         refine tk 5 rfl ?_
         refine tk 6 rfl ?_
         refine tk 7 rfl ?_
         refine tk 8 rfl ?_
         refine rd 9 rfl (fun K hK => ?_)
         go_simp
         go_wp2_with fail
         refine ko hK ((cell_set_ne _ (fun e => by injection e with e1; exact hGg e1)).trans j1) (fun hHeld => ?_)
         clear hK K
         refine dn ?_
         go_wp2_with fail
         go_ret
         exact doYes hBB (m' := m.put a e0.n) hex.out (((Chg.refl _ w2).drew.g2 _ _).g2 _ _) (by simp) ((hV2.bel ((Below.refl _ _).drew)).put ha16 hUz)
       · go_wp2_with fail
         refine ko hK hB2 (fun hHeld => ?_)
         clear hK K
         refine tk 35 rfl ?_
         refine tk 36 rfl ?_
         refine tk 37 rfl ?_
         refine tk 38 rfl ?_
         refine tk 39 rfl ?_
         refine dn ?_
         have hex : Hid (ex es m 25 a b c i = none) := Hid.mk' (by simp [ex, hpm.out, he0])
         clear he0
         go_wp2_with fail
         go_ret
         exact doNo hV hex.out (hBW.trans (hB2.mono hBW.size))
     · have hex : ex es m 25 a b c i = none := (by have h1 : prm es m (m.get b) = none := (by unfold prm; rw [if_neg (by omega)]); simp [ex, h1])
       have hib : Hid (inB (m.get b) 4 n = false) := Hid.mk' (by have := hUb.1; simp [inB]; omega)
       replace hex := Hid.mk' hex
       clear hl hq
       go_wp2_with (go_at_call 186; go_must (refine (inside_any _ 4 n W hUb h44 hn').mono ?_; rintro e w1 ⟨rfl, h⟩; replace h := h.symm; subst h; rw [hib.out]))
       go_ret
       exact doNo hV hex.out hBW
end Go.Proofs.YtagebcbnenehfaaGreat
