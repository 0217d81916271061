/- QYm, QYn, QYo. -/
import Derived.Test.YtagebcbnenehfaaGreatX34
import Derived.Test.YtagebcbnenehfaaGreatX48
namespace Go.Proofs.YtagebcbnenehfaaGreat
open Go.RowKit
set_option maxRecDepth 100000
set_option linter.unusedVariables false
set_option linter.unusedSimpArgs false
set_option maxHeartbeats 40000000
section
section
variable {N : Nat} {es : List En} {g gm n cap : Nat} {sp : Option Addr} {nk ck : Nat} {m : Mc}
theorem do_t0 (w : World) (hV : DM N es w g gm n cap sp nk ck m) (hp : (n : Int) ≤ m.pc) : Calls Tryz.prog 167 #[.pointer (some ⟨g, 0, none⟩), .slice sp nk ck] w (DoPost N es g gm n cap sp nk ck m (stp es m) w) := by
 have hex : stp es m = none := by unfold stp; rw [if_neg (by rw [← hV.en.len.out]; omega)]
 have c0 := hV.en.c0
 have c18 := hV.en.c18
 have hn := hV.en.small
 have wn : IntKind.u64.wrap (n : Int) = n := wrap64_of (by omega) (by omega)
 replace hex := Hid.mk' hex
 go_enter Tryz.func167, Tryz.ntmps167
 go_wp2_with fail
 go_ret
 exact doNo hV hex.out (Below.refl _ _)
theorem do_t1 (w : World) (hV : DM N es w g gm n cap sp nk ck m) {pN : Nat} {x : Int} (hp : m.pc = (pN : Int)) (hpn : pN < n) (hx : m.me.getD pN 0 = x) (hd : dOk x = false) : Calls Tryz.prog 167 #[.pointer (some ⟨g, 0, none⟩), .slice sp nk ck] w (DoPost N es g gm n cap sp nk ck m (stp es m) w) := by
 have hex : stp es m = none := by
   unfold stp
   rw [hp, Int.toNat_natCast, hx, hd]
   simp
 replace hex := Hid.mk' hex
 have hE := hV.en
 have hok := hE.ok
 have hU : U64 x := by rw [← hx]; exact hok.me _
 have hv := dV_no hd
 have c0 := hE.c0
 rw [hp] at c0
 have c18 := hE.c18
 have hn := hE.small
 have wn : IntKind.u64.wrap (n : Int) = n := wrap64_of (by omega) (by omega)
 have hpn1 : ¬ (n : Int) ≤ (pN : Int) := by omega
 have hpn2 : (pN : Int) < (n : Int) := by omega
 have cx := hE.cm hpn
 rw [hx] at cx
 have hlen := hE.len
 replace hv := Hid.mk' hv
 replace hd := Hid.mk' hd
 replace hp := Hid.mk' hp
 have hx2 := Hid.mk' hx
 clear hx hE
 go_enter Tryz.func167, Tryz.ntmps167
 go_upto_region 4 with fail
 go_cut [6, 7] from 36 to 49 (fun p q wc => q = .bool false ∧ Below w.heap.size w wc)
 case first =>
   refine rgn (fun u => Below w.heap.size w u) ((Below.refl _ _).drew) (fun hHeld => ?_)
   refine tk 0 rfl ?_
   refine tk 1 rfl ?_
   refine tk 2 rfl ?_
   refine tk 3 rfl (hy := by (intro u hSw; have c18 := (hV.bel hSw).en.c18; go_simp; try (with_reducible rfl))) ?_
   refine tk 4 rfl ?_
   refine tk 5 rfl ?_
   refine tk 6 rfl ?_
   refine tk 7 rfl (hy := by (intro u hSw; have c0 := (hV.bel hSw).en.c0; rw [hp.out] at c0; go_simp; try (with_reducible rfl))) ?_
   refine tk 8 rfl ?_
   refine tk 9 rfl (hy := by (intro u hSw; have cx := (hV.bel hSw).en.cm hpn; rw [hx2.out] at cx; go_simp; try (with_reducible rfl))) ?_
   refine rd2 10 14 rfl rfl (fun K hK => ?_) (fun K hK => ?_)
   · go_simp
     refine (refdecode_any _ hU).mono ?_
     rintro e w2 ⟨rfl, hb2⟩
     rw [hv.out, hd.out]
     have hB2 : Below w.heap.size w w2 := hHeld.trans (hb2.mono (hHeld.size))
     go_wp2_with fail
     refine ko hK hB2 (fun hHeld => ?_)
     clear hK K
     refine tk 11 rfl ?_
     refine tk 12 rfl ?_
     refine tk 13 rfl ?_
     refine rd 14 rfl (fun K hK => ?_)
     go_simp
     go_wp2_with fail
     refine ko hK (hB2.alloc hB2.size _) (fun hHeld => ?_)
     clear hK K
     refine rd 15 rfl (fun K hK => ?_)
     refine step_wantV rfl (wp_store_row 88 (.tmp 6) (.tmp 48) rfl w2.heap.size _ rfl rfl 88 _ (Arr.new w2 88 #[.int .u8 0, .int .u8 0, .int .u8 0, .int .u8 0, .int .u32 0]) (by rw [cdA_size]; exact size25) (by rw [cdA_size]; rfl) (one25 _ _ _ _ _) ?_)
     refine ko hK (below_setRow (hB2.alloc hB2.size _) hB2.size _) (fun hHeld => ?_)
     clear hK K
     refine tk 16 rfl ?_
     refine dn ?_
     go_wp2_with fail
     go_meet
     exact ⟨rfl, below_setRow (hB2.alloc hB2.size _) hB2.size _⟩
   · go_simp
     go_wp2_with fail
     refine ko hK ((Below.refl _ w).drew.alloc (Nat.le_refl _) _) (fun hHeld => ?_)
     clear hK K
     refine rd 10 rfl (fun K hK => ?_)
     go_simp
     refine (refdecode_any _ hU).mono ?_
     rintro e w2 ⟨rfl, hb2⟩
     rw [hv.out, hd.out]
     have hB2 : Below w.heap.size w w2 := hHeld.trans (hb2.mono (hHeld.size))
     go_wp2_with fail
     have AZ := (Arr.new w.drew 88 #[.int .u8 0, .int .u8 0, .int .u8 0, .int .u8 0, .int .u32 0]).below hb2 (by simp)
     refine ko hK hB2 (fun hHeld => ?_)
     clear hK K
     refine tk 11 rfl ?_
     refine tk 12 rfl ?_
     refine tk 13 rfl ?_
     refine rd 15 rfl (fun K hK => ?_)
     refine step_wantV rfl (wp_store_row 88 (.tmp 6) (.tmp 48) rfl w.drew.heap.size _ rfl rfl 88 _ AZ (by rw [cdA_size]; exact size25) (by rw [cdA_size]; rfl) (one25 _ _ _ _ _) ?_)
     refine ko hK (below_setRow hB2 (Nat.le_refl _) _) (fun hHeld => ?_)
     clear hK K
     refine tk 16 rfl ?_
     refine dn ?_
     go_wp2_with fail
     go_meet
     exact ⟨rfl, below_setRow hB2 (Nat.le_refl _) _⟩
 case rest =>
   obtain ⟨rfl, hBc⟩ := hcut
   go_wp2_with fail
   go_ret
   exact doNo hV hex.out hBc
theorem do_any (w : World) (hV : DM N es w g gm n cap sp nk ck m) : Calls Tryz.prog 167 #[.pointer (some ⟨g, 0, none⟩), .slice sp nk ck] w (DoPost N es g gm n cap sp nk ck m (stp es m) w) := by
 have hp0 := hV.en.ok.pc.1
 by_cases hp : m.pc < n
 · obtain ⟨pN, hpN⟩ : ∃ k : Nat, m.pc = k := ⟨m.pc.toNat, by omega⟩
   have hpn : pN < n := by omega
   obtain ⟨x, hx⟩ : ∃ x, m.me.getD pN 0 = x := ⟨_, rfl⟩
   have hU : U64 x := by rw [← hx]; exact hV.en.ok.me _
   cases hd : dOk x with
   | false => exact do_t1 w hV hpN hpn hx hd
   | true =>
     have hR := dRg hU
     obtain ⟨a, ha⟩ : ∃ k : Nat, dA x = k := ⟨(dA x).toNat, by omega⟩
     obtain ⟨b, hb⟩ : ∃ k : Nat, dB x = k := ⟨(dB x).toNat, by omega⟩
     obtain ⟨c, hc⟩ : ∃ k : Nat, dC x = k := ⟨(dC x).toNat, by omega⟩
     have hst : stp es m = ex es m (dOp x) a b c (dI x) := by
       unfold stp
       rw [hpN, Int.toNat_natCast, hx, hd, ha, hb, hc, if_pos (by rw [← hV.en.len.out]; omega), if_pos rfl]
       simp
     rw [hst]
     have ho25 : 1 ≤ dOp x ∧ dOp x ≤ 25 := by
       unfold dOk at hd
       have := of_decide_eq_true hd
       exact ⟨this.1, this.2.1⟩
     obtain ⟨i, hi⟩ : ∃ i, dI x = i := ⟨_, rfl⟩
     obtain ⟨o, ho⟩ : ∃ o, dOp x = o := ⟨_, rfl⟩
     rw [hi, ho]
     rw [ho] at ho25
     rcases ops25 ho25 with rfl | rfl | rfl | rfl | h5 | rfl | rfl | rfl | rfl | rfl | rfl | rfl | rfl | rfl
     · exact do_S1 (o := 1) (by simp) w hV hpN hpn hx hd ho ha hb hc hi
     · exact do_S1 (o := 2) (by simp) w hV hpN hpn hx hd ho ha hb hc hi
     · exact do_S1 (o := 3) (by simp) w hV hpN hpn hx hd ho ha hb hc hi
     · exact do_S1 (o := 4) (by simp) w hV hpN hpn hx hd ho ha hb hc hi
     · exact do_o w hV hpN hpn hx hd ho ha hb hc hi h5
     · exact do_S1 (o := 17) (by simp) w hV hpN hpn hx hd ho ha hb hc hi
     · exact do_S1 (o := 18) (by simp) w hV hpN hpn hx hd ho ha hb hc hi
     · exact do_S1 (o := 19) (by simp) w hV hpN hpn hx hd ho ha hb hc hi
     · exact do_S1 (o := 20) (by simp) w hV hpN hpn hx hd ho ha hb hc hi
     · exact do_S1 (o := 21) (by simp) w hV hpN hpn hx hd ho ha hb hc hi
     · exact do_S1 (o := 22) (by simp) w hV hpN hpn hx hd ho ha hb hc hi
     · exact do_S2 (o := 23) (by simp) w hV hpN hpn hx hd ho ha hb hc hi
     · exact do_S2 (o := 24) (by simp) w hV hpN hpn hx hd ho ha hb hc hi
     · exact do_S2 (o := 25) (by simp) w hV hpN hpn hx hd ho ha hb hc hi
 · exact do_t0 w hV (by omega)
def TuPost (N : Nat) (es : List En) (g gm n cap : Nat) (sp : Option Addr) (nk ck : Nat) (m : Mc) (w : World) (e : Ending) (w' : World) : Prop :=
 e = .returned (.tuple #[]) ∧ Chg (C2 g gm) w w' ∧ w.heap.size ≤ w'.heap.size ∧ DM N es w' g gm n cap sp nk ck (tick es m)
theorem refTurn_any (w : World) (hV : DM N es w g gm n cap sp nk ck m) (hst : m.st = 0) : Calls Tryz.prog 126 #[.pointer (some ⟨g, 0, none⟩), .slice sp nk ck] w (TuPost N es g gm n cap sp nk ck m w) := by
 have c17 := hV.en.c17
 rw [hst] at c17
 go_enter Tryz.func126, Tryz.ntmps126
 go_wp2_with (go_at_call 167; go_must (refine (do_any w hV).mono ?_; rintro e w1 ⟨hc1, hs1, ⟨m', hm', rfl, hV1⟩ | ⟨hm', rfl, hV1⟩⟩ <;> (have c17' := hV1.en.c17; have fz' := hV1.en.fz)))
 · have ht : tick es m = m' := by unfold tick; rw [hm']; rfl
   refine bodyPost_ret (v := .tuple #[]) (results_none Tryz.results126 _ _ _) rfl ⟨rfl, hc1, hs1, ?_⟩
   rw [ht]
   exact hV1
 · have ht : tick es m = { m with st := 2 } := by unfold tick; rw [hm']; rfl
   refine bodyPost_ret (v := .tuple #[]) (results_none Tryz.results126 _ _ _) rfl ⟨rfl, hc1.g2 _ _, by simpa using hs1, ?_⟩
   rw [ht]
   exact hV1.setSt (x := 2) (by omega)
end
end
theorem set18 {m : Mc} (h : m.rg.length = 16) (sp : Option Addr) (n cap : Nat) (v : Value) : (mcA m sp n cap).setIfInBounds 18 v = (mcL m v).toArray := by
 simp only [mcA, List.setIfInBounds_toArray]
 rw [mcL, List.set_cons_succ, List.set_append_right _ _ (by rw [by64_len, h]; omega), by64_len, h]
 rfl
theorem copy_any (m : Mc) (sp : Option Addr) (n cap : Nat) (N : Nat) (w : World) (hok : m.ok) (hM : MS N w sp n cap m.me) (h0 : 0 < n) :
   Calls Tryz.prog 125 #[.agg (mcA m sp n cap)] w fun e w' => ∃ gm cap', e = .returned (.agg (mcA m (some ⟨gm, 0, none⟩) n cap')) ∧ w.heap.size ≤ gm ∧ n ≤ cap' ∧ cap' ≤ 9223372036854775807 ∧ MW w' gm m.me ∧ Below w.heap.size w w' := by
 have A0 := (Arr.new w 27 (mcA m sp n cap)).alloc (.cells (mcA zM none 0 0) 27)
 have A1 := Arr.new (w.alloc (.cells (mcA m sp n cap) 27)) 27 (mcA zM none 0 0)
 simp only [World.size_alloc] at A1
 have hs0 := mcA_size hok.r16 sp n cap
 have hsz := mcA_size zM_ok.r16 none 0 0
 have hb0 := (alloc_bel' w (.cells (mcA m sp n cap) 27)).alloc (by simp) (.cells (mcA zM none 0 0) 27)
 have c18A := mcA_18 hok.r16 sp n cap
 have hset : ∀ (cp gm : Nat), (mcA m sp n cap).setIfInBounds 18 (.slice (some ⟨gm, 0, none⟩) n cp) = mcA m (some ⟨gm, 0, none⟩) n cp := fun cp gm => set18 hok.r16 _ _ _ _
 have hM0 := hM.here.below hb0
 obtain ⟨g0, off, rfl, -⟩ := hM.at0 h0
 have hs5 := fun (cp gm : Nat) => mcA_size hok.r16 (some ⟨gm, 0, none⟩) n cp
 have ho5 := fun (cp gm : Nat) => mcA_one m (some ⟨gm, 0, none⟩) n cp
 generalize hC : mcA m (some ⟨g0, off, none⟩) n cap = C at A0 A1 hb0 hset c18A hs0 hM0 ⊢
 clear hC
 obtain ⟨W, hW⟩ : ∃ W : World, W = (w.alloc (.cells C 27)).alloc (.cells (mcA zM none 0 0) 27) := ⟨_, rfl⟩
 have hWs : w.heap.size + 2 ≤ W.heap.size := by rw [hW]; simp
 have hlit : (W.alloc (.cells #[] 22)).ownsRow W.heap.size 22 1 (.slice (some ⟨W.heap.size, 0, none⟩) 0 0) 0 (by64 []) := World.ownsRow_lit _ _ _ (Nat.le_refl _) (by unfold maxLen; omega) rfl
 rw [← hW] at A0 A1 hb0 hM0
 have A0' := A0.alloc (.cells #[] 22)
 have A1' := A1.alloc (.cells #[] 22)
 have d18 := (A0'.cell 18).trans c18A
 have hM1 := (hM0.mono (show w.heap.size ≤ W.heap.size by omega)).below (alloc_bel' W (.cells #[] 22))
 have hB1 : Below w.heap.size w (W.alloc (.cells #[] 22)) := hb0.alloc (by omega) _
 go_enter Tryz.func125, Tryz.ntmps125
 go_upto_region 1 with fail
 rw [show mcA zM none 0 0 = #[.int .u64 0, .int .u64 0, .int .u64 0, .int .u64 0, .int .u64 0, .int .u64 0, .int .u64 0, .int .u64 0, .int .u64 0, .int .u64 0, .int .u64 0, .int .u64 0, .int .u64 0, .int .u64 0, .int .u64 0, .int .u64 0, .int .u64 0, .int .u8 0, .slice none 0 0] from rfl] at hW
 rw [← hW]
 clear hW
 go_upto_region 2 with (at_builtin; go_must (refine append_words (by rfl) (.tmp 3) (.tmp 5) (by rfl) W.heap.size _ (by rfl) hlit (some ⟨g0, off, none⟩) n cap m.me (by rfl) hM1 (by simp) ?_; intro v1 w1 hown1 hg1; have hbw : Below W.heap.size W w1 := (alloc_bel' W (.cells #[] 22)).grown hg1 (by simp) (fun k e => by simp [Value.ownBlock] at e; omega); obtain ⟨gm, cap', rfl, -, hgm, hc1, hc2, hMW⟩ := own64 hown1 h0; have A02 := A0.below hbw A0.lt; have A12 := A1.below hbw A1.lt; have d18' := (A02.cell 18).trans c18A; have f18' := A02.frozen 18))
 have B2 : Below w.heap.size w w1 := hb0.trans (hbw.mono hb0.size)
 have A5 : Arr (w1.setCell ⟨w.heap.size, 18, none⟩ (.slice (some ⟨gm, 0, none⟩) n cap')) w.heap.size 27 (mcA m (some ⟨gm, 0, none⟩) n cap') := by have := A02.set 18 (.slice (some ⟨gm, 0, none⟩) n cap'); rw [hset] at this; exact this
 have A15 : Arr (w1.setCell ⟨w.heap.size, 18, none⟩ (.slice (some ⟨gm, 0, none⟩) n cap')) (w.heap.size + 1) 27 (mcA zM none 0 0) := A12.setOther _ (by simp)
 have MW5 : MW (w1.setCell ⟨w.heap.size, 18, none⟩ (.slice (some ⟨gm, 0, none⟩) n cap')) gm m.me := hMW.setOther _ (by show gm ≠ w.heap.size; omega)
 have B5 : Below w.heap.size w (w1.setCell ⟨w.heap.size, 18, none⟩ (.slice (some ⟨gm, 0, none⟩) n cap')) := B2.setCell (Nat.le_refl _) _
 generalize w1.setCell ⟨w.heap.size, 18, none⟩ (.slice (some ⟨gm, 0, none⟩) n cap') = W5 at A5 A15 MW5 B5 ⊢
 have hs5 := hs5 cap' gm
 have ho5 := ho5 cap' gm
 clear A0 A1 A0' A1' d18 A02 A12 d18' f18' hbw hMW hset c18A hlit hM0 hM1 hown1
 go_wp2_with (first
   | (refine ld45 (by rfl) (.tmp 1) (by rfl) w.heap.size (by rfl) _ hs5 A5 ?_)
   | (refine st45 (by rfl) (.tmp 2) (.tmp 8) (by rfl) (w.heap.size + 1) _ (by rfl) (by rfl) hs5 ho5 _ hsz A15 ?_))
 exact bodyPost_ret (v := .agg (mcA m (some ⟨gm, 0, none⟩) n cap')) (res45c Tryz.results125 rfl hs5 (A15.setRow _)) rfl ⟨gm, cap', rfl, by omega, hc1, hc2, MW5.block (setRow_other _ _ _ _ (by omega)), below_setRow B5 (by omega) _⟩
theorem refRun_no {N : Nat} {es : List En} (m : Mc) (sp : Option Addr) (n cap : Nat) (sq : Option Addr) (nk ck : Nat) (x : Int) (w : World) (hok : m.ok) (hM : MS N w sp n cap m.me) (hS : ES N w sq nk ck es) (hx : -9223372036854775808 ≤ x ∧ x ≤ 9223372036854775807) (hbad : mayM m = false ∨ x < 0 ∨ 4194304 < x) :
   Calls Tryz.prog 61 #[.agg (mcA m sp n cap), .slice sq nk ck, .int .i64 x] w (RnPost es m x w) := by
 have A0 := (Arr.new w 27 (mcA m sp n cap)).alloc (.cells (mcA zM none 0 0) 27)
 have A1 := Arr.new (w.alloc (.cells (mcA m sp n cap) 27)) 27 (mcA zM none 0 0)
 simp only [World.size_alloc] at A1
 have hs0 := mcA_size hok.r16 sp n cap
 have hsz := mcA_size zM_ok.r16 none 0 0
 have hoz := mcA_one zM none 0 0
 have hb0 := (alloc_bel' w (.cells (mcA m sp n cap) 27)).alloc (by simp) (.cells (mcA zM none 0 0) 27)
 have hmay : ∀ U, Calls Tryz.prog 33 #[.agg (mcA m sp n cap)] U fun e w' => e = .returned (.bool (mayM m)) ∧ Below U.heap.size U w' := fun U => refMay_any m sp n cap U hok hM.len hM.small
 generalize hC : mcA m sp n cap = C at *
 cases hmm : mayM m with
 | false =>
     have hr : rO es m x = (zM, 0, 2) := by simp [rO, hmm]
     replace hr := Hid.mk' hr
     replace hmm := Hid.mk' hmm
     clear hbad
     go_enter Tryz.func61, Tryz.ntmps61
     go_wp2_with (first
       | (refine ld45 (by rfl) (.tmp 3) (by rfl) w.heap.size (by rfl) C hs0 A0 ?_)
       | (go_at_call 33; go_must (refine (hmay _).mono ?_; rintro e w1 ⟨rfl, hb1⟩; rw [hmm.out]; have B1 := hb0.trans (hb1.mono (by simp; omega)); have A01 := A0.below hb1 (by simp; omega); have A11 := A1.below hb1 (by simp)))
       | (refine st45 (by rfl) (.tmp 6) (.tmp 18) (by rfl) (w.heap.size + 1) (mcA zM none 0 0) (by rfl) (by rfl) hsz hoz _ hsz A11 ?_))
     exact bodyPost_ret (v := .tuple #[.agg (mcA zM none 0 0), .int .i64 0, .int .i64 2]) (res45 Tryz.results61 rfl rfl rfl hsz (A11.setRow _)) rfl (rnNo hr.out (below_setRow B1 (by omega) _))
 | true =>
   by_cases hx0 : x < 0
   · have hr : rO es m x = (zM, 0, 2) := by simp [rO, hx0]
     replace hr := Hid.mk' hr
     replace hmm := Hid.mk' hmm
     clear hbad
     go_enter Tryz.func61, Tryz.ntmps61
     go_wp2_with (first
       | (refine ld45 (by rfl) (.tmp 3) (by rfl) w.heap.size (by rfl) C hs0 A0 ?_)
       | (go_at_call 33; go_must (refine (hmay _).mono ?_; rintro e w1 ⟨rfl, hb1⟩; rw [hmm.out]; have B1 := hb0.trans (hb1.mono (by simp; omega)); have A01 := A0.below hb1 (by simp; omega); have A11 := A1.below hb1 (by simp)))
       | (refine st45 (by rfl) (.tmp 6) (.tmp 18) (by rfl) (w.heap.size + 1) (mcA zM none 0 0) (by rfl) (by rfl) hsz hoz _ hsz A11 ?_))
     exact bodyPost_ret (v := .tuple #[.agg (mcA zM none 0 0), .int .i64 0, .int .i64 2]) (res45 Tryz.results61 rfl rfl rfl hsz (A11.setRow _)) rfl (rnNo hr.out (below_setRow B1 (by omega) _))
   · have hx4 : 4194304 < x := by rcases hbad with h | h | h; rw [hmm] at h; cases h; exact absurd h hx0; exact h
     have hr : rO es m x = (zM, 0, 4) := by simp [rO, hmm, hx0, hx4]
     replace hr := Hid.mk' hr
     replace hmm := Hid.mk' hmm
     clear hbad
     go_enter Tryz.func61, Tryz.ntmps61
     go_wp2_with (first
       | (refine ld45 (by rfl) (.tmp 3) (by rfl) w.heap.size (by rfl) C hs0 A0 ?_)
       | (go_at_call 33; go_must (refine (hmay _).mono ?_; rintro e w1 ⟨rfl, hb1⟩; rw [hmm.out]; have B1 := hb0.trans (hb1.mono (by simp; omega)); have A01 := A0.below hb1 (by simp; omega); have A11 := A1.below hb1 (by simp)))
       | (refine st45 (by rfl) (.tmp 6) (.tmp 21) (by rfl) (w.heap.size + 1) (mcA zM none 0 0) (by rfl) (by rfl) hsz hoz _ hsz A11 ?_))
     exact bodyPost_ret (v := .tuple #[.agg (mcA zM none 0 0), .int .i64 0, .int .i64 4]) (res45 Tryz.results61 rfl rfl rfl hsz (A11.setRow _)) rfl (rnNo hr.out (below_setRow B1 (by omega) _))
theorem refRun_ok {N : Nat} {es : List En} (m : Mc) (sp : Option Addr) (n cap : Nat) (sq : Option Addr) (nk ck : Nat) (x : Int) (w : World) (hok : m.ok) (hM : MS N w sp n cap m.me) (hS : ES N w sq nk ck es) (hx : -9223372036854775808 ≤ x ∧ x ≤ 9223372036854775807) (hmay1 : mayM m = true) {F : Nat} (hxF : x = (F : Int)) (hF : F ≤ 4194304) :
   Calls Tryz.prog 61 #[.agg (mcA m sp n cap), .slice sq nk ck, .int .i64 x] w (RnPost es m x w) := by
 subst hxF
 have A0 := (Arr.new w 27 (mcA m sp n cap)).alloc (.cells (mcA zM none 0 0) 27)
 have A1 := Arr.new (w.alloc (.cells (mcA m sp n cap) 27)) 27 (mcA zM none 0 0)
 simp only [World.size_alloc] at A1
 have hs0 := mcA_size hok.r16 sp n cap
 have hsz := mcA_size zM_ok.r16 none 0 0
 have hoz := mcA_one zM none 0 0
 have hb0 := (alloc_bel' w (.cells (mcA m sp n cap) 27)).alloc (by simp) (.cells (mcA zM none 0 0) 27)
 have hmay : ∀ U, Calls Tryz.prog 33 #[.agg (mcA m sp n cap)] U fun e w' => e = .returned (.bool (mayM m)) ∧ Below U.heap.size U w' := fun U => refMay_any m sp n cap U hok hM.len hM.small
 have hsb : szB m.me.length = true := by unfold mayM at hmay1; exact (Bool.and_eq_true_iff.1 hmay1).1
 have hn := szB_le hsb
 rw [← hM.len.out] at hn
 have hn4 : n ≤ 4096 := hn.2
 have hn0 : 0 < n := by omega
 have hl := hM.len
 have hr : rO es m F = ((rn es F m).1, ((rn es F m).2 : Int), 0) := by
   unfold rO
   rw [if_neg (by rw [hmay1]; simp), if_neg (by omega), Int.toNat_natCast]
 replace hr := Hid.mk' hr
 have hmm := Hid.mk' hmay1
 clear hmay1 hsb
 have hf0 : ¬ (F : Int) < 0 := by omega
 have hf1 : ¬ (4194304 : Int) < F := by omega
 have hcopy := fun (U : World) (hU : MS w.heap.size U sp n cap m.me) => copy_any m sp n cap w.heap.size U hok hU hn0
 have hMs := hM.here
 have hSS := hS.here
 have hs9 := fun (cp gm : Nat) => mcA_size hok.r16 (some ⟨gm, 0, none⟩) n cp
 have ho9 := fun (cp gm : Nat) => mcA_one m (some ⟨gm, 0, none⟩) n cp
 generalize hC : mcA m sp n cap = C at A0 A1 hb0 hmay hs0 hcopy ⊢
 clear hC
 go_enter Tryz.func61, Tryz.ntmps61
 go_upto_region 6 with (first
     | (refine ld45 (by rfl) (.tmp 3) (by rfl) w.heap.size (by rfl) C hs0 A0 ?_)
     | (go_at_call 33; go_must (refine (hmay _).mono ?_; rintro e w1 ⟨rfl, hb1⟩; rw [hmm.out]; have B1 := hb0.trans (hb1.mono (by simp; omega)); have A01 := A0.below hb1 (by simp; omega); have A11 := A1.below hb1 (by simp)))
     | (refine ld45 (by rfl) (.tmp 3) (by rfl) w.heap.size (by rfl) C hs0 A01 ?_)
     | (go_at_call 125; go_must (refine (hcopy w1 (hMs.below B1)).mono ?_; rintro e w2 ⟨gm, cap', rfl, hgm, hc1, hc2, hMW, hb2⟩; have B2 := B1.trans (hb2.mono B1.size); have A12 := A11.below hb2 A11.lt; have hs9 := hs9 cap' gm; have ho9 := ho9 cap' gm))
     | (refine st45n (by rfl) (.tmp 9) (.tmp 23) (by rfl) w2 w2.heap.size rfl (by rfl) (mcA m (some ⟨gm, 0, none⟩) n cap') (by rfl) (by rfl) hs9 ho9 ?_))
 have hsz1 := hb1.size
 simp only [World.size_alloc] at hsz1
 have hsz2 := hb2.size
 have A9 := Arr.new w2 27 (mcA m (some ⟨gm, 0, none⟩) n cap')
 have A13 := A12.alloc (.cells (mcA m (some ⟨gm, 0, none⟩) n cap') 27)
 have hMl := hMW.lt
 have MW9 : MW (w2.alloc (.cells (mcA m (some ⟨gm, 0, none⟩) n cap') 27)) gm m.me := hMW.below (alloc_bel' _ _) hMl
 have B9 : Below w.heap.size w (w2.alloc (.cells (mcA m (some ⟨gm, 0, none⟩) n cap') 27)) := B2.alloc B2.size _
 obtain ⟨g9, hg9⟩ : ∃ g9, g9 = w2.heap.size := ⟨_, rfl⟩
 have h9m : g9 ≠ gm := by omega
 have h9w : w.heap.size + 1 < g9 := by omega
 have hgmw : w.heap.size + 1 < gm := by omega
 rw [← hg9] at A9 ⊢
 generalize w2.alloc (.cells (mcA m (some ⟨gm, 0, none⟩) n cap') 27) = W9 at A9 A13 MW9 B9 ⊢
 have hV9 : DM w.heap.size es W9 g9 gm n cap' sq nk ck m := ⟨⟨by simpa [mcA] using A9, MW9, h9m, hl, hn4, ⟨hc1, hc2⟩, hok⟩, hSS.below B9, by omega, by omega⟩
 clear A0 A1 hb0 hmay B1 A01 A11 hb1 hb2 hMW B2 A12 hs0 hcopy hg9 A9 MW9 hsz1 hsz2 hMl hs9 ho9 hMs
 have L13 := A13.lt
 go_wp2_with fail
 go_loopw [10] (fun v wr => ∃ (k : Nat) (mk : Mc), v = .int .i64 (k : Int) ∧ k ≤ F ∧ DM w.heap.size es wr g9 gm n cap' sq nk ck mk ∧ Chg (C2 g9 gm) W9 wr ∧ Arr wr (w.heap.size + 1) 27 (mcA zM none 0 0) ∧ Hid (rn es F m = ((rn es (F - k) mk).1, (rn es (F - k) mk).2 + k)))
   (fun v _ => F - (intOf v).toNat)
 case atStart => exact ⟨0, m, rfl, by omega, hV9, Chg.refl _ _, A13, Hid.mk' (by simp)⟩
 case round =>
   clear hV9
   obtain ⟨k, mk, rfl, hk, hVr, hcg, hA, hrn⟩ := hrel
   have c17 := hVr.en.c17
   by_cases hlt : k < F
   · have hI : (k : Int) < F := by omega
     by_cases hst : mk.st = 0
     · have hst' : (mk.st == 0) = true := by simpa using hst
       have hnx := Hid.mk' (rn_next hlt hst hrn.out)
       have hstH := Hid.mk' hst
       clear hst
       go_wp2_with (go_at_call 126; go_must (refine (refTurn_any wr hVr hstH.out).mono ?_; rintro e w1 ⟨rfl, hc1, hs1, hV1⟩))
       have A1 : Arr w1 (w.heap.size + 1) 27 (mcA zM none 0 0) := (hc1.block _ hA.lt (by rintro (e | e) <;> omega)).trans hA
       go_roundw
       case rel => exact ⟨k + 1, tick es mk, by go_num, by omega, hV1, hcg.trans hc1, A1, hnx⟩
       case measure => simp [intOf]; omega
     · have hst' : (mk.st == 0) = false := by simpa using hst
       have hfin : rn es F m = (mk, k) := by rw [hrn.out, rn_stop hst]; simp
       clear hst
       have hEr := hVr.en
       have A9 : Arr wr g9 27 (mcA mk (some ⟨gm, 0, none⟩) n cap') := by have := hEr.eng; simpa [mcA] using this
       have hs9 := mcA_size hEr.ok.r16 (some ⟨gm, 0, none⟩) n cap'
       have ho9 := mcA_one mk (some ⟨gm, 0, none⟩) n cap'
       have hrr := hr.out
       rw [hfin] at hrr
       replace hrr := Hid.mk' hrr
       clear hfin
       have hBr : Below w.heap.size w wr := ⟨hcg.os.trans B9.os, hcg.tape.trans B9.tape, hcg.output.trans B9.output, Nat.le_trans B9.size hcg.size, fun i hi => (hcg.block i (Nat.lt_of_lt_of_le hi B9.size) (by rintro (e | e) <;> omega)).trans (B9.block i hi)⟩
       go_wp2_with (first
         | (refine ld45 (by rfl) (.tmp 9) (by rfl) g9 (by rfl) _ hs9 A9 ?_)
         | (refine st45 (by rfl) (.tmp 6) (.tmp 36) (by rfl) (w.heap.size + 1) _ (by rfl) (by rfl) hs9 ho9 _ hsz hA ?_))
       have MWf : MW (wr.setRow (w.heap.size + 1) (mcA mk (some ⟨gm, 0, none⟩) n cap')) gm mk.me := hEr.mem.block (setRow_other _ _ _ _ (by omega))
       refine bodyPost_ret (v := .tuple #[.agg (mcA mk (some ⟨gm, 0, none⟩) n cap'), .int .i64 (k : Int), .int .i64 0]) (res45 Tryz.results61 rfl rfl rfl hs9 (hA.setRow _)) rfl ⟨some ⟨gm, 0, none⟩, n, cap', by rw [hrr.out], by rw [hrr.out]; exact hEr.ok, by rw [hrr.out]; exact MWf.ms hEr.len.out (by omega) ⟨hc1, hc2⟩, below_setRow hBr (by omega) _, fun _ => ⟨gm, rfl, by omega, by rw [hrr.out]; exact MWf⟩⟩
   · obtain rfl : k = F := by omega
     have hI : ¬ (k : Int) < k := by omega
     have hfin : rn es k m = (mk, k) := by rw [hrn.out]; simp [rn]
     have hEr := hVr.en
     have A9 : Arr wr g9 27 (mcA mk (some ⟨gm, 0, none⟩) n cap') := by have := hEr.eng; simpa [mcA] using this
     have hs9 := mcA_size hEr.ok.r16 (some ⟨gm, 0, none⟩) n cap'
     have ho9 := mcA_one mk (some ⟨gm, 0, none⟩) n cap'
     have hrr := hr.out
     rw [hfin] at hrr
     replace hrr := Hid.mk' hrr
     clear hfin
     have hBr : Below w.heap.size w wr := ⟨hcg.os.trans B9.os, hcg.tape.trans B9.tape, hcg.output.trans B9.output, Nat.le_trans B9.size hcg.size, fun i hi => (hcg.block i (Nat.lt_of_lt_of_le hi B9.size) (by rintro (e | e) <;> omega)).trans (B9.block i hi)⟩
     go_wp2_with (first
       | (refine ld45 (by rfl) (.tmp 9) (by rfl) g9 (by rfl) _ hs9 A9 ?_)
       | (refine st45 (by rfl) (.tmp 6) (.tmp 36) (by rfl) (w.heap.size + 1) _ (by rfl) (by rfl) hs9 ho9 _ hsz hA ?_))
     have MWf : MW (wr.setRow (w.heap.size + 1) (mcA mk (some ⟨gm, 0, none⟩) n cap')) gm mk.me := hEr.mem.block (setRow_other _ _ _ _ (by omega))
     refine bodyPost_ret (v := .tuple #[.agg (mcA mk (some ⟨gm, 0, none⟩) n cap'), .int .i64 (k : Int), .int .i64 0]) (res45 Tryz.results61 rfl rfl rfl hs9 (hA.setRow _)) rfl ⟨some ⟨gm, 0, none⟩, n, cap', by rw [hrr.out], by rw [hrr.out]; exact hEr.ok, by rw [hrr.out]; exact MWf.ms hEr.len.out (by omega) ⟨hc1, hc2⟩, below_setRow hBr (by omega) _, fun _ => ⟨gm, rfl, by omega, by rw [hrr.out]; exact MWf⟩⟩
theorem refRun_any {N : Nat} {es : List En} (m : Mc) (sp : Option Addr) (n cap : Nat) (sq : Option Addr) (nk ck : Nat) (x : Int) (w : World) (hok : m.ok) (hM : MS N w sp n cap m.me) (hS : ES N w sq nk ck es) (hx : -9223372036854775808 ≤ x ∧ x ≤ 9223372036854775807) :
   Calls Tryz.prog 61 #[.agg (mcA m sp n cap), .slice sq nk ck, .int .i64 x] w (RnPost es m x w) := by
 cases hm : mayM m with
 | false => exact refRun_no m sp n cap sq nk ck x w hok hM hS hx (.inl hm)
 | true =>
   by_cases h0 : x < 0
   · exact refRun_no m sp n cap sq nk ck x w hok hM hS hx (.inr (.inl h0))
   · by_cases h4 : 4194304 < x
     · exact refRun_no m sp n cap sq nk ck x w hok hM hS hx (.inr (.inr h4))
     · exact refRun_ok m sp n cap sq nk ck x w hok hM hS hx hm (F := x.toNat) (by omega) (by omega)
theorem refStep_any {N : Nat} {es : List En} (m : Mc) (sp : Option Addr) (n cap : Nat) (sq : Option Addr) (nk ck : Nat) (w : World) (hok : m.ok) (hM : MS N w sp n cap m.me) (hS : ES N w sq nk ck es) :
   Calls Tryz.prog 21 #[.agg (mcA m sp n cap), .slice sq nk ck] w (SpPost es m w) := by
 have A0 := (Arr.new w 27 (mcA m sp n cap)).alloc (.cells (mcA zM none 0 0) 27)
 have A1 := Arr.new (w.alloc (.cells (mcA m sp n cap) 27)) 27 (mcA zM none 0 0)
 simp only [World.size_alloc] at A1
 have hs0 := mcA_size hok.r16 sp n cap
 have hsz := mcA_size zM_ok.r16 none 0 0
 have hb0 := (alloc_bel' w (.cells (mcA m sp n cap) 27)).alloc (by simp) (.cells (mcA zM none 0 0) 27)
 have hrun : Calls Tryz.prog 61 #[.agg (mcA m sp n cap), .slice sq nk ck, .int .i64 1] ((w.alloc (.cells (mcA m sp n cap) 27)).alloc (.cells (mcA zM none 0 0) 27)) (RnPost es m 1 _) := refRun_any m sp n cap sq nk ck 1 _ hok (hM.here.below hb0) (hS.here.below hb0) (by omega)
 unfold SpPost
 obtain ⟨R0, hR0⟩ : ∃ R, R = rO es m 1 := ⟨_, rfl⟩
 unfold RnPost at hrun
 rw [← hR0] at hrun ⊢
 clear hR0
 generalize mcA m sp n cap = C at *
 go_enter Tryz.func21, Tryz.ntmps21
 go_wp2_with (first
   | (refine ld45 (by rfl) (.tmp 2) (by rfl) w.heap.size (by rfl) C hs0 A0 ?_)
   | (go_at_call 61; go_must (refine hrun.mono ?_; rintro e w1 ⟨sp1, n1, cap1, rfl, hok1, hM1, hb1, hg1⟩; have hs1 := mcA_size hok1.r16 sp1 n1 cap1; have ho1 := mcA_one R0.1 sp1 n1 cap1; have A11 := A1.below hb1 (by simp); have B1 := hb0.trans (hb1.mono (by simp; omega)); have E1 := Arr.new w1 27 (mcA R0.1 sp1 n1 cap1)))
   | (refine st45n (by rfl) (.tmp 6) (.tmp 13) (by rfl) w1 w1.heap.size rfl (by rfl) (mcA R0.1 sp1 n1 cap1) (by rfl) (by rfl) hs1 ho1 ?_)
   | (refine ld45 (by rfl) (.tmp 6) (by rfl) w1.heap.size (by rfl) (mcA R0.1 sp1 n1 cap1) hs1 E1 ?_)
   | (refine st45 (by rfl) (.tmp 4) (.tmp 16) (by rfl) (w.heap.size + 1) (mcA R0.1 sp1 n1 cap1) (by rfl) (by rfl) hs1 ho1 _ hsz (A11.alloc _) ?_))
 have hbf : Below w1.heap.size w1 (w1.alloc (.cells (mcA R0.1 sp1 n1 cap1) 27)) := alloc_bel' _ _
 have hBf := below_setRow (B1.alloc B1.size (.cells (mcA R0.1 sp1 n1 cap1) 27)) (show w.heap.size ≤ w.heap.size + 1 by omega) (mcA R0.1 sp1 n1 cap1)
 refine bodyPost_ret (v := .tuple #[.agg (mcA R0.1 sp1 n1 cap1), .int .i64 R0.2.2]) (res45b Tryz.results21 rfl rfl hs1 ((A11.alloc _).setRow _)) rfl ⟨sp1, n1, cap1, rfl, hok1, ?_, hBf, fun h0 => ?_⟩
 · refine ⟨hM1.len, hM1.nil, hM1.le, hM1.big, hM1.small, fun h0 => ?_⟩
   obtain ⟨gm, rfl, hgm, hMW⟩ := hg1 h0
   simp only [World.size_alloc] at hgm
   have hMf := (hMW.below hbf hMW.lt).block (setRow_other _ (w.heap.size + 1) gm (mcA R0.1 (some ⟨gm, 0, none⟩) n1 cap1) (by omega))
   exact ⟨gm, 0, rfl, hMf.lt, fun t ht => by rw [Nat.zero_add]; exact hMf.cell (by rw [← hM1.len.out]; exact ht)⟩
 · obtain ⟨gm, rfl, hgm, hMW⟩ := hg1 h0
   simp only [World.size_alloc] at hgm
   exact ⟨gm, rfl, by omega, (hMW.below hbf hMW.lt).block (setRow_other _ _ _ _ (by omega))⟩
end Go.Proofs.YtagebcbnenehfaaGreat
