/- Kx1, Ky, Oe, Of. -/
import Derived.Test.YtagebcbnenehfaaGreatX43
namespace Go.Proofs.YtagebcbnenehfaaGreat
open Go.RowKit
set_option maxRecDepth 100000
set_option linter.unusedVariables false
set_option linter.unusedSimpArgs false
set_option maxHeartbeats 40000000
theorem c1_ok {N : Nat} {p : Pf} {d b : Nat} {sp : Option Addr} {n cap : Nat} {sb : Option Addr} {nb cb : Nat} {l : List Am} (w : World) (hp : p.ok) (hd : d ≤ 12) (hde : p.de = d) (hA : AS N w sp n cap l) (hB : BS N w sb nb cb p.pr) (hN : N ≤ w.heap.size) (hbx : Arr w b 34 (pfL p (.slice sp n cap) (.slice sb nb cb)).toArray) {m' : Mc} {t : TkM} (hs : stG (hM d p.pr) (2 ^ d) (cfg p) ⟨l, p.rt, false⟩ = some (m', t)) (hf : t.l = [] ∧ (p.pr = [] ∨ t.q = true)) :
   Calls Tryz.prog 45 #[.pointer (some ⟨b, 0, none⟩)] w fun e w' => e = .returned (.agg (h8 (cmR m'.pc m'.rg m'.st p.de t.rt))) ∧ Below w.heap.size w w' := by
 have hbl := hbx.lt
 have hb0 := alloc_bel' w (.cells (h8 Z32) 30)
 have hent := entriesOf_any (w.alloc (.cells (h8 Z32) 30)) hp.r16 hp.rt hd hde (hA.below (hb0.mono hN)) (hB.below (hb0.mono hN)) (by simp; omega)
 have X0 := hbx.bel hb0
 have hs34 : (Tryz.prog.info? 34).map (·.size) = some (pfL p (.slice sp n cap) (.slice sb nb cb)).toArray.size := by rw [List.size_toArray, pfL_len hp.r16 hp.rt]; exact size34
 have h18 := pfL_at hp.r16 (.slice sp n cap) (.slice sb nb cb) 1
 change _ = some (Value.int .i64 p.de) at h18
 have A1 := Arr.new w 30 (h8 Z32)
 have hstp := fun (u : World) (gE gC : Nat) (h1 : w.heap.size + 1 ≤ gE) (h2 : w.heap.size + 1 ≤ gC) (hE : EI N u gE gC d sb nb cb p.pr l p.rt false) => step_anyK true (v1 := .slice sp n cap) (v2 := .slice sb nb cb) (F := fun _ => False) (s := ⟨l, p.rt, false⟩) u (metE (N := N) (d := d) (sb := sb) (nb := nb) (cb := cb) (pre := p.pr) h1 h2 (by omega)) ⟨hE, fun b h => h.elim⟩ hp hd hde (Hid.mk' (by show 0 + 200 ≤ 1000; omega))
 rw [h8_Z] at hent X0 A1 hb0
 generalize hPF : (pfL p (.slice sp n cap) (.slice sb nb cb)).toArray = PF at *
 go_enter Tryz.func45, Tryz.ntmps45
 go_upto_region 2 with (first
   | (refine atL 34 (.tmp 0) ?_; go_must (refine ldR (by rfl) 34 (.tmp 0) (by rfl) b (by rfl) PF X0 Tryz.underlying34 rfl hs34 ?_))
   | (go_at_call 46; go_must (refine hent.mono ?_; rintro e w2 ⟨gE, gC, rfl, hgE, hgC, hE2, hb2⟩; replace hstp := hstp w2 gE gC (by simpa using hgE) (by simpa using hgC) hE2; have X2 := X0.bel hb2; have A2 := A1.bel hb2)))
 have B2 : Below w.heap.size w w2 := hb0.trans (hb2.mono (by simp))
 have hs2 : w.heap.size + 1 ≤ w2.heap.size := by have := hb2.size; simpa using this
 rw [hs] at hstp
 replace hstp : Calls Tryz.prog 32 #[.agg PF, .iface 103 (.pointer (some ⟨gE, 0, none⟩))] w2 fun e w' => ∃ sp' n' cap', e = .returned (.agg (mcA m' sp' n' cap')) ∧ m'.rg.length = 16 ∧ (0 ≤ m'.st ∧ m'.st < 256) ∧ Below (w.heap.size + 1) w2 w' ∧ EI N w' gE gC d sb nb cb p.pr t.l t.rt t.q := hstp.mono fun e w' ⟨h1, _, h3⟩ => by
   rcases h3 with ⟨m1, s', sp', n', cap', h4, h5, h6, h7, h8⟩ | ⟨h5, _⟩
   · cases h4
     exact ⟨sp', n', cap', h5, h6, h7, h1, h8.1⟩
   · cases h5
 go_upto_region 3 with (first
   | (refine atL 34 (.tmp 0) ?_; go_must (refine ldR (by rfl) 34 (.tmp 0) (by rfl) b (by rfl) PF X2 Tryz.underlying34 rfl hs34 ?_))
   | (go_at_call 32; go_must (refine hstp.mono ?_; rintro e w3 ⟨sp3, n3, cp3, rfl, hr16, hst3, hb3, hE3⟩; have hsz3 := mcA_size hr16 sp3 n3 cp3; have hon3 := mcA_one m' sp3 n3 cp3; have a3 := Arr.new w3 27 (mcA m' sp3 n3 cp3)))
   | (refine atS 27 (.tmp 3) (.tmp 11) ?_; go_must (refine st45n (by rfl) (.tmp 3) (.tmp 11) (by rfl) w3 w3.heap.size rfl (by rfl) (mcA m' sp3 n3 cp3) (by rfl) (by rfl) hsz3 hon3 ?_)))
 have B3 : Below w.heap.size w w3 := B2.trans (hb3.mono (by omega))
 have hE4 := hE3.below (alloc_bel' w3 (.cells (mcA m' sp3 n3 cp3) 27))
 have hs3 := hb3.size
 have hend : Calls Tryz.prog 47 #[.pointer (some ⟨gE, 0, none⟩)] (w3.alloc (.cells (mcA m' sp3 n3 cp3) 27)) fun e w' => e = .returned (.tuple #[]) ∧ Chg (C2E gE gC) (w3.alloc (.cells (mcA m' sp3 n3 cp3) 27)) w' ∧ w'.rangeAt gE 1 (by8 t.rt) ∧ t.rt.length = 32 := by
   obtain ⟨tl, tr, tq⟩ := t
   obtain ⟨h1, h2⟩ := hf
   replace h1 : tl = [] := h1
   subst h1
   by_cases h3 : p.pr = []
   · refine (end_p0 _ hE4 h3).mono ?_
     rintro e w' ⟨rfl, k1, k2⟩
     exact ⟨rfl, k1, eiL_rt k2.blk, k2.r32⟩
   · refine (end_q _ hE4 h3 (h2.resolve_left h3)).mono ?_
     rintro e w' ⟨rfl, k1, k2⟩
     exact ⟨rfl, k1, eiL_rt k2.blk, k2.r32⟩
 replace hde := Hid.mk' hde
 have gEs : w.heap.size + 1 ≤ gE := by simpa using hgE
 have gCs : w.heap.size + 1 ≤ gC := by simpa using hgC
 have hEl : gE < w3.heap.size := hE3.blk.lt
 have hCl : gC < w3.heap.size := by obtain ⟨_, _, _, h, _⟩ := hE3.lst; exact h.lt
 clear hE4 hE3
 go_upto_region 4 with (go_at_call 47; go_must (refine hend.mono ?_; rintro e w4 ⟨rfl, hc4, hrt4, hr32⟩))
 have B4 : Below (w.heap.size + 1) w2 w4 := (hb3.alloc (by omega) _).trans (hc4.bel (by omega) (by omega) (by simp; omega))
 have a4 : Arr w4 w3.heap.size 27 (mcA m' sp3 n3 cp3) := (hc4.block _ (by simp) (by rintro (e | e) <;> omega)).trans a3
 have X4 : Arr w4 b 34 PF := X2.below B4 (by omega)
 have Z4 : Arr w4 w.heap.size 30 (h8 Z32) := A2.below B4 (by omega)
 have BB4 : Below w.heap.size w w4 := B2.trans (B4.mono (by omega))
 have hs4 : w3.heap.size + 1 ≤ w4.heap.size := by have := hc4.size; simpa using this
 have m17 := mcA_17 hr16 sp3 n3 cp3
 have hprt := fun (u : World) => parts_any m'.pc m'.rg m'.st p.de t.rt u hr16 hr32 hst3
 have hX32 := cmR_len m'.pc m'.rg m'.st p.de t.rt
 generalize hXX : cmR m'.pc m'.rg m'.st p.de t.rt = XX at *
 generalize cmE m'.st p.de = er at *
 generalize w3.heap.size = g3 at *
 have hmm := fun (u : World) (h : Arr u g3 27 (mcA m' sp3 n3 cp3)) => mcA_rg h
 clear hc4 hend hstp hb3 B3
 have hbl4 : b < w4.heap.size := by omega
 have hgl4 : g3 < w4.heap.size := by omega
 have hel4 : gE < w4.heap.size := by omega
 refine rgn (fun u => Below w4.heap.size w4 u) ((Below.refl _ w4).drew) (fun hHeld => ?_)
 refine tk 0 rfl ?_
 refine tk 1 rfl (hy := by (intro u hSw; have s1 := (hSw.cell (p := ⟨g3, 0, none⟩) (by show g3 < _; omega)).trans (a4.cell 0); go_simp; try (with_reducible rfl))) ?_
 refine tk 2 rfl ?_
 refine tl 3 rfl (y23 (by rfl) (.tmp 17) rfl g3 1 rfl m'.rg hr16 (fun u hu => hmm u (a4.bel hu))) ?_
 refine tk 4 rfl ?_
 refine tk 5 rfl (hy := by (intro u hSw; have s1 := (hSw.cell (p := ⟨g3, 17, none⟩) (by show g3 < _; omega)).trans ((a4.cell 17).trans m17); go_simp; try (with_reducible rfl))) ?_
 refine tk 6 rfl ?_
 refine tk 7 rfl (hy := by (intro u hSw; have s1 := (hSw.cell (p := ⟨b, 18, none⟩) (by show b < _; omega)).trans ((X4.cell 18).trans h18); go_simp; try (with_reducible rfl))) ?_
 refine tk 8 rfl ?_
 refine tk 9 rfl ?_
 refine tk 10 rfl ?_
 refine tl 11 rfl (y24 (by rfl) (.tmp 25) rfl (gE) (1) rfl t.rt hr32 (fun u hu => range_below hrt4 hu (by omega))) ?_
 refine rd2 12 16 rfl rfl (fun K hK => ?_) (fun K hK => ?_)
 · go_simp
   refine (hprt _).mono ?_
   rintro e w5 ⟨rfl, hb5⟩
   have hB5 : Below w4.heap.size w4 w5 := (Below.refl _ w4).drew.trans hb5
   go_wp2_with fail
   refine ko hK hB5 (fun hHeld => ?_)
   clear hK K
   refine tk 13 rfl ?_
   refine tk 14 rfl ?_
   refine tk 15 rfl ?_
   refine rd 16 rfl (fun K hK => ?_)
   go_simp
   refine ko hK (hB5.alloc hB5.size _) (fun hHeld => ?_)
   clear hK K
   refine rd 17 rfl (fun K hK => ?_)
   refine step_want rfl (wp_store_row 30 (.tmp 4) (.tmp 28) rfl w5.heap.size (h8 XX) rfl rfl 30 _ (Arr.new w5 30 _) (s24h8 hX32) (by rw [h8_size, hX32]; rfl) (h8_one XX) ?_)
   refine ko hK (below_setRow (hB5.alloc hB5.size _) hB5.size _) (fun hHeld => ?_)
   clear hK K
   refine tk 18 rfl ?_
   refine dn ?_
   try rw [← h8_Z]
   have hN6 : Arr ((w5.alloc (.cells (h8 Z32) 30)).setRow w5.heap.size (h8 XX)) w5.heap.size 30 (h8 XX) := (Arr.new w5 30 _).setRow _
   have hb6 : Below w4.heap.size w4 ((w5.alloc (.cells (h8 Z32) 30)).setRow w5.heap.size (h8 XX)) := below_setRow (hB5.alloc hB5.size _) hB5.size _
   have Z6 := Z4.bel hb6
   generalize ((w5.alloc (.cells (h8 Z32) 30)).setRow w5.heap.size (h8 XX)) = U at *
   generalize w5.heap.size = gh at *
   go_wp2_with (first
     | (refine atL 30 (.tmp 4) ?_; go_must (refine ld24 (by rfl) (.tmp 4) (by rfl) gh 0 (by rfl) XX hX32 hN6.range ?_))
     | (refine atS 30 (.tmp 1) (.tmp 30) ?_; go_must (refine st24 (by rfl) (.tmp 1) (.tmp 30) (by rfl) w.heap.size XX Z32 (by rfl) (by rfl) hX32 Z32_len Z6 ?_)))
   exact bodyPost_ret (v := .agg (h8 XX)) (res24 Tryz.results45 rfl hX32 (Z6.setRow _)) rfl ⟨by rw [hXX], below_setRow (BB4.trans (hb6.mono (by omega))) (Nat.le_refl _) _⟩
 · go_simp
   refine ko hK ((Below.refl _ w4).drew.alloc (Nat.le_refl _) _) (fun hHeld => ?_)
   clear hK K
   refine rd 12 rfl (fun K hK => ?_)
   go_simp
   refine (hprt _).mono ?_
   rintro e w5 ⟨rfl, hb5⟩
   have n5 := (Arr.new w4.drew 30 (h8 Z32)).bel hb5
   have hB5 : Below w4.heap.size w4 w5 := ((Below.refl _ w4).drew.alloc (Nat.le_refl _) _).trans (hb5.mono (by simp))
   go_wp2_with fail
   refine ko hK hB5 (fun hHeld => ?_)
   clear hK K
   refine tk 13 rfl ?_
   refine tk 14 rfl ?_
   refine tk 15 rfl ?_
   refine rd 17 rfl (fun K hK => ?_)
   refine step_want rfl (wp_store_row 30 (.tmp 4) (.tmp 28) rfl w4.heap.size (h8 XX) rfl rfl 30 _ n5 (s24h8 hX32) (by rw [h8_size, h8_size, hX32]; exact Z32_len) (h8_one XX) ?_)
   refine ko hK (below_setRow hB5 (Nat.le_refl _) _) (fun hHeld => ?_)
   clear hK K
   refine tk 18 rfl ?_
   refine dn ?_
   have hN6 : Arr (w5.setRow w4.heap.size (h8 XX)) w4.heap.size 30 (h8 XX) := n5.setRow _
   have hb6 : Below w4.heap.size w4 (w5.setRow w4.heap.size (h8 XX)) := below_setRow hB5 (Nat.le_refl _) _
   have Z6 := Z4.bel hb6
   generalize (w5.setRow w4.heap.size (h8 XX)) = U at *
   generalize w4.heap.size = gh at *
   go_wp2_with (first
     | (refine atL 30 (.tmp 4) ?_; go_must (refine ld24 (by rfl) (.tmp 4) (by rfl) gh 0 (by rfl) XX hX32 hN6.range ?_))
     | (refine atS 30 (.tmp 1) (.tmp 30) ?_; go_must (refine st24 (by rfl) (.tmp 1) (.tmp 30) (by rfl) w.heap.size XX Z32 (by rfl) (by rfl) hX32 Z32_len Z6 ?_)))
   exact bodyPost_ret (v := .agg (h8 XX)) (res24 Tryz.results45 rfl hX32 (Z6.setRow _)) rfl ⟨by rw [hXX], below_setRow (BB4.trans (hb6.mono (by omega))) (Nat.le_refl _) _⟩
theorem resG {f : Func} {w : World} {tmps : Array Value} {g k : Nat} {X : List Int} {x : Int} (hf : f.results = #[.cell 2 30, .cell 3 35]) (hp : tmps.getD 2 undef = .pointer (some ⟨g, 0, none⟩)) (hk : tmps.getD 3 undef = .pointer (some ⟨k, 0, none⟩)) (hX : X.length = 32) (hA : Arr w g 30 (h8 X)) (hE : w.cell? ⟨k, 0, none⟩ = some (.int .i64 x)) :
   (results f tmps).run Tryz.prog w = .ok (.tuple #[.agg (h8 X), .int .i64 x]) w := by
 have hl := run_loadVar_mid (P := Tryz.prog) w g 0 30 (by8 X) _ hA.range Tryz.underlying30 rfl (by rw [by8_len, hX]; exact size24)
 have hp' : tmps[2]?.getD undef = .pointer (some ⟨g, 0, none⟩) := by simpa using hp
 have hk' : tmps[3]?.getD undef = .pointer (some ⟨k, 0, none⟩) := by simpa using hk
 have hl2 : (loadVar 35 ⟨k, 0, none⟩).run Tryz.prog w = .ok (.int .i64 x) w := by simp [go_sem, hE]
 simp [results, hf, hp', hk', asAddr, hl, hl2, h8]
theorem guard_ok {b : Nat} {X : List Int} (w : World) (hX : X.length = 32)
   (hwk : Calls Tryz.prog 45 #[.pointer (some ⟨b, 0, none⟩)] ((w.alloc (.cells (h8 Z32) 30)).alloc (.cells #[.int .i64 0] 35)) fun e w' => e = .returned (.agg (h8 X)) ∧ Below (w.heap.size + 2) ((w.alloc (.cells (h8 Z32) 30)).alloc (.cells #[.int .i64 0] 35)) w') :
   Calls Tryz.prog 44 #[.func (Fn.func 45) #[] #[.pointer (some ⟨b, 0, none⟩)]] w fun e w' => e = .returned (.tuple #[.agg (h8 X), .int .i64 0]) ∧ Below w.heap.size w w' := by
 have hmf : ∀ (fn : Fn) (first cap : Array Value) (w : World), (Instr.makeFunc fn first cap).run Tryz.prog w = .ok (.func fn first cap) w := fun _ _ _ _ => rfl
 have Z := (Arr.new w 30 (h8 Z32)).alloc (.cells #[.int .i64 0] 35)
 have E := Arr.new (w.alloc (.cells (h8 Z32) 30)) 35 #[.int .i64 0]
 have b0 : Below w.heap.size w ((w.alloc (.cells (h8 Z32) 30)).alloc (.cells #[.int .i64 0] 35)) := (alloc_bel' w _).alloc (by simp) _
 rw [h8_Z] at hwk Z E b0
 simp only [World.size_alloc] at E
 go_enter_defers Tryz.func44, Tryz.ntmps44
 go_wp2_with (first
   | (go_at_call 45; go_must (refine hwk.mono ?_; rintro e w2 ⟨rfl, hb2⟩; have Z2 := Z.below hb2 (by omega); have E2 := E.below hb2 (by omega); have B2 := b0.trans (hb2.mono (by omega)); have c2 := (E2.setRowOther (k := w.heap.size) (h8 X) (by omega)).cell 0; have f2 := (E2.setRowOther (k := w.heap.size) (h8 X) (by omega)).frozen 0))
   | (refine atS 30 (.tmp 2) (.tmp 6) ?_; go_must (refine st24 (by rfl) (.tmp 2) (.tmp 6) (by rfl) w.heap.size X Z32 (by rfl) (by rfl) hX Z32_len Z2 ?_)))
 refine leaves_cons (f := 91) (args := #[.pointer (some ⟨w.heap.size + 1, 0, none⟩)]) (by simp) (by simp [go_sem]) ?_
 refine (catch_idle91 ⟨w.heap.size + 1, 0, none⟩ _).mono ?_
 rintro e u' w'' ⟨rfl, rfl, rfl⟩
 have c3 := ((E2.setRowOther (k := w.heap.size) (h8 X) (by omega)).set 0 (.int .i64 0)).cell 0
 have Z3 := (Z2.setRow (h8 X)).setOther (a := ⟨w.heap.size + 1, 0, none⟩) (.int .i64 0) (show w.heap.size ≠ w.heap.size + 1 by omega)
 exact ⟨.tuple #[.agg (h8 X), .int .i64 0], resG Tryz.results44 rfl rfl hX Z3 c3, rfl, (below_setRow B2 (Nat.le_refl _) _).setCell (by show w.heap.size ≤ w.heap.size + 1; omega) _⟩
theorem guard_no {b : Nat} {x : Int} (w : World)
   (hwk : Calls Tryz.prog 45 #[.pointer (some ⟨b, 0, none⟩)] ((w.alloc (.cells (h8 Z32) 30)).alloc (.cells #[.int .i64 0] 35)) fun e w' => e = .panicked (refV x) ∧ Below (w.heap.size + 2) ((w.alloc (.cells (h8 Z32) 30)).alloc (.cells #[.int .i64 0] 35)) w') :
   Calls Tryz.prog 44 #[.func (Fn.func 45) #[] #[.pointer (some ⟨b, 0, none⟩)]] w fun e w' => e = .returned (.tuple #[.agg (h8 Z32), .int .i64 x]) ∧ Below w.heap.size w w' := by
 have hmf : ∀ (fn : Fn) (first cap : Array Value) (w : World), (Instr.makeFunc fn first cap).run Tryz.prog w = .ok (.func fn first cap) w := fun _ _ _ _ => rfl
 have Z := (Arr.new w 30 (h8 Z32)).alloc (.cells #[.int .i64 0] 35)
 have E := Arr.new (w.alloc (.cells (h8 Z32) 30)) 35 #[.int .i64 0]
 have b0 : Below w.heap.size w ((w.alloc (.cells (h8 Z32) 30)).alloc (.cells #[.int .i64 0] 35)) := (alloc_bel' w _).alloc (by simp) _
 rw [h8_Z] at hwk Z E b0
 simp only [World.size_alloc] at E
 go_enter_defers Tryz.func44, Tryz.ntmps44
 go_wp2_with (go_at_call 45; go_must (refine hwk.mono ?_; rintro e w2 ⟨rfl, hb2⟩; have Z2 := Z.below hb2 (by omega); have E2 := E.below hb2 (by omega); have B2 := b0.trans (hb2.mono (by omega))))
 refine leaves_cons (f := 91) (args := #[.pointer (some ⟨w.heap.size + 1, 0, none⟩)]) (by simp) (by simp [go_sem]) ?_
 refine (catch_ref91 (w.heap.size + 1) x 0 w2 E2).mono ?_
 rintro e u' w'' ⟨rfl, rfl, rfl⟩
 have c3 := ((E2.set 0 (.int .i64 x)).alloc (.cells #[.int .i64 x] 148)).cell 0
 have Z3 : Arr _ _ 30 (h8 Z32) := (Z2.setOther (a := ⟨w.heap.size + 1, 0, none⟩) (.int .i64 x) (show w.heap.size ≠ w.heap.size + 1 by omega)).alloc (.cells #[.int .i64 x] 148)
 exact ⟨.tuple #[.agg (h8 Z32), .int .i64 x], resG Tryz.results44 rfl rfl Z32_len Z3 c3, rfl, ((B2.setCell (by show w.heap.size ≤ w.heap.size + 1; omega) _).alloc (by have := B2.size; simpa using this) _)⟩
theorem size34z : (Tryz.prog.info? 34).map (·.size) = some zP.size := by kernel_rfl
theorem resG34 {f : Func} {w : World} {tmps : Array Value} {g k : Nat} {C : Array Value} {x : Int} (hf : f.results = #[.cell 2 34, .cell 3 35]) (hp : tmps.getD 2 undef = .pointer (some ⟨g, 0, none⟩)) (hk : tmps.getD 3 undef = .pointer (some ⟨k, 0, none⟩)) (hC : (Tryz.prog.info? 34).map (·.size) = some C.size) (hA : Arr w g 34 C) (hE : w.cell? ⟨k, 0, none⟩ = some (.int .i64 x)) :
   (results f tmps).run Tryz.prog w = .ok (.tuple #[.agg C, .int .i64 x]) w := by
 have hl := run_loadVar_row (P := Tryz.prog) w g 34 34 C (0, 0) _ hA Tryz.underlying34 rfl hC
 have hp' : tmps[2]?.getD undef = .pointer (some ⟨g, 0, none⟩) := by simpa using hp
 have hk' : tmps[3]?.getD undef = .pointer (some ⟨k, 0, none⟩) := by simpa using hk
 have hl2 : (loadVar 35 ⟨k, 0, none⟩).run Tryz.prog w = .ok (.int .i64 x) w := by simp [go_sem, hE]
 simp [results, hf, hp', hk', asAddr, hl, hl2]
theorem resM {f : Func} {w : World} {tmps : Array Value} {g t k : Nat} {C : Array Value} {v : Value} (hf : f.results = #[.cell t 34, .tmp k]) (hp : tmps.getD t undef = .pointer (some ⟨g, 0, none⟩)) (hk : tmps.getD k undef = v) (hC : (Tryz.prog.info? 34).map (·.size) = some C.size) (hA : Arr w g 34 C) :
   (results f tmps).run Tryz.prog w = .ok (.tuple #[.agg C, v]) w := by
 have hl := run_loadVar_row (P := Tryz.prog) w g 34 34 C (0, 0) _ hA Tryz.underlying34 rfl hC
 have hp' : tmps[t]?.getD undef = .pointer (some ⟨g, 0, none⟩) := by simpa using hp
 have hk' : tmps[k]?.getD undef = v := by simpa using hk
 simp [results, hf, hp', hk', asAddr, hl]
theorem guard28_ok {gm gp gk : Nat} {S : Nat → Prop} {R : Array Value → World → Prop} {R' : Array Value → World → Prop} (w : World)
   (hwk : Calls Tryz.prog 29 #[.pointer (some ⟨gm, 0, none⟩), .pointer (some ⟨gp, 0, none⟩), .pointer (some ⟨gk, 0, none⟩)] ((w.alloc (.cells zP 34)).alloc (.cells #[.int .i64 0] 35)) fun e w' => ∃ C, e = .returned (.agg C) ∧ R C w' ∧ Chg S ((w.alloc (.cells zP 34)).alloc (.cells #[.int .i64 0] 35)) w') (hS : ∀ k, S k → k < w.heap.size)
   (hR : ∀ C w', R C w' → C.size = 53 ∧ C.all (·.oneCell') = true ∧ R' C ((w'.setRow w.heap.size C).setCell ⟨w.heap.size + 1, 0, none⟩ (.int .i64 0))) :
   Calls Tryz.prog 28 #[.func (Fn.func 29) #[] #[.pointer (some ⟨gm, 0, none⟩), .pointer (some ⟨gp, 0, none⟩), .pointer (some ⟨gk, 0, none⟩)]] w fun e w' => ∃ C, e = .returned (.tuple #[.agg C, .int .i64 0]) ∧ R' C w' ∧ C.size = 53 ∧ C.all (·.oneCell') = true ∧ Chg S w w' := by
 have hmf : ∀ (fn : Fn) (first cap : Array Value) (w : World), (Instr.makeFunc fn first cap).run Tryz.prog w = .ok (.func fn first cap) w := fun _ _ _ _ => rfl
 have Z := (Arr.new w 34 zP).alloc (.cells #[.int .i64 0] 35)
 have E := Arr.new (w.alloc (.cells zP 34)) 35 #[.int .i64 0]
 have b0 : Below w.heap.size w ((w.alloc (.cells zP 34)).alloc (.cells #[.int .i64 0] 35)) := (alloc_bel' w _).alloc (by simp) _
 simp only [World.size_alloc] at E
 have hsz : (((w.alloc (.cells zP 34)).alloc (.cells #[.int .i64 0] 35))).heap.size = w.heap.size + 2 := by simp
 go_enter_defers Tryz.func28, Tryz.ntmps28
 go_upto_region 2 with fail
 change Code.wp _ _ _ _ ((w.alloc (.cells zP 34)).alloc (.cells #[.int .i64 0] 35))
 generalize hU : ((w.alloc (.cells zP 34)).alloc (.cells #[.int .i64 0] 35)) = U at *
 go_wp2_with (first
   | (go_at_call 29; go_must (refine hwk.mono ?_; rintro e w2 ⟨C, rfl, hRC, hc2⟩; obtain ⟨hC, hC1, hR2⟩ := hR C w2 hRC; have n0 : ¬ S w.heap.size := (fun h => by have := hS _ h; omega); have n1 : ¬ S (w.heap.size + 1) := (fun h => by have := hS _ h; omega); have Z2 : Arr w2 w.heap.size 34 zP := (hc2.block _ (by omega) n0).trans Z; have E2 : Arr w2 (w.heap.size + 1) 35 #[.int .i64 0] := (hc2.block _ (by omega) n1).trans E; have hs34 : (Tryz.prog.info? 34).map (·.size) = some C.size := (by rw [hC]; exact size34); have c2 := (E2.setRowOther (k := w.heap.size) C (by omega)).cell 0; have f2 := (E2.setRowOther (k := w.heap.size) C (by omega)).frozen 0))
   | (refine atS 34 (.tmp 2) (.tmp 6) ?_; go_must (refine wpList_store_row (by rfl) 34 (.tmp 2) (.tmp 6) (by rfl) w.heap.size C (by rfl) (by rfl) 34 _ Z2 hs34 (by rw [hC]; rfl) hC1 ?_)))
 refine leaves_cons (f := 72) (args := #[.pointer (some ⟨w.heap.size + 1, 0, none⟩)]) (by simp) (by simp [go_sem]) ?_
 refine (catch_idle72 ⟨w.heap.size + 1, 0, none⟩ _).mono ?_
 rintro e u' w'' ⟨rfl, rfl, rfl⟩
 have c3 := ((E2.setRowOther (k := w.heap.size) C (by omega)).set 0 (.int .i64 0)).cell 0
 have Z3 := (Z2.setRow C).setOther (a := ⟨w.heap.size + 1, 0, none⟩) (.int .i64 0) (show w.heap.size ≠ w.heap.size + 1 by omega)
 exact ⟨.tuple #[.agg C, .int .i64 0], resG34 Tryz.results28 rfl rfl hs34 Z3 c3, C, rfl, hR2, hC, hC1, (((Chg.of_below b0).trans (hc2.mono (fun i _ h => h))).kRow _ (fun h => absurd h (by omega))).kSet _ (fun h => absurd h (by omega))⟩
theorem guard28_no {gm gp gk : Nat} {S : Nat → Prop} {x : Int} (w : World)
   (hwk : Calls Tryz.prog 29 #[.pointer (some ⟨gm, 0, none⟩), .pointer (some ⟨gp, 0, none⟩), .pointer (some ⟨gk, 0, none⟩)] ((w.alloc (.cells zP 34)).alloc (.cells #[.int .i64 0] 35)) fun e w' => e = .panicked (refV x) ∧ Chg S ((w.alloc (.cells zP 34)).alloc (.cells #[.int .i64 0] 35)) w') (hS : ∀ k, S k → k < w.heap.size) :
   Calls Tryz.prog 28 #[.func (Fn.func 29) #[] #[.pointer (some ⟨gm, 0, none⟩), .pointer (some ⟨gp, 0, none⟩), .pointer (some ⟨gk, 0, none⟩)]] w fun e w' => e = .returned (.tuple #[.agg zP, .int .i64 x]) ∧ Chg S w w' := by
 have hmf : ∀ (fn : Fn) (first cap : Array Value) (w : World), (Instr.makeFunc fn first cap).run Tryz.prog w = .ok (.func fn first cap) w := fun _ _ _ _ => rfl
 have Z := (Arr.new w 34 zP).alloc (.cells #[.int .i64 0] 35)
 have E := Arr.new (w.alloc (.cells zP 34)) 35 #[.int .i64 0]
 have b0 : Below w.heap.size w ((w.alloc (.cells zP 34)).alloc (.cells #[.int .i64 0] 35)) := (alloc_bel' w _).alloc (by simp) _
 simp only [World.size_alloc] at E
 have hsz : (((w.alloc (.cells zP 34)).alloc (.cells #[.int .i64 0] 35))).heap.size = w.heap.size + 2 := by simp
 go_enter_defers Tryz.func28, Tryz.ntmps28
 go_upto_region 2 with fail
 change Code.wp _ _ _ _ ((w.alloc (.cells zP 34)).alloc (.cells #[.int .i64 0] 35))
 generalize hU : ((w.alloc (.cells zP 34)).alloc (.cells #[.int .i64 0] 35)) = U at *
 go_wp2_with (go_at_call 29; go_must (refine hwk.mono ?_; rintro e w2 ⟨rfl, hc2⟩; have n0 : ¬ S w.heap.size := (fun h => by have := hS _ h; omega); have n1 : ¬ S (w.heap.size + 1) := (fun h => by have := hS _ h; omega); have Z2 : Arr w2 w.heap.size 34 zP := (hc2.block _ (by omega) n0).trans Z; have E2 : Arr w2 (w.heap.size + 1) 35 #[.int .i64 0] := (hc2.block _ (by omega) n1).trans E))
 refine leaves_cons (f := 72) (args := #[.pointer (some ⟨w.heap.size + 1, 0, none⟩)]) (by simp) (by simp [go_sem]) ?_
 refine (catch_ref72 (w.heap.size + 1) x 0 w2 E2).mono ?_
 rintro e u' w'' ⟨rfl, rfl, rfl⟩
 have c3 := ((E2.set 0 (.int .i64 x)).alloc (.cells #[.int .i64 x] 148)).cell 0
 have Z3 : Arr _ _ 34 zP := (Z2.setOther (a := ⟨w.heap.size + 1, 0, none⟩) (.int .i64 x) (show w.heap.size ≠ w.heap.size + 1 by omega)).alloc (.cells #[.int .i64 x] 148)
 exact ⟨.tuple #[.agg zP, .int .i64 x], resG34 Tryz.results28 rfl rfl size34z Z3 c3, rfl, (((Chg.of_below b0).trans hc2).kSet _ (fun h => absurd h (by omega))).alloc _⟩
theorem size27 : (Tryz.prog.info? 27).map (·.size) = some 19 := by kernel_rfl
theorem szB_p2 {n : Nat} (h : szB n = true) : ∃ d, d ≤ 12 ∧ n = 2 ^ d := by
 unfold szB at h
 rw [List.any_eq_true] at h
 obtain ⟨k, hk, he⟩ := h
 exact ⟨k, by have := List.mem_range.1 hk; omega, by simpa using he⟩
def MkP (es : List En) (m : Mc) (w : World) (e : Ending) (w' : World) : Prop := Below w.heap.size w w' ∧
 ((mayM m = false ∧ e = .returned (.tuple #[.agg zP, .int .i64 2])) ∨ (mayM m = true ∧ mk0 es m = none ∧ e = .returned (.tuple #[.agg zP, .int .i64 7])) ∨
  (mayM m = true ∧ ∃ m1 r v vp ts, mk0 es m = some (m1, r) ∧ e = .returned (.tuple #[.agg (pfL (mkP m r) v vp).toArray, .int .i64 0]) ∧ AO w.heap.size w' v ts ∧ ts.map Am.acc = r.T ∧ w'.ownsRow w.heap.size 5 1 vp r.p.length (by8 r.p) ∧ Bts r.p ∧ r.p.length ≤ 140737488355000 ∧ (∀ k, vp.ownBlock = some k → v.ownBlock ≠ some k)))
theorem make_no {N : Nat} {sk : Option Addr} {nk ck : Nat} {es : List En} {m : Mc} {sp : Option Addr} {n cap : Nat} (w : World) (hok : m.ok) (hM : MS N w sp n cap m.me) (hES : ES N w sk nk ck es) (hN : N ≤ w.heap.size) (hmM : mayM m = false) : Calls Tryz.prog 9 #[.agg (mcA m sp n cap), .slice sk nk ck] w (MkP es m w) := by
 have h16 := hok.r16
 have hmay := fun z => may_any m sp n cap z hok hM.len hM.small
 have hs27 : (Tryz.prog.info? 27).map (·.size) = some (mcA m sp n cap).size := by rw [mcA_size h16 sp n cap]; exact size27
 have m18 := mcA_18 h16 sp n cap
 have A2 := ((Arr.new w 27 (mcA m sp n cap)).alloc (.cells #[.slice sk nk ck] 28)).alloc (.cells zP 34)
 have A3 := (Arr.new (w.alloc (.cells (mcA m sp n cap) 27)) 28 #[.slice sk nk ck]).alloc (.cells zP 34)
 have A4 := Arr.new ((w.alloc (.cells (mcA m sp n cap) 27)).alloc (.cells #[.slice sk nk ck] 28)) 34 zP
 have b0 : Below w.heap.size w (((w.alloc (.cells (mcA m sp n cap) 27)).alloc (.cells #[.slice sk nk ck] 28)).alloc (.cells zP 34)) := ((alloc_bel' w _).alloc (by simp) _).alloc (by simp; omega) _
 simp only [World.size_alloc] at A3 A4
 have hsz : ((((w.alloc (.cells (mcA m sp n cap) 27)).alloc (.cells #[.slice sk nk ck] 28)).alloc (.cells zP 34))).heap.size = w.heap.size + 3 := by simp
 rw [hmM] at hmay
 generalize hMC : mcA m sp n cap = MC at *
 go_enter Tryz.func9, Tryz.ntmps9
 go_upto_region 1 with fail
 change Code.wp _ _ _ _ (((w.alloc (.cells MC 27)).alloc (.cells #[.slice sk nk ck] 28)).alloc (.cells zP 34))
 generalize hV : (((w.alloc (.cells MC 27)).alloc (.cells #[.slice sk nk ck] 28)).alloc (.cells zP 34)) = V at *
 go_wp2_with (first
   | (refine atL 27 (.tmp 2) ?_; go_must (refine ldR (by rfl) 27 (.tmp 2) (by rfl) w.heap.size (by rfl) MC A2 Tryz.underlying27 rfl hs27 ?_))
   | (go_at_call 26; go_must (refine (hmay V).mono ?_; rintro e w1 ⟨rfl, hb1⟩; replace A2 := A2.bel hb1; replace A3 := A3.bel hb1; replace A4 := A4.bel hb1; have hs1 := hb1.size; have b1 : Below w.heap.size w w1 := b0.trans (hb1.mono (by omega))))
   | (refine atS 34 (.tmp 4) (.tmp 11) ?_; go_must (refine wpList_store_row (by rfl) 34 (.tmp 4) (.tmp 11) (by rfl) (w.heap.size + 1 + 1) zP (by rfl) (by rfl) 34 _ A4 size34z rfl (pfL_one _ rfl rfl) ?_)))
 exact bodyPost_ret (v := .tuple #[.agg zP, .int .i64 2]) (resM Tryz.results9 rfl rfl size34z (A4.setRow _)) rfl ⟨below_setRow b1 (by omega) _, .inl ⟨hmM, rfl⟩⟩
theorem make_sh {N : Nat} {sk : Option Addr} {nk ck : Nat} {es : List En} {m : Mc} {sp : Option Addr} {n cap : Nat} (w : World) (hok : m.ok) (hM : MS N w sp n cap m.me) (hES : ES N w sk nk ck es) (hN : N ≤ w.heap.size) (hmM : mayM m = true) (h0 : mk0 es m = none) : Calls Tryz.prog 9 #[.agg (mcA m sp n cap), .slice sk nk ck] w (MkP es m w) := by
 obtain ⟨d, hd, hn⟩ : ∃ d, d ≤ 12 ∧ Hid (n = 2 ^ d) := by
   have h1 : szB m.me.length = true := by unfold mayM at hmM; rw [Bool.and_eq_true] at hmM; exact hmM.1
   obtain ⟨d, h2, h3⟩ := szB_p2 h1
   exact ⟨d, h2, Hid.mk' (by rw [hM.len.out]; exact h3)⟩
 have hpok : (⟨m.pc, m.rg, m.st, (d : Int), rW m.me, [], []⟩ : Pf).ok := ⟨hok.pc, hok.r16, hok.rg, hok.st, ⟨by simp only; omega, by simp only; omega⟩, rW_len m.me, (fun a h => by cases h), Bts.nil⟩
 have hn0 : 0 < n := by rw [hn.out]; exact Nat.pow_pos (by omega)
 have hn4 : n ≤ 4096 := by rw [hn.out]; exact pow12 hd
 have hlg : Nat.log2 m.me.length = d := by rw [← hM.len.out, hn.out]; exact Nat.log2_two_pow
 have hlen2 : m.me.length = 2 ^ d := by rw [← hM.len.out]; exact hn.out
 have hmk : mk0 es m = stG (hW d es) (2 ^ d) m.bare ⟨m.me, [], []⟩ := by unfold mk0; rw [hlg, hlen2]
 rw [hmk] at h0
 have h16 := hok.r16
 have hmay := fun z => may_any m sp n cap z hok hM.len hM.small
 have hs27 : (Tryz.prog.info? 27).map (·.size) = some (mcA m sp n cap).size := by rw [mcA_size h16 sp n cap]; exact size27
 have m18 := mcA_18 h16 sp n cap
 have A2 := ((Arr.new w 27 (mcA m sp n cap)).alloc (.cells #[.slice sk nk ck] 28)).alloc (.cells zP 34)
 have A3 := (Arr.new (w.alloc (.cells (mcA m sp n cap) 27)) 28 #[.slice sk nk ck]).alloc (.cells zP 34)
 have A4 := Arr.new ((w.alloc (.cells (mcA m sp n cap) 27)).alloc (.cells #[.slice sk nk ck] 28)) 34 zP
 have b0 : Below w.heap.size w (((w.alloc (.cells (mcA m sp n cap) 27)).alloc (.cells #[.slice sk nk ck] 28)).alloc (.cells zP 34)) := ((alloc_bel' w _).alloc (by simp) _).alloc (by simp; omega) _
 simp only [World.size_alloc] at A3 A4
 have hsz : ((((w.alloc (.cells (mcA m sp n cap) 27)).alloc (.cells #[.slice sk nk ck] 28)).alloc (.cells zP 34))).heap.size = w.heap.size + 3 := by simp
 rw [hmM] at hmay
 generalize hMC : mcA m sp n cap = MC at *
 go_enter Tryz.func9, Tryz.ntmps9
 go_upto_region 1 with fail
 change Code.wp _ _ _ _ (((w.alloc (.cells MC 27)).alloc (.cells #[.slice sk nk ck] 28)).alloc (.cells zP 34))
 generalize hV : (((w.alloc (.cells MC 27)).alloc (.cells #[.slice sk nk ck] 28)).alloc (.cells zP 34)) = V at *
 go_upto_region 3 with (first
   | (refine atL 27 (.tmp 2) ?_; go_must (refine ldR (by rfl) 27 (.tmp 2) (by rfl) w.heap.size (by rfl) MC A2 Tryz.underlying27 rfl hs27 ?_))
   | (go_at_call 26; go_must (refine (hmay V).mono ?_; rintro e w1 ⟨rfl, hb1⟩; replace A2 := A2.bel hb1; replace A3 := A3.bel hb1; replace A4 := A4.bel hb1; have hs1 := hb1.size; have b1 : Below w.heap.size w w1 := b0.trans (hb1.mono (by omega)))))
 have k18 := (A2.cell 18).trans m18
 have hME1 := new_ok sp n cap d (2 * n - 1) m.me N w1 (hM.below (b1.mono hN)) hok.me hd hn (Hid.mk' (by omega))
 unfold NwPost at hME1
 go_upto_region 4 with (go_at_call 27; go_must (refine hME1.mono ?_; rintro e w2 ⟨gM, gt, ct, gl, cl, rfl, hme, hgM, hgt, hgl, hb2⟩))
 have hs2 := hb2.size
 have b2 : Below w.heap.size w w2 := b1.trans (hb2.mono (by omega))
 have P4 : Arr (w2.alloc (.cells #[.pointer (some ⟨gM, 0, none⟩)] 67)) w2.heap.size 67 #[.pointer (some ⟨gM, 0, none⟩)] := Arr.new w2 67 _
 have b24 := alloc_bel' w2 (.cells #[.pointer (some ⟨gM, 0, none⟩)] 67)
 have hs4 : (w2.alloc (.cells #[.pointer (some ⟨gM, 0, none⟩)] 67)).heap.size = w2.heap.size + 1 := by simp
 replace A2 := (A2.bel hb2).bel b24
 replace A3 := (A3.bel hb2).bel b24
 replace A4 := (A4.bel hb2).bel b24
 have hl := hme.lt
 have me4 := hme.block (w' := w2.alloc (.cells #[.pointer (some ⟨gM, 0, none⟩)] 67)) (by rintro k (rfl | rfl | rfl) <;> exact b24.block _ (by omega))
 have b4 : Below w.heap.size w (w2.alloc (.cells #[.pointer (some ⟨gM, 0, none⟩)] 67)) := b2.trans (b24.mono (by omega))
 change Code.wp _ _ _ _ (w2.alloc (.cells #[.pointer (some ⟨gM, 0, none⟩)] 67))
 generalize hU4 : w2.alloc (.cells #[.pointer (some ⟨gM, 0, none⟩)] 67) = U at *
 have bu : Below U.heap.size U ((U.alloc (.cells zP 34)).alloc (.cells #[.int .i64 0] 35)) := (alloc_bel' U _).alloc (by simp) _
 have hsu : ((U.alloc (.cells zP 34)).alloc (.cells #[.int .i64 0] 35)).heap.size = U.heap.size + 2 := by simp
 have hwk := (mk1_any (N := N) (B := w.heap.size) (gm := w.heap.size) (gp := w2.heap.size) (gk := w.heap.size + 1) (gM := gM) (gt := gt) (ct := ct) (gl := gl) (cl := cl) (d := d) (n := n) (m2 := 2 * n - 1) (sk := sk) (nk := nk) (ck := ck) (es := es) (m := m) (sp := sp) (cap := cap) (p := ⟨m.pc, m.rg, m.st, (d : Int), rW m.me, [], []⟩) ((U.alloc (.cells zP 34)).alloc (.cells #[.int .i64 0] 35)) (by rw [hMC]; exact A2.bel bu) (P4.bel bu) (A3.bel bu) (me4.block (by rintro k (rfl | rfl | rfl) <;> exact bu.block _ (by omega))) (hES.below ((b4.trans (bu.mono (by omega))).mono hN)) hok.me hpok hd hn rfl rfl rfl rfl rfl hN (by omega) (by omega) (by omega)).mono (fun e w' h => by
   rcases h with h | ⟨m1, r, v, vp, ts, h1, -⟩
   · exact h.2
   · rw [h0] at h1; cases h1)
 have hgd := guard28_no U hwk (by rintro k (rfl | rfl | rfl) <;> omega)
 go_wp2_with (first
   | (go_at_call 28; go_must (refine hgd.mono ?_; rintro e w5 ⟨rfl, hc5⟩; have A5 : Arr w5 (w.heap.size + 1 + 1) 34 zP := (hc5.block _ (by omega) (by rintro (e | e | e) <;> omega)).trans A4))
   | (refine atS 34 (.tmp 4) (.tmp 20) ?_; go_must (refine wpList_store_row (by rfl) 34 (.tmp 4) (.tmp 20) (by rfl) (w.heap.size + 1 + 1) zP (by rfl) (by rfl) 34 _ A5 size34z rfl (pfL_one _ rfl rfl) ?_)))
 exact bodyPost_ret (v := .tuple #[.agg zP, .int .i64 7]) (resM Tryz.results9 rfl rfl size34z (A5.setRow _)) rfl ⟨below_setRow (b4.trans (hc5.below (fun i hi => ⟨by omega, by rintro (e | e | e) <;> omega⟩))) (by omega) _, .inr (.inl ⟨hmM, by rw [hmk]; exact h0, rfl⟩)⟩
theorem make_ok {N : Nat} {sk : Option Addr} {nk ck : Nat} {es : List En} {m : Mc} {sp : Option Addr} {n cap : Nat} (w : World) (hok : m.ok) (hM : MS N w sp n cap m.me) (hES : ES N w sk nk ck es) (hN : N ≤ w.heap.size) (hmM : mayM m = true) {m1 : Mc} {r : Wd} (h0 : mk0 es m = some (m1, r)) : Calls Tryz.prog 9 #[.agg (mcA m sp n cap), .slice sk nk ck] w (MkP es m w) := by
 obtain ⟨d, hd, hn⟩ : ∃ d, d ≤ 12 ∧ Hid (n = 2 ^ d) := by
   have h1 : szB m.me.length = true := by unfold mayM at hmM; rw [Bool.and_eq_true] at hmM; exact hmM.1
   obtain ⟨d, h2, h3⟩ := szB_p2 h1
   exact ⟨d, h2, Hid.mk' (by rw [hM.len.out]; exact h3)⟩
 have hpok : (⟨m.pc, m.rg, m.st, (d : Int), rW m.me, [], []⟩ : Pf).ok := ⟨hok.pc, hok.r16, hok.rg, hok.st, ⟨by simp only; omega, by simp only; omega⟩, rW_len m.me, (fun a h => by cases h), Bts.nil⟩
 have hn0 : 0 < n := by rw [hn.out]; exact Nat.pow_pos (by omega)
 have hn4 : n ≤ 4096 := by rw [hn.out]; exact pow12 hd
 have hlg : Nat.log2 m.me.length = d := by rw [← hM.len.out, hn.out]; exact Nat.log2_two_pow
 have hlen2 : m.me.length = 2 ^ d := by rw [← hM.len.out]; exact hn.out
 have hmk : mk0 es m = stG (hW d es) (2 ^ d) m.bare ⟨m.me, [], []⟩ := by unfold mk0; rw [hlg, hlen2]
 rw [hmk] at h0
 have hpf : ∀ v vp, (pfL ⟨m.pc, m.rg, m.st, (d : Int), rW m.me, [], []⟩ v vp).toArray = (pfL (mkP m r) v vp).toArray := fun v vp => by unfold mkP; rw [hlg]; rfl
 have h16 := hok.r16
 have hmay := fun z => may_any m sp n cap z hok hM.len hM.small
 have hs27 : (Tryz.prog.info? 27).map (·.size) = some (mcA m sp n cap).size := by rw [mcA_size h16 sp n cap]; exact size27
 have m18 := mcA_18 h16 sp n cap
 have A2 := ((Arr.new w 27 (mcA m sp n cap)).alloc (.cells #[.slice sk nk ck] 28)).alloc (.cells zP 34)
 have A3 := (Arr.new (w.alloc (.cells (mcA m sp n cap) 27)) 28 #[.slice sk nk ck]).alloc (.cells zP 34)
 have A4 := Arr.new ((w.alloc (.cells (mcA m sp n cap) 27)).alloc (.cells #[.slice sk nk ck] 28)) 34 zP
 have b0 : Below w.heap.size w (((w.alloc (.cells (mcA m sp n cap) 27)).alloc (.cells #[.slice sk nk ck] 28)).alloc (.cells zP 34)) := ((alloc_bel' w _).alloc (by simp) _).alloc (by simp; omega) _
 simp only [World.size_alloc] at A3 A4
 have hsz : ((((w.alloc (.cells (mcA m sp n cap) 27)).alloc (.cells #[.slice sk nk ck] 28)).alloc (.cells zP 34))).heap.size = w.heap.size + 3 := by simp
 rw [hmM] at hmay
 generalize hMC : mcA m sp n cap = MC at *
 go_enter Tryz.func9, Tryz.ntmps9
 go_upto_region 1 with fail
 change Code.wp _ _ _ _ (((w.alloc (.cells MC 27)).alloc (.cells #[.slice sk nk ck] 28)).alloc (.cells zP 34))
 generalize hV : (((w.alloc (.cells MC 27)).alloc (.cells #[.slice sk nk ck] 28)).alloc (.cells zP 34)) = V at *
 go_upto_region 3 with (first
   | (refine atL 27 (.tmp 2) ?_; go_must (refine ldR (by rfl) 27 (.tmp 2) (by rfl) w.heap.size (by rfl) MC A2 Tryz.underlying27 rfl hs27 ?_))
   | (go_at_call 26; go_must (refine (hmay V).mono ?_; rintro e w1 ⟨rfl, hb1⟩; replace A2 := A2.bel hb1; replace A3 := A3.bel hb1; replace A4 := A4.bel hb1; have hs1 := hb1.size; have b1 : Below w.heap.size w w1 := b0.trans (hb1.mono (by omega)))))
 have k18 := (A2.cell 18).trans m18
 have hME1 := new_ok sp n cap d (2 * n - 1) m.me N w1 (hM.below (b1.mono hN)) hok.me hd hn (Hid.mk' (by omega))
 unfold NwPost at hME1
 go_upto_region 4 with (go_at_call 27; go_must (refine hME1.mono ?_; rintro e w2 ⟨gM, gt, ct, gl, cl, rfl, hme, hgM, hgt, hgl, hb2⟩))
 have hs2 := hb2.size
 have b2 : Below w.heap.size w w2 := b1.trans (hb2.mono (by omega))
 have P4 : Arr (w2.alloc (.cells #[.pointer (some ⟨gM, 0, none⟩)] 67)) w2.heap.size 67 #[.pointer (some ⟨gM, 0, none⟩)] := Arr.new w2 67 _
 have b24 := alloc_bel' w2 (.cells #[.pointer (some ⟨gM, 0, none⟩)] 67)
 have hs4 : (w2.alloc (.cells #[.pointer (some ⟨gM, 0, none⟩)] 67)).heap.size = w2.heap.size + 1 := by simp
 replace A2 := (A2.bel hb2).bel b24
 replace A3 := (A3.bel hb2).bel b24
 replace A4 := (A4.bel hb2).bel b24
 have hl := hme.lt
 have me4 := hme.block (w' := w2.alloc (.cells #[.pointer (some ⟨gM, 0, none⟩)] 67)) (by rintro k (rfl | rfl | rfl) <;> exact b24.block _ (by omega))
 have b4 : Below w.heap.size w (w2.alloc (.cells #[.pointer (some ⟨gM, 0, none⟩)] 67)) := b2.trans (b24.mono (by omega))
 change Code.wp _ _ _ _ (w2.alloc (.cells #[.pointer (some ⟨gM, 0, none⟩)] 67))
 generalize hU4 : w2.alloc (.cells #[.pointer (some ⟨gM, 0, none⟩)] 67) = U at *
 have bu : Below U.heap.size U ((U.alloc (.cells zP 34)).alloc (.cells #[.int .i64 0] 35)) := (alloc_bel' U _).alloc (by simp) _
 have hsu : ((U.alloc (.cells zP 34)).alloc (.cells #[.int .i64 0] 35)).heap.size = U.heap.size + 2 := by simp
 have hwk := mk1_any (N := N) (B := w.heap.size) (gm := w.heap.size) (gp := w2.heap.size) (gk := w.heap.size + 1) (gM := gM) (gt := gt) (ct := ct) (gl := gl) (cl := cl) (d := d) (n := n) (m2 := 2 * n - 1) (sk := sk) (nk := nk) (ck := ck) (es := es) (m := m) (sp := sp) (cap := cap) (p := ⟨m.pc, m.rg, m.st, (d : Int), rW m.me, [], []⟩) ((U.alloc (.cells zP 34)).alloc (.cells #[.int .i64 0] 35)) (by rw [hMC]; exact A2.bel bu) (P4.bel bu) (A3.bel bu) (me4.block (by rintro k (rfl | rfl | rfl) <;> exact bu.block _ (by omega))) (hES.below ((b4.trans (bu.mono (by omega))).mono hN)) hok.me hpok hd hn rfl rfl rfl rfl rfl hN (by omega) (by omega) (by omega)
 rw [hsu, h0] at hwk
 have hgd := guard28_ok (R := fun C w' => ∃ v vp ts gW, C = (pfL (mkP m r) v vp).toArray ∧ WI N w.heap.size gW gM gt ct gl cl d n (2 * n - 1) sk nk ck es (fun b => b < U.heap.size + 2 ∧ b ≠ gM ∧ b ≠ gt ∧ b ≠ gl) r w' v vp ts) (R' := fun C w' => ∃ v vp ts gW, C = (pfL (mkP m r) v vp).toArray ∧ WI N w.heap.size gW gM gt ct gl cl d n (2 * n - 1) sk nk ck es (fun b => b < U.heap.size ∧ b ≠ gM ∧ b ≠ gt ∧ b ≠ gl) r w' v vp ts) U
   (hwk.mono fun e w' h => by
     rcases h with ⟨h1, -⟩ | ⟨m2, r2, v, vp, ts, h0, h1, ⟨gW, h2⟩, h3⟩
     · cases h1
     · cases h0
       exact ⟨_, h1, ⟨v, vp, ts, gW, hpf v vp, h2⟩, h3⟩) (by rintro k (rfl | rfl | rfl) <;> omega) (by
     rintro C w' ⟨v, vp, ts, gW, rfl, hWI⟩
     obtain ⟨a1, a2, a3, rfl⟩ := hWI.ao.slice
     obtain ⟨p1, p2, p3, rfl⟩ : ∃ a b c, vp = .slice a b c := by
       rcases hWI.pre.2 with ⟨e1, -⟩ | ⟨g, cap, cur, e1, -⟩
       · exact ⟨_, _, _, e1⟩
       · exact ⟨_, _, _, e1⟩
     refine ⟨by rw [List.size_toArray, pfL_len h16 (rW_len _)], pfL_one _ rfl rfl, _, _, ts, gW, rfl, ?_⟩
     have hl2 := hWI.lt
     refine hWI.keep ((below_setRow (Below.refl _ w') (by omega) _).setCell (by show w.heap.size ≤ U.heap.size + 1; omega) _) (fun b h1 h2 => (Below.heap_setCell _ _ _ _ (fun e => h2 ?_)).trans (setRow_other _ _ _ _ (fun e => h2 ?_))) (fun b h => .inl ⟨by have := h.1; omega, h.2⟩) (fun b h => ?_)
     · have e' : b = U.heap.size + 1 := e
       rw [e']; exact ⟨by omega, by omega, by omega, by omega⟩
     · rw [e]; exact ⟨by omega, by omega, by omega, by omega⟩
     · have h4 := hWI.lt b ⟨by have := h.1; omega, h.2⟩
       simpa using h4)
 go_wp2_with (first
   | (go_at_call 28; go_must (refine hgd.mono ?_; rintro e w5 ⟨C, rfl, hR5, hC5, hC1, hc5⟩; have A5 : Arr w5 (w.heap.size + 1 + 1) 34 zP := (hc5.block _ (by omega) (by rintro (e | e | e) <;> omega)).trans A4; have hs34 : (Tryz.prog.info? 34).map (·.size) = some C.size := (by rw [hC5]; exact size34)))
   | (refine atS 34 (.tmp 4) (.tmp 20) ?_; go_must (refine wpList_store_row (by rfl) 34 (.tmp 4) (.tmp 20) (by rfl) (w.heap.size + 1 + 1) C (by rfl) (by rfl) 34 _ A5 hs34 (by rw [hC5]; rfl) hC1 ?_)))
 refine bodyPost_ret (v := .tuple #[.agg C, .int .i64 0]) (resM Tryz.results9 rfl rfl hs34 (A5.setRow _)) rfl ⟨below_setRow (b4.trans (hc5.below (fun i hi => ⟨by omega, by rintro (e | e | e) <;> omega⟩))) (by omega) _, .inr (.inr ⟨hmM, ?_⟩)⟩
 obtain ⟨v, vp, ts, gW, rfl, hWI⟩ := hR5
 have hWk := hWI.keep (G := fun _ => False) (u' := w5.setRow (w.heap.size + 1 + 1) (pfL (mkP m r) v vp).toArray) (below_setRow (Below.refl _ w5) (by omega) _) (fun b h1 h2 => setRow_other _ _ _ _ (fun e => h2 (by rw [e]; exact ⟨by omega, by omega, by omega, by omega⟩))) (fun b h => h.elim) (fun b h => h.elim)
 exact ⟨m1, r, v, vp, ts, by rw [hmk]; exact h0, rfl, hWk.ao, hWk.eq.out, hWk.pre, hWk.bts, hWk.sm, fun k hk => (hWk.pb k hk).2⟩
theorem make_any {N : Nat} {sk : Option Addr} {nk ck : Nat} {es : List En} {m : Mc} {sp : Option Addr} {n cap : Nat} (w : World) (hok : m.ok) (hM : MS N w sp n cap m.me) (hES : ES N w sk nk ck es) (hN : N ≤ w.heap.size) : Calls Tryz.prog 9 #[.agg (mcA m sp n cap), .slice sk nk ck] w (MkP es m w) := by
 cases hm : mayM m with
 | false => exact make_no w hok hM hES hN hm
 | true =>
   cases h0 : mk0 es m with
   | none => exact make_sh w hok hM hES hN hm h0
   | some q => exact make_ok w hok hM hES hN hm h0
end Go.Proofs.YtagebcbnenehfaaGreat
