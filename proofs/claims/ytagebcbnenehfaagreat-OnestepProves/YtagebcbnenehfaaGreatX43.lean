/- Od. -/
import Derived.Test.YtagebcbnenehfaaGreatX42
namespace Go.Proofs.YtagebcbnenehfaaGreat
open Go.RowKit
set_option maxRecDepth 100000
set_option linter.unusedVariables false
set_option linter.unusedSimpArgs false
set_option maxHeartbeats 40000000
def G3 (gM gt gl k : Nat) : Prop := k = gM ∨ k = gt ∨ k = gl
theorem chg3 {B gM gt gl : Nat} {w w6 u w7 : World} (h1 : Below w.heap.size w w6) (h2 : Below w6.heap.size w6 u) (h3 : Below B u w7) (h4 : Kp (fun b => b < w6.heap.size ∧ b ≠ gM ∧ b ≠ gt ∧ b ≠ gl) u w7) (hs : w.heap.size ≤ w6.heap.size) (hB : B ≤ w6.heap.size) : Chg (G3 gM gt gl) w w7 :=
 ⟨h3.os.trans (h2.os.trans h1.os), h3.tape.trans (h2.tape.trans h1.tape), h3.output.trans (h2.output.trans h1.output), Nat.le_trans h1.size (Nat.le_trans h2.size h3.size), fun i hi hn => (h4 i ⟨by omega, fun e => hn (.inl e), fun e => hn (.inr (.inl e)), fun e => hn (.inr (.inr e))⟩).trans ((h2.block i (by omega)).trans (h1.block i hi))⟩
def zP : Array Value := (pfL ⟨0, List.replicate 16 0, 0, 0, Z32, [], []⟩ (.slice none 0 0) (.slice none 0 0)).toArray
theorem len30_any (d n : Nat) (hd : d ≤ 12) (hn : Hid (n = 2 ^ d)) (w : World) : Calls Tryz.prog 30 #[.int .u64 (n : Int)] w fun e w' => e = .returned (.int .i64 ((d : Int) + 1)) ∧ w' = w := by
 have hl : ∀ w, Calls Tryz.prog 74 #[.int .u64 (n : Int)] w fun e w' => e = .returned (.int .i64 ((d : Int) + 1)) ∧ w' = w := fun w => by rw [hn.out]; exact len64_any d hd w
 go_enter Tryz.func30, Tryz.ntmps30
 go_wp2_with (go_at_call 74; go_must (refine (hl _).mono ?_; rintro e w1 ⟨rfl, h⟩; replace h := h.symm; subst h))
 go_ret
 exact ⟨rfl, rfl⟩
theorem built34 (p : Pf) (h16 : p.rg.length = 16) (h32 : p.rt.length = 32) : Tryz.prog.built 34 [(0, .int .u64 p.pc), (1, .agg (rgA p.rg)), (2, .int .u8 p.st), (3, .int .i64 p.de), (4, .agg (h8 p.rt))] = some (pfL p (.slice none 0 0) (.slice none 0 0)).toArray := by
 obtain ⟨pc, rg, st, de, rt, tc, pr⟩ := p
 exact list16 (P := fun rg => Tryz.prog.built 34 [(0, .int .u64 pc), (1, .agg (rgA rg)), (2, .int .u8 st), (3, .int .i64 de), (4, .agg (h8 rt))] = some (pfL ⟨pc, rg, st, de, rt, tc, pr⟩ (.slice none 0 0) (.slice none 0 0)).toArray) (fun y0 y1 y2 y3 y4 y5 y6 y7 y8 y9 y10 y11 y12 y13 y14 y15 => list32 (P := fun rt => Tryz.prog.built 34 [(0, .int .u64 pc), (1, .agg (rgA [y0, y1, y2, y3, y4, y5, y6, y7, y8, y9, y10, y11, y12, y13, y14, y15])), (2, .int .u8 st), (3, .int .i64 de), (4, .agg (h8 rt))] = some (pfL ⟨pc, [y0, y1, y2, y3, y4, y5, y6, y7, y8, y9, y10, y11, y12, y13, y14, y15], st, de, rt, tc, pr⟩ (.slice none 0 0) (.slice none 0 0)).toArray) (fun x0 x1 x2 x3 x4 x5 x6 x7 x8 x9 x10 x11 x12 x13 x14 x15 x16 x17 x18 x19 x20 x21 x22 x23 x24 x25 x26 x27 x28 x29 x30 x31 => by kernel_rfl) rt h32) rg h16
theorem pfL_set2 {p : Pf} (h16 : p.rg.length = 16) (h32 : p.rt.length = 32) {v1 v2 u1 u2 : Value} : ((pfL p v1 v2).toArray.setIfInBounds 51 u1).setIfInBounds 52 u2 = (pfL p u1 u2).toArray := by
 have e : ∀ a b, pfL p a b = (.int .u64 p.pc :: (by64 p.rg ++ (.int .u8 p.st :: .int .i64 p.de :: by8 p.rt))) ++ [a, b] := fun a b => by simp [pfL]
 have hl : (Value.int .u64 p.pc :: (by64 p.rg ++ (.int .u8 p.st :: .int .i64 p.de :: by8 p.rt))).length = 51 := by simp [by64, by8_len, h16, h32]
 rw [e, e, List.setIfInBounds_toArray, List.setIfInBounds_toArray, List.set_append_right _ _ (by omega), hl, List.set_append_right _ _ (by omega), hl]
 rfl
theorem pfL_one (p : Pf) {v1 v2 : Value} (h1 : v1.oneCell' = true) (h2 : v2.oneCell' = true) : (pfL p v1 v2).toArray.all (·.oneCell') = true := by
 have e1 : ∀ L : List Int, (by64 L).all (·.oneCell') = true := fun L => by simp [by64, Value.oneCell']
 have e2 : ∀ L : List Int, (by8 L).all (·.oneCell') = true := fun L => by simp [by8, Value.oneCell']
 rw [List.all_toArray]
 unfold pfL
 rw [List.all_cons, List.all_append, List.all_cons, List.all_cons, List.all_append, List.all_cons, List.all_cons, List.all_nil, e1, e2, h1, h2]
 rfl
theorem mk1_any {N B gm gp gk gM gt ct gl cl d n m2 : Nat} {sk : Option Addr} {nk ck : Nat} {es : List En} {m : Mc} {sp : Option Addr} {cap : Nat} {p : Pf} (w : World)
   (hA : Arr w gm 27 (mcA m sp n cap)) (hP : Arr w gp 67 #[.pointer (some ⟨gM, 0, none⟩)]) (hK : Arr w gk 28 #[.slice sk nk ck]) (hME : ME w gM d n m2 m.me gt ct gl cl) (hES : ES N w sk nk ck es)
   (hUm : ∀ k, U64 (m.me.getD k 0)) (hp : p.ok) (hd : d ≤ 12) (hn : Hid (n = 2 ^ d)) (hde : p.de = d) (hpc : p.pc = m.pc) (hrg : p.rg = m.rg) (hst : p.st = m.st) (hrt : p.rt = rW m.me)
   (hNB : N ≤ B) (hBt : B ≤ gt) (hBl : B ≤ gl) (hBw : B ≤ w.heap.size)  :
   Calls Tryz.prog 29 #[.pointer (some ⟨gm, 0, none⟩), .pointer (some ⟨gp, 0, none⟩), .pointer (some ⟨gk, 0, none⟩)] w fun e w' => (stG (hW d es) (2 ^ d) m.bare ⟨m.me, [], []⟩ = none ∧ e = .panicked (refV 7) ∧ Chg (G3 gM gt gl) w w') ∨ (∃ m1 r v vp ts, stG (hW d es) (2 ^ d) m.bare ⟨m.me, [], []⟩ = some (m1, r) ∧ e = .returned (.agg (pfL p v vp).toArray) ∧ (∃ gW, WI N B gW gM gt ct gl cl d n m2 sk nk ck es (fun b => b < w.heap.size ∧ b ≠ gM ∧ b ≠ gt ∧ b ≠ gl) r w' v vp ts) ∧ Chg (G3 gM gt gl) w w') := by
 have h16 : m.rg.length = 16 := by rw [← hrg]; exact hp.r16
 have hr64 : (by64 m.rg).length = 16 := by simp [by64, h16]
 have hcfg : cfg p = m.bare := by unfold cfg Mc.bare; rw [hpc, hrg, hst]
 have hn4 : n ≤ 4096 := by rw [hn.out]; exact pow12 hd
 have hwn : IntKind.u64.wrap (n : Int) = n := wrap64_of (by omega) (by omega)
 have hwd : IntKind.i64.wrap (d : Int) = d := by rw [IntKind.wrap_i64]; omega
 have hwd3 : wrap64 ((d : Int) + 1 - 1) = d := by unfold wrap64; omega
 have hwd4 : (d : Int) + 1 - 1 = d := by omega
 have hwd5 : wrap64 (d : Int) = d := by unfold wrap64; omega
 have hun : (n : Int) % 18446744073709551616 = n := by omega
 have hlen := fun z => len30_any d n hd hn z
 have hb1 := alloc_bel' w (.cells zP 34)
 have hroot : ∀ z, Below (w.alloc (.cells zP 34)).heap.size (w.alloc (.cells zP 34)) z → Calls Tryz.prog 31 #[.pointer (some ⟨gM, 0, none⟩)] z fun e w' => e = .returned (.agg (h8 (rW m.me))) ∧ Below z.heap.size z w' := fun z hz => mroot_any gM d n m2 m.me gt ct gl cl z (hME.block (by rintro k (rfl | rfl | rfl) <;> exact (hb1.trans (hz.mono (by simp))).block _ (by have := hME.lt; omega)))
 have hbd : Tryz.prog.built 34 [(0, .int .u64 m.pc), (1, .agg (rgA m.rg)), (2, .int .u8 m.st), (3, .int .i64 (d : Int)), (4, .agg (h8 (rW m.me)))] = some (pfL p (.slice none 0 0) (.slice none 0 0)).toArray := by
   rw [← hpc, ← hrg, ← hst, ← hde, ← hrt]
   exact built34 p hp.r16 hp.rt
 have h51 : (pfL p (.slice none 0 0) (.slice none 0 0)).toArray[51]? = some (.slice none 0 0) := pfL_end hp.r16 hp.rt (.slice none 0 0) (.slice none 0 0) 0
 have h52 : (pfL p (.slice none 0 0) (.slice none 0 0)).toArray[52]? = some (.slice none 0 0) := pfL_end hp.r16 hp.rt (.slice none 0 0) (.slice none 0 0) 1
 have hset := fun u1 u2 => pfL_set2 hp.r16 hp.rt (v1 := .slice none 0 0) (v2 := .slice none 0 0) (u1 := u1) (u2 := u2)
 have hPs : (pfL p (.slice none 0 0) (.slice none 0 0)).toArray.size = 53 := by rw [List.size_toArray, pfL_len hp.r16 hp.rt]
 have hs34 : (Tryz.prog.info? 34).map (·.size) = some (pfL p (.slice none 0 0) (.slice none 0 0)).toArray.size := by rw [hPs]; exact size34
 have hone := pfL_one p (v1 := .slice none 0 0) (v2 := .slice none 0 0) rfl rfl
 have A3 := Arr.new w 34 zP
 have A0 := hA.bel hb1
 have P0 := hP.bel hb1
 have hmm := fun (u : World) (h : Arr u gm 27 (mcA m sp n cap)) => mcA_rg h
 have m0 : (mcA m sp n cap)[0]? = some (.int .u64 m.pc) := rfl
 have m17 := mcA_17 h16 sp n cap
 have m18 := mcA_18 h16 sp n cap
 have hal := hA.lt
 have hpl := hP.lt
 have hkl := hK.lt
 generalize hPF : (pfL p (.slice none 0 0) (.slice none 0 0)).toArray = PF at *
 replace hde := Hid.mk' hde
 go_enter Tryz.func29, Tryz.ntmps29
 go_upto_region 1 with fail
 change Code.wp _ _ _ _ (w.alloc (.cells zP 34))
 have hw1 : (w.alloc (.cells zP 34)).heap.size = w.heap.size + 1 := by simp
 generalize hV1 : w.alloc (.cells zP 34) = w1 at *
 go_cut [4] from 6 to 20 (fun p wc => ∃ g4, p = .pointer (some ⟨g4, 0, none⟩) ∧ Arr wc g4 34 PF ∧ Below w1.heap.size w1 wc ∧ w1.heap.size ≤ g4)
 case first =>
   refine rgn (fun u => Below w1.heap.size w1 u) ((Below.refl _ w1).drew) (fun hHeld => ?_)
   refine tk 0 rfl ?_
   refine tk 1 rfl (hy := by (intro u hSw; have s1 := (hSw.cell (p := ⟨gm, 0, none⟩) (by show gm < _; omega)).trans ((A0.cell 0).trans m0); go_simp; try (with_reducible rfl))) ?_
   refine tk 2 rfl ?_
   refine tl 3 rfl (y23 (by rfl) (.tmp 8) rfl gm 1 rfl m.rg h16 (fun u hu => hmm u (A0.bel hu))) ?_
   refine tk 4 rfl ?_
   refine tk 5 rfl (hy := by (intro u hSw; have s1 := (hSw.cell (p := ⟨gm, 17, none⟩) (by show gm < _; omega)).trans ((A0.cell 17).trans m17); go_simp; try (with_reducible rfl))) ?_
   refine tk 6 rfl ?_
   refine tk 7 rfl (hy := by (intro u hSw; have s1 := (hSw.cell (p := ⟨gm, 18, none⟩) (by show gm < _; omega)).trans ((A0.cell 18).trans m18); go_simp; try (with_reducible rfl))) ?_
   refine tk 8 rfl ?_
   refine tk 9 rfl ?_
   refine tk 12 rfl (hy := by (intro u hSw; have s1 := (hSw.cell (p := ⟨gp, 0, none⟩) (by show gp < _; omega)).trans (P0.cell 0); go_simp; try (with_reducible rfl))) ?_
   refine rd2 10 15 rfl rfl (fun K hK => ?_) (fun K hK => ?_)
   · go_simp
     refine (hlen _).mono ?_
     rintro e wx ⟨rfl, hwx⟩
     replace hwx := hwx.symm
     subst hwx
     go_wp2_with fail
     refine ko hK hHeld (fun hHeld => ?_)
     clear hK K
     refine tk 11 rfl ?_
     refine rd2 13 15 rfl rfl (fun K hK => ?_) (fun K hK => ?_)
     · go_simp
       refine (hroot _ hHeld).mono ?_
       rintro e w5 ⟨rfl, hb5⟩
       have hB5 : Below w1.heap.size w1 w5 := hHeld.trans (hb5.mono hHeld.size)
       go_wp2_with fail
       refine ko hK hB5 (fun hHeld => ?_)
       clear hK K
       refine tl 14 rfl (y_bd (by rfl) 34 #[(0, .tmp 7), (1, .tmp 9), (2, .tmp 11), (3, .tmp 17), (4, .tmp 19)] rfl rfl hbd) ?_
       refine rd 15 rfl (fun K hK => ?_)
       go_simp
       refine ko hK (hHeld.alloc hHeld.size _) (fun hHeld => ?_)
       clear hK K
       refine rd 16 rfl (fun K hK => ?_)
       have hsz5 := hB5.size
       refine step_want rfl (wp_store_row 34 (.tmp 4) (.tmp 20) rfl (w5.heap.size) PF rfl rfl 34 _ (Arr.new w5 34 _) hs34 (by rw [hPs]; rfl) hone ?_)
       refine ko hK (below_setRow (hB5.alloc hB5.size _) (by omega) _) (fun hHeld => ?_)
       clear hK K
       refine dn ?_
       go_wp2_with fail
       go_meet
       exact ⟨_, rfl, (Arr.new w5 34 zP).setRow PF, below_setRow (hB5.alloc hB5.size _) (by omega) _, by omega⟩
     · go_simp
       refine ko hK (hHeld.alloc hHeld.size _) (fun hHeld => ?_)
       clear hK K
       refine rd 13 rfl (fun K hK => ?_)
       go_simp
       refine (hroot _ hHeld).mono ?_
       rintro e w5 ⟨rfl, hb5⟩
       have hB5 : Below w1.heap.size w1 w5 := hHeld.trans (hb5.mono hHeld.size)
       go_wp2_with fail
       refine ko hK hB5 (fun hHeld => ?_)
       clear hK K
       refine tl 14 rfl (y_bd (by rfl) 34 #[(0, .tmp 7), (1, .tmp 9), (2, .tmp 11), (3, .tmp 17), (4, .tmp 19)] rfl rfl hbd) ?_
       refine rd 16 rfl (fun K hK => ?_)
       have a5 : Arr w5 (w.heap.size + 1) 34 zP := by rw [← hw1]; exact (show Arr (w1.drew.alloc (.cells zP 34)) w1.heap.size 34 zP from Arr.new w1.drew 34 zP).bel hb5
       refine step_want rfl (wp_store_row 34 (.tmp 4) (.tmp 20) rfl (w.heap.size + 1) PF rfl rfl 34 _ (a5) hs34 (by rw [hPs]; rfl) hone ?_)
       refine ko hK (below_setRow hB5 (by omega) _) (fun hHeld => ?_)
       clear hK K
       refine dn ?_
       go_wp2_with fail
       go_meet
       exact ⟨_, rfl, (a5).setRow PF, below_setRow hB5 (by omega) _, by omega⟩
   · go_simp
     refine ko hK (hHeld.alloc hHeld.size _) (fun hHeld => ?_)
     clear hK K
     refine rd 10 rfl (fun K hK => ?_)
     go_simp
     refine (hlen _).mono ?_
     rintro e wx ⟨rfl, hwx⟩
     replace hwx := hwx.symm
     subst hwx
     go_wp2_with fail
     refine ko hK hHeld (fun hHeld => ?_)
     clear hK K
     refine tk 11 rfl ?_
     refine rd 13 rfl (fun K hK => ?_)
     go_simp
     refine (hroot _ hHeld).mono ?_
     rintro e w5 ⟨rfl, hb5⟩
     have hB5 : Below w1.heap.size w1 w5 := hHeld.trans (hb5.mono hHeld.size)
     go_wp2_with fail
     refine ko hK hB5 (fun hHeld => ?_)
     clear hK K
     refine tl 14 rfl (y_bd (by rfl) 34 #[(0, .tmp 7), (1, .tmp 9), (2, .tmp 11), (3, .tmp 17), (4, .tmp 19)] rfl rfl hbd) ?_
     refine rd 16 rfl (fun K hK => ?_)
     have a5 : Arr w5 (w.heap.size + 1) 34 zP := by rw [← hw1]; exact (show Arr (w1.drew.alloc (.cells zP 34)) w1.heap.size 34 zP from Arr.new w1.drew 34 zP).bel hb5
     refine step_want rfl (wp_store_row 34 (.tmp 4) (.tmp 20) rfl (w.heap.size + 1) PF rfl rfl 34 _ (a5) hs34 (by rw [hPs]; rfl) hone ?_)
     refine ko hK (below_setRow hB5 (by omega) _) (fun hHeld => ?_)
     clear hK K
     refine dn ?_
     go_wp2_with fail
     go_meet
     exact ⟨_, rfl, (a5).setRow PF, below_setRow hB5 (by omega) _, by omega⟩
 case rest =>
   obtain ⟨g4, rfl, A4, hb6, hsz5⟩ := hcut
   generalize wc = w6 at *
   have B6 : Below w.heap.size w w6 := hb1.trans (hb6.mono (by omega))
   have hs6 : w.heap.size + 1 ≤ w6.heap.size := by have := hb6.size; omega
   have a3 := A3.bel hb6
   have am := hA.bel B6
   have ap := hP.bel B6
   have ak := hK.bel B6
   have me6 := hME.block (w' := w6) (by rintro k (rfl | rfl | rfl) <;> exact B6.block _ (by have := hME.lt; omega))
   have es6 := hES.below (B6.mono (by omega))
   have kp := ap.cell 0
   have kk := ak.cell 0
   change _ = some (Value.pointer (some ⟨gM, 0, none⟩)) at kp
   change _ = some (Value.slice sk nk ck) at kk
   have hl4 := A4.lt
   have hml := hME.lt
   have hWI : IW N B w6.heap.size gM gt ct gl cl d n m2 sk nk ck es (fun b => b < w6.heap.size ∧ b ≠ gM ∧ b ≠ gt ∧ b ≠ gl) ⟨m.me, [], []⟩ (w6.alloc (.cells (wL gM sk nk ck (.slice none 0 0) (.slice none 0 0)) 76)) := by
     have bz := alloc_bel' w6 (.cells (wL gM sk nk ck (.slice none 0 0) (.slice none 0 0)) 76)
     have hl := hME.lt
     refine ⟨.slice none 0 0, .slice none 0 0, [], ⟨Arr.new w6 76 _, AO.nil _ _, Hid.mk' rfl, (fun k h => by simp [Value.ownBlock] at h), (fun e h => by cases h), World.ownsRow_nil _ _ _ _, (fun k h => by simp [Value.ownBlock] at h), Bts.nil, by simp, me6.block (by rintro k (rfl | rfl | rfl) <;> exact bz.block _ (by omega)), hUm, es6.below (bz.mono (by omega)), ⟨fun h => absurd h.1 (Nat.lt_irrefl _), fun h => h.2.1 rfl, fun h => h.2.2.1 rfl, fun h => h.2.2.2 rfl⟩, ⟨by omega, by omega, by omega⟩, ⟨hNB, by omega, hBt, hBl⟩, ?_⟩⟩
     intro b h
     have := h.1
     simp; omega
   have hstp := step_anyK false (v1 := .slice none 0 0) (v2 := .slice none 0 0) (p := p) (w6.alloc (.cells (wL gM sk nk ck (.slice none 0 0) (.slice none 0 0)) 76)) (metW (N := N) (B := B) (gW := w6.heap.size) (gM := gM) (gt := gt) (ct := ct) (gl := gl) (cl := cl) (d := d) (n := n) (m := m2) (sk := sk) (nk := nk) (ck := ck) (es := es)) hWI hp hd hde (Hid.mk' (by show 0 + 200 ≤ 1000; omega))
   rw [hcfg] at hstp
   have b4 := A4.alloc (.cells (wL gM sk nk ck (.slice none 0 0) (.slice none 0 0)) 76)
   rw [hPF] at hstp
   clear hWI me6 es6 hME hES hroot hlen hbd
   cases hsG : stG (hW d es) (2 ^ d) m.bare ⟨m.me, [], []⟩ with
   | none =>
     rw [hsG] at hstp
     replace hstp : Calls Tryz.prog 32 #[.agg PF, .iface 74 (.pointer (some ⟨w6.heap.size, 0, none⟩))] (w6.alloc (.cells (wL gM sk nk ck (.slice none 0 0) (.slice none 0 0)) 76)) fun e w' => e = .panicked (refV 7) ∧ Below B (w6.alloc (.cells (wL gM sk nk ck (.slice none 0 0) (.slice none 0 0)) 76)) w' ∧ Kp (fun b => b < w6.heap.size ∧ b ≠ gM ∧ b ≠ gt ∧ b ≠ gl) (w6.alloc (.cells (wL gM sk nk ck (.slice none 0 0) (.slice none 0 0)) 76)) w' := hstp.mono fun e w' ⟨h1, h2, h3⟩ => by
       rcases h3 with ⟨m', s', sp', n', cap', h4, _⟩ | ⟨_, h5⟩
       · cases h4
       · exact ⟨h5, h1, h2⟩
     unfold wL at *
     go_wp2_with (first
       | (refine atL 34 (.tmp 4) ?_; go_must (refine ldR (by rfl) 34 (.tmp 4) (by rfl) g4 (by rfl) PF b4 Tryz.underlying34 rfl hs34 ?_))
       | (go_at_call 32; go_must (refine hstp.mono ?_; rintro e w7 ⟨rfl, hb7, hk7⟩)))
     exact ⟨rfl, .inl ⟨hsG, rfl, chg3 B6 (alloc_bel' w6 _) hb7 hk7 (by omega) (by omega)⟩⟩
   | some q =>
     obtain ⟨m1, r⟩ := q
     rw [hsG] at hstp
     replace hstp : Calls Tryz.prog 32 #[.agg PF, .iface 74 (.pointer (some ⟨w6.heap.size, 0, none⟩))] (w6.alloc (.cells (wL gM sk nk ck (.slice none 0 0) (.slice none 0 0)) 76)) fun e w' => ∃ C v vp ts, e = .returned (.agg C) ∧ WI N B w6.heap.size gM gt ct gl cl d n m2 sk nk ck es (fun b => b < w6.heap.size ∧ b ≠ gM ∧ b ≠ gt ∧ b ≠ gl) r w' v vp ts ∧ Below B (w6.alloc (.cells (wL gM sk nk ck (.slice none 0 0) (.slice none 0 0)) 76)) w' ∧ Kp (fun b => b < w6.heap.size ∧ b ≠ gM ∧ b ≠ gt ∧ b ≠ gl) (w6.alloc (.cells (wL gM sk nk ck (.slice none 0 0) (.slice none 0 0)) 76)) w' := hstp.mono fun e w' ⟨h1, h2, h3⟩ => by
       rcases h3 with ⟨m1, s', sp', n', cap', h4, h5, h6, h7, v, vp, ts, h8⟩ | ⟨h5, _⟩
       · cases h4
         exact ⟨_, v, vp, ts, h5, h8, h1, h2⟩
       · cases h5
     have a3b := a3.alloc (.cells (wL gM sk nk ck (.slice none 0 0) (.slice none 0 0)) 76)
     have hz3 : (w6.alloc (.cells (wL gM sk nk ck (.slice none 0 0) (.slice none 0 0)) 76)).heap.size = w6.heap.size + 1 := by simp
     have hbA : Below B w6 (w6.alloc (.cells (wL gM sk nk ck (.slice none 0 0) (.slice none 0 0)) 76)) := (Below.refl B w6).alloc (by omega) _
     go_upto_region 3 with fail
     change Code.wp _ _ _ _ (w6.alloc (.cells (wL gM sk nk ck (.slice none 0 0) (.slice none 0 0)) 76))
     generalize hU6 : w6.alloc (.cells (wL gM sk nk ck (.slice none 0 0) (.slice none 0 0)) 76) = U6 at *
     go_upto_region 4 with (first
       | (refine atL 34 (.tmp 4) ?_; go_must (refine ldR (by rfl) 34 (.tmp 4) (by rfl) g4 (by rfl) PF b4 Tryz.underlying34 rfl hs34 ?_))
       | (go_at_call 32; go_must (refine hstp.mono ?_; rintro e w7 ⟨C7, v, vp, ts, rfl, hW7, hb7, hk7⟩)))
     have x4 := b4.kp hk7 ⟨by omega, by omega, by omega, by omega⟩
     have x3 := a3b.kp hk7 ⟨by omega, by omega, by omega, by omega⟩
     obtain ⟨v1, v2, v3, rfl⟩ := hW7.ao.slice
     obtain ⟨p1, p2, p3, rfl⟩ : ∃ a b c, vp = .slice a b c := by
       rcases hW7.pre.2 with ⟨e1, -⟩ | ⟨g, cap, cur, e1, -⟩
       · exact ⟨_, _, _, e1⟩
       · exact ⟨_, _, _, e1⟩
     have q2 := hW7.blk.cell 2
     have q3 := hW7.blk.cell 3
     change _ = some (Value.slice v1 v2 v3) at q2
     change _ = some (Value.slice p1 p2 p3) at q3
     have r51 := (x4.cell 51).trans h51
     have r52 := (x4.cell 52).trans h52
     have z51 := x4.frozen 51
     have z52 := x4.frozen 52
     have hsz7 := hb7.size
     have y4 := (x4.set 51 (.slice v1 v2 v3)).set 52 (.slice p1 p2 p3)
     rw [hset] at y4
     have y3 := (x3.setOther (a := ⟨g4, 51, none⟩) (.slice v1 v2 v3) (show w.heap.size ≠ g4 by omega)).setOther (a := ⟨g4, 52, none⟩) (.slice p1 p2 p3) (show w.heap.size ≠ g4 by omega)
     have hs34' : (Tryz.prog.info? 34).map (·.size) = some ((pfL p (.slice v1 v2 v3) (.slice p1 p2 p3)).toArray).size := by rw [List.size_toArray, pfL_len hp.r16 hp.rt]; exact size34
     have hone' := pfL_one p (v1 := .slice v1 v2 v3) (v2 := .slice p1 p2 p3) rfl rfl
     have hszp : ((pfL p (.slice v1 v2 v3) (.slice p1 p2 p3)).toArray).size = 53 := by rw [List.size_toArray, pfL_len hp.r16 hp.rt]
     have hFa : w.heap.size < w6.heap.size ∧ w.heap.size ≠ gM ∧ w.heap.size ≠ gt ∧ w.heap.size ≠ gl := ⟨by omega, by omega, by omega, by omega⟩
     have hFb : g4 < w6.heap.size ∧ g4 ≠ gM ∧ g4 ≠ gt ∧ g4 ≠ gl := ⟨by omega, by omega, by omega, by omega⟩
     have hWk := hW7.keep (G := fun b => b < w.heap.size ∧ b ≠ gM ∧ b ≠ gt ∧ b ≠ gl) (u' := ((w7.setCell ⟨g4, 51, none⟩ (.slice v1 v2 v3)).setCell ⟨g4, 52, none⟩ (.slice p1 p2 p3)).drew.setRow w.heap.size (pfL p (.slice v1 v2 v3) (.slice p1 p2 p3)).toArray) (below_setRow (((Below.refl B w7).setCell (show B ≤ g4 by omega) _).setCell (show B ≤ g4 by omega) _).drew hBw _) (fun b h1 h2 => (setRow_other _ _ _ _ (fun e => h2 (by rw [e]; exact hFa))).trans ((Below.heap_setCell _ _ _ _ (fun e => h2 (by have e' : b = g4 := e; rw [e']; exact hFb))).trans (Below.heap_setCell _ _ _ _ (fun e => h2 (by have e' : b = g4 := e; rw [e']; exact hFb))))) (fun b h => .inl ⟨by have := h.1; omega, h.2⟩) (fun b h => by have := h.1; simp; omega)
     have hB7 : Chg (G3 gM gt gl) w w7 := chg3 B6 (by rw [← hU6]; exact alloc_bel' w6 _) hb7 hk7 (by omega) (by omega)
     have hBB : Chg (G3 gM gt gl) w (((w7.setCell ⟨g4, 51, none⟩ (.slice v1 v2 v3)).setCell ⟨g4, 52, none⟩ (.slice p1 p2 p3)).drew.setRow w.heap.size (pfL p (.slice v1 v2 v3) (.slice p1 p2 p3)).toArray) := ((hB7.kSet _ (fun h => absurd h (by omega))).kSet _ (fun h => absurd h (by omega))).kDrew.kRow _ (fun h => absurd h (by omega))
     have n1 : ¬ w6.heap.size = g4 := by omega
     have n2 : ¬ g4 = w6.heap.size := by omega
     generalize hPG : (pfL p (.slice v1 v2 v3) (.slice p1 p2 p3)).toArray = PG at *
     clear hstp hW7 hk7
     go_region
     go_wp2_with (first
       | (refine atL 34 (.tmp 4) ?_; go_must (refine ldR (by rfl) 34 (.tmp 4) (by rfl) g4 (by rfl) PG y4 Tryz.underlying34 rfl hs34' ?_))
       | (refine atS 34 (.tmp 3) (.tmp 39) ?_; go_must (refine wpList_store_row (by rfl) 34 (.tmp 3) (.tmp 39) (by rfl) w.heap.size PG (by rfl) (by rfl) 34 _ y3 hs34' (by rw [hszp]; rfl) hone' ?_)))
     exact bodyPost_ret (v := .agg PG) (results_cell_row Tryz.results29 _ _ w.heap.size 34 _ (0, 0) _ rfl (y3.setRow _) Tryz.underlying34 rfl hs34') rfl (.inr ⟨m1, r, _, _, ts, hsG, by rw [hPG], ⟨_, hWk⟩, hBB⟩)
end Go.Proofs.YtagebcbnenehfaaGreat
