/- Kr7A. -/
import Derived.Test.YtagebcbnenehfaaGreatX38
namespace Go.Proofs.YtagebcbnenehfaaGreat
open Go.RowKit
set_option maxRecDepth 100000
set_option linter.unusedVariables false
set_option linter.unusedSimpArgs false
set_option maxHeartbeats 40000000
theorem step_moA (K : Bool) {S : Type} {H : Hd S} {I : (Nat → Prop) → S → World → Prop} {B0 : Nat} {ad : Addr} {PV : List PanicEntry} {F : Nat → Prop} {s : S} {p : Pf} {v1 v2 : Value} {d : Nat} (w : World)
   (M : Met (kfg K) (kfs K) (kfp K) H I B0 (.pointer (some ad)) PV) (hI : I F s w) (h16 : p.rg.length = 16) (h32 : p.rt.length = 32) (hd : d ≤ 12) (hde : p.de = d) (hst : p.st = 0) (hrU : ∀ k, U64 (p.rg.getD k 0)) {o i : Int} {a b c : Nat} {s1 : S} {L' : List Int} (ha : a < 16) (hb : b < 16) (hc : c < 16) (hio : 0 ≤ i ∧ i < 4294967296) (hft : ∀ (F' : Nat → Prop) (u : World) (gm : Nat), I F' s u → F' gm → MW u gm (List.replicate (2 ^ d) 0) → B0 ≤ gm → Calls Tryz.prog 77 #[.agg (mcA (cfg p) (some ⟨gm, 0, none⟩) (2 ^ d) (2 ^ d)), .iface (kty K) (.pointer (some ad))] u fun e w' => e = .returned (.agg (cdA o a b c i)) ∧ Below B0 u w' ∧ Kp (fun b => F' b ∧ b ≠ gm) u w' ∧ MW w' gm L' ∧ I F' s1 w') {r1 q1 q2 : Int} {k : Nat} (htr : tch (cfg p) (2 ^ d) o a b c i = ((r1, (k : Int)), (q1, q2))) (hzk : Hid (¬ k = 0)) (hr1 : 0 ≤ r1) (hrk : 0 < k → r1 + k ≤ 4096) (hk : k ≤ 4096) (hrr : Hid (H.rk s1 + k ≤ 1000)) {s3 : S} {rg' : List Int} (hrg' : rg'.length = 16) {s2 : S} {vs : List Int} (hgn : getN H r1 k s1 = some (vs, s2)) (hmv : ∀ (F' : Nat → Prop) (u : World) (g5 gB : Nat) (sp : Option Addr) (nn cap : Nat), I F' s2 u → F' g5 → F' gB → B0 ≤ g5 → Arr u g5 27 (mcA (cfg p) sp nn cap) → MW u gB vs → (∀ t, U64 (vs.getD t 0)) → Calls Tryz.prog 80 #[.agg (cdA o a b c i), .pointer (some ⟨g5, 1, none⟩), .slice (some ⟨gB, 0, none⟩) k k, .agg (spA (q1, q2)), .iface (kty K) (.pointer (some ad))] u fun e w' => e = .returned (.tuple #[]) ∧ Arr w' g5 27 (mcA { cfg p with rg := rg' } sp nn cap) ∧ Below B0 u w' ∧ Kp (fun b => F' b ∧ b ≠ g5) u w' ∧ I F' s3 w') :
   Calls Tryz.prog 32 #[.agg (pfL p v1 v2).toArray, .iface (kty K) (.pointer (some ad))] w fun e w' => ∃ sp n cap, e = .returned (.agg (mcA { cfg p with pc := IntKind.u64.wrap (p.pc + 1), rg := rg' } sp n cap)) ∧ Below B0 w w' ∧ Kp F w w' ∧ I F s3 w' := by
 cases K
 all_goals
   dsimp only [kty, kfg, kfs, kfp] at *
   have hB0 := M.base F s w hI
   have hFw := M.own F s w hI
   have hr64 : (by64 p.rg).length = 16 := by simp [by64, h16]
   have hbd := built27 p.pc p.rg p.st h16
   have hsz := fun (m : Mc) (h : m.rg.length = 16) => mcA_size h none 0 0
   have hszc := mcA_size (m := cfg p) h16 none 0 0
   have honc := mcA_one (cfg p) none 0 0
   have hszz := mcA_size zM_ok.r16 none 0 0
   have h17 := pfL_at h16 v1 v2 0
   have h18 := pfL_at h16 v1 v2 1
   change _ = some (Value.int .u8 p.st) at h17
   change _ = some (Value.int .i64 p.de) at h18
   rw [hde] at h18
   have B1 := (Arr.new w 34 (pfL p v1 v2).toArray).alloc (.cells (mcA zM none 0 0) 27)
   have k0 := B1.cell 0
   change _ = some (Value.int .u64 p.pc) at k0
   have k17 := (B1.cell 17).trans h17
   have m17 := mcA_17 (m := cfg p) h16 none 0 0
   change _ = some (Value.int .u8 p.st) at m17
   have c17 := ((Arr.new ((w.alloc (.cells (pfL p v1 v2).toArray 34)).alloc (.cells (mcA zM none 0 0) 27)) 27 (mcA (cfg p) none 0 0)).cell 17).trans m17
   simp only [World.size_alloc] at c17
   have mzz : mcA zM none 0 0 = mcA zM none 0 0 := rfl
   have hpf53 : (pfL p v1 v2).toArray.size = 53 := by rw [List.size_toArray, pfL_len h16 h32]
   generalize hPF : (pfL p v1 v2).toArray = PF at *
   have hrgx : ∀ o, (w.alloc (.cells PF 34) |>.alloc o).rangeAt w.heap.size 1 (by64 p.rg) := fun o => pfL_rg (p := p) (v1 := v1) (v2 := v2) (by rw [hPF]; exact (Arr.new w 34 PF).alloc o)
   replace hbd := Hid.mk' hbd
   have hcg : (⟨p.pc, p.rg, p.st, []⟩ : Mc) = cfg p := rfl
   rw [hcg] at hbd
   go_enter Tryz.func32, Tryz.ntmps32
   go_upto_region 1 with fail
   change Code.wp _ _ _ _ ((w.alloc (.cells PF 34)).alloc (.cells (mcA zM none 0 0) 27))
   generalize hZM : mcA zM none 0 0 = ZM at *
   have hne : (p.st != 0) = false := by rw [hst]; rfl
   obtain ⟨i0, hi, hz0, hz1, hz2⟩ := info_parts info26
   have k18 := (((Arr.new w 34 PF).alloc (.cells ZM 27)).alloc (.cells (mcA (cfg p) none 0 0) 27)).cell 18 |>.trans h18
   have hp12 := pow12 hd
   have hmin : min d 64 = d := by omega
   have hd0 : (0 : Int) ≤ d := by omega
   have hpw2 : IntKind.i64.wrap ((2 : Int) ^ d) = ((2 ^ d : Nat) : Int) := by rw [IntKind.wrap_i64, powc]; generalize 2 ^ d = q at *; omega
   clear hst
   go_upto_region 4 with (first
     | (refine atL 23 (.tmp 13) ?_; go_must (refine ldM (by rfl) 23 (.tmp 13) (by rfl) w.heap.size 1 (by rfl) (by64 p.rg) (hrgx _) Tryz.underlying23 rfl (by rw [hr64]; exact size23) ?_))
     | (refine wpList_plain (by rfl) fun K hK => wp_bdT 27 #[(0, .tmp 12), (1, .tmp 14), (2, .tmp 16)] (by rfl) (by rfl) hbd.out (hK _ _ ?_))
     | (refine atS 27 (.tmp 5) (.tmp 17) ?_; go_must (refine st45n (by rfl) (.tmp 5) (.tmp 17) (by rfl) ((w.alloc (.cells PF 34)).alloc (.cells ZM 27)) (w.heap.size + 1 + 1) (by simp) (by rfl) (mcA (cfg p) none 0 0) (by rfl) (by rfl) hszc honc ?_)))
   generalize hN : 2 ^ d = n at *
   go_upto_region 5 with (at_make; go_must (refine wpList_make_row _ (by rfl) (.tmp 24) (.tmp 24) 25 (by rfl) 22 i0 (.int .u64 0) Tryz.underlying25 hi hz0 hz1 rfl .i64 .i64 n (by rfl) (by rfl) (by rw [hz2]; omega) (by omega) ?_))
   rw [mcA_mem (m := cfg p) h16]
   have A2 := (((Arr.new w 34 PF).alloc (.cells ZM 27)).alloc (.cells (mcA (cfg p) (some ⟨w.heap.size + 1 + 1 + 1, 0, none⟩) n n) 27)).alloc (.cells (madeCells #[.int .u64 0] n) 22)
   have A4 := ((Arr.new (w.alloc (.cells PF 34)) 27 ZM).alloc (.cells (mcA (cfg p) (some ⟨w.heap.size + 1 + 1 + 1, 0, none⟩) n n) 27)).alloc (.cells (madeCells #[.int .u64 0] n) 22)
   have A5 := (Arr.new ((w.alloc (.cells PF 34)).alloc (.cells ZM 27)) 27 (mcA (cfg p) (some ⟨w.heap.size + 1 + 1 + 1, 0, none⟩) n n)).alloc (.cells (madeCells #[.int .u64 0] n) 22)
   have Mm := made_mw (((w.alloc (.cells PF 34)).alloc (.cells ZM 27)).alloc (.cells (mcA (cfg p) (some ⟨w.heap.size + 1 + 1 + 1, 0, none⟩) n n) 27)) n
   have BV : Below w.heap.size w ((((w.alloc (.cells PF 34)).alloc (.cells ZM 27)).alloc (.cells (mcA (cfg p) (some ⟨w.heap.size + 1 + 1 + 1, 0, none⟩) n n) 27)).alloc (.cells (madeCells #[.int .u64 0] n) 22)) := (((alloc_bel' w _).alloc (by simp) _).alloc (by simp; omega) _).alloc (by simp; omega) _
   have hVs : ((((w.alloc (.cells PF 34)).alloc (.cells ZM 27)).alloc (.cells (mcA (cfg p) (some ⟨w.heap.size + 1 + 1 + 1, 0, none⟩) n n) 27)).alloc (.cells (madeCells #[.int .u64 0] n) 22)).heap.size = w.heap.size + 4 := by simp
   simp only [World.size_alloc] at A4 A5 Mm
   obtain ⟨G, hG⟩ : ∃ G : Nat → Prop, G = fun b => F b ∨ (w.heap.size ≤ b ∧ b < w.heap.size + 4) := ⟨_, rfl⟩
   have hGF : ∀ b, F b → G b := fun b h => by rw [hG]; exact .inl h
   have hGn : ∀ b, w.heap.size ≤ b → b < w.heap.size + 4 → G b := fun b h1 h2 => by rw [hG]; exact .inr ⟨h1, h2⟩
   have hGo : ∀ b, G b → F b ∨ w.heap.size ≤ b := fun b h => by rw [hG] at h; rcases h with h | h; exact .inl h; exact .inr h.1
   have hGl : ∀ b, G b → b < w.heap.size + 4 := fun b h => by rw [hG] at h; rcases h with h | h; have := hFw b h; omega; exact h.2
   generalize hV : ((((w.alloc (.cells PF 34)).alloc (.cells ZM 27)).alloc (.cells (mcA (cfg p) (some ⟨w.heap.size + 1 + 1 + 1, 0, none⟩) n n) 27)).alloc (.cells (madeCells #[.int .u64 0] n) 22)) = V at *
   have IV : I G s V := M.more hI BV hGo (fun b h => by have := hGl b h; omega)
   have hszm := mcA_size (m := cfg p) h16 (some ⟨w.heap.size + 1 + 1 + 1, 0, none⟩) n n
   have honm := mcA_one (cfg p) (some ⟨w.heap.size + 1 + 1 + 1, 0, none⟩) n n
   clear hV hG k0 k17 k18 c17 B1 hrgx hbd hpw2
   have hftV := hft G V (w.heap.size + 1 + 1 + 1) IV (hGn _ (by omega) (by omega)) Mm (by omega)
   have htc := fun u => touched_any (m := cfg p) (o := o) (sp := some ⟨w.heap.size + 1 + 1 + 1, 0, none⟩) (cap := n) (n := n) u h16 hrU ha hb hc hio hp12
   rw [htr] at htc
   have hcsz : (Tryz.prog.info? 88).map (·.size) = some (cdA o a b c i).size := size88
   have hcone := one88 o a b c i
   have hcs5 : (cdA o a b c i).size = 5 := rfl
   generalize hCD : cdA o a b c i = CD at *
   go_upto_region 6 with (first
     | (refine atL 27 (.tmp 5) ?_; go_must (refine ld45 (by rfl) (.tmp 5) (by rfl) (w.heap.size + 1 + 1) (by rfl) _ hszm A5 ?_))
     | (go_at_call 77; go_must (refine hftV.mono ?_; rintro e w1 ⟨rfl, h1, h2, h3, h4⟩; replace A4 := A4.kp h2 ⟨hGn _ (by omega) (by omega), by omega⟩; replace A5 := A5.kp h2 ⟨hGn _ (by omega) (by omega), by omega⟩; have hs1 := h1.size; have a6 := Arr.new w1 88 CD))
     | (refine atS 88 (.tmp 6) (.tmp 29) ?_; go_must (refine wpList_store_new w1 _ 88 (by rfl) 88 (.tmp 6) (.tmp 29) (by rfl) CD (by rfl) (by rfl) hcsz (by rw [hcs5]; rfl) hcone ?_)))
   have B1 : Below B0 w (w1.alloc (.cells CD 88)) := (BV.mono hB0).trans (h1.alloc (M.base _ _ _ h4) _)
   have K1 : Kp F w (w1.alloc (.cells CD 88)) := ((Kp.of_below BV hFw).trans (h2.mono (fun b h => ⟨hGF b h, by have := hFw b h; omega⟩))).trans (Kp.of_below (alloc_bel' _ _) (fun b h => by have := hFw b h; omega))
   replace A4 := A4.alloc (.cells CD 88)
   replace A5 := A5.alloc (.cells CD 88)
   replace h3 := h3.below (alloc_bel' w1 (.cells CD 88)) h3.lt
   have I1 : I (fun b => G b ∨ b = w1.heap.size) s1 (w1.alloc (.cells CD 88)) := M.more h4 (alloc_bel' _ _) (by rintro b (h | h); exact .inl h; exact .inr (by omega)) (by rintro b (h | h); have := hGl b h; simp; omega; simp; omega)
   generalize hg6 : w1.heap.size = g6 at *
   have hs6 : (w1.alloc (.cells CD 88)).heap.size = g6 + 1 := by rw [World.size_alloc, hg6]
   generalize hV1 : w1.alloc (.cells CD 88) = V1 at *
   clear hftV hft hV1 Mm A2 IV h1 h2 h4
   go_upto_region 7 with (first
     | (refine atL 27 (.tmp 5) ?_; go_must (refine ld45 (by rfl) (.tmp 5) (by rfl) (w.heap.size + 1 + 1) (by rfl) _ hszm A5 ?_))
     | (refine atL 88 (.tmp 6) ?_; go_must (refine ldR (by rfl) 88 (.tmp 6) (by rfl) g6 (by rfl) CD a6 Tryz.underlying88 rfl hcsz ?_))
     | (go_at_call 78; go_must (refine (htc V1).mono ?_; rintro e w2 ⟨rfl, hb2⟩; have a7 := (Arr.new w2 156 #[.int .u64 0, .int .u64 0]).alloc (.cells #[.int .u64 0, .int .u64 0] 156); have a8 := Arr.new (w2.alloc (.cells #[.int .u64 0, .int .u64 0] 156)) 156 #[.int .u64 0, .int .u64 0]; simp only [World.size_alloc] at a8))
     | (refine atS 156 (.tmp 7) (.tmp 34) ?_; go_must (refine wpList_store_row (by rfl) 156 (.tmp 7) (.tmp 34) (by rfl) w2.heap.size (spA (r1, (k : Int))) (by rfl) (by rfl) 156 _ a7 size156 rfl (spA_one _) ?_))
     | (refine atS 156 (.tmp 8) (.tmp 35) ?_; go_must (refine wpList_store_row (by rfl) 156 (.tmp 8) (.tmp 35) (by rfl) (w2.heap.size + 1) (spA (q1, q2)) (by rfl) (by rfl) 156 _ (a8.setRowOther _ (by omega)) size156 rfl (spA_one _) ?_)))
   have b2 : Below V1.heap.size V1 (((w2.alloc (.cells #[.int .u64 0, .int .u64 0] 156)).alloc (.cells #[.int .u64 0, .int .u64 0] 156)).setRow w2.heap.size (spA (r1, (k : Int))) |>.setRow (w2.heap.size + 1) (spA (q1, q2))) := below_setRow (below_setRow ((hb2.alloc hb2.size _).alloc (by have := hb2.size; simp; omega) _) hb2.size _) (by have := hb2.size; omega) _
   replace a7 := (a7.setRow (spA (r1, (k : Int)))).setRowOther (k := w2.heap.size + 1) (spA (q1, q2)) (by omega)
   replace a8 := (a8.setRowOther (k := w2.heap.size) (spA (r1, (k : Int))) (by omega)).setRow (spA (q1, q2))
   have hs2 := hb2.size
   have hs8 : w2.heap.size + 2 ≤ ((((w2.alloc (.cells #[.int .u64 0, .int .u64 0] 156)).alloc (.cells #[.int .u64 0, .int .u64 0] 156)).setRow w2.heap.size (spA (r1, (k : Int)))).setRow (w2.heap.size + 1) (spA (q1, q2))).heap.size := by have := a8.lt; omega
   generalize hg7 : w2.heap.size = g7 at *
   generalize hV2 : (((w2.alloc (.cells #[.int .u64 0, .int .u64 0] 156)).alloc (.cells #[.int .u64 0, .int .u64 0] 156)).setRow g7 (spA (r1, (k : Int)))).setRow (g7 + 1) (spA (q1, q2)) = V2 at *
   have I2 : I (fun b => G b ∨ b = g6 ∨ b = g7 ∨ b = g7 + 1) s1 V2 := M.more I1 b2 (by rintro b (h | h | h | h); exact .inl (.inl h); exact .inl (.inr h); exact .inr (by omega); exact .inr (by omega)) (by rintro b (h | h | h | h); have := hGl b h; omega; omega; omega; omega)
   replace B1 := B1.trans (b2.mono (by omega))
   replace K1 := K1.trans (Kp.of_below b2 (fun b h => by have := hFw b h; omega))
   replace A4 := A4.bel b2
   replace A5 := A5.bel b2
   replace a6 := a6.bel b2
   replace h3 := h3.below b2 h3.lt
   clear hV2 I1 hb2 b2 htc
   have t1 := a7.cell 1
   have t2 := a8.cell 1
   change _ = some (Value.int .u64 (k : Int)) at t1
   change _ = some (Value.int .u64 q2) at t2
   have hz := hzk.out
   have e1 : ((k : Int) == 0) = false := by simp only [beq_eq_false_iff_ne, ne_eq]; omega
   have e1b : (k == 0) = false := by simpa using hz
   clear hz
   go_upto_region 10 with fail
   refine rgn (fun u => Arr u g6 88 CD ∧ Arr u g7 156 (spA (r1, (k : Int))) ∧ Arr u (g7 + 1) 156 (spA (q1, q2))) (⟨a6.drew, a7.drew, a8.drew⟩) (fun hHeld => ?_)
   refine tl 0 rfl (y88 (by rfl) (.tmp 6) rfl g6 rfl CD hcsz (fun u hu => hu.1)) ?_
   refine tk 1 rfl ?_
   refine tl 2 rfl (y156 (by rfl) (.tmp 7) rfl g7 rfl (r1, (k : Int)) (fun u hu => hu.2.1)) ?_
   refine tk 3 rfl ?_
   refine tl 5 rfl (y156 (by rfl) (.tmp 8) rfl (g7 + 1) rfl (q1, q2) (fun u hu => hu.2.2)) ?_
   refine tk 6 rfl ?_
   refine rd 4 rfl (fun K hK => ?_)
   go_simp
   first | refine (bring_s true _ M (M.drw I2) hr1 hrk hk hrr hgn).mono ?_ | refine (bring_s false _ M (M.drw I2) hr1 hrk hk hrr hgn).mono ?_
   rintro e w4 ⟨gB, rfl, x1, x2, x3, x4, x5, x6⟩
   replace x5 : V2.heap.size ≤ gB := x5
   have y6 := (a6.drew).kp x2 (.inr (.inl rfl))
   have y7 := (a7.drew).kp x2 (.inr (.inr (.inl rfl)))
   have y8 := (a8.drew).kp x2 (.inr (.inr (.inr rfl)))
   have y5 := (A5.drew).kp x2 (.inl (hGn _ (by omega) (by omega)))
   have y4 := (A4.drew).kp x2 (.inl (hGn _ (by omega) (by omega)))
   have hmv4 := hmv _ w4 (w.heap.size + 1 + 1) gB _ n n x6 (.inl (.inl (hGn _ (by omega) (by omega)))) (.inr rfl) (by omega) y5 x3 x4
   go_wp2_with fail
   refine ko hK ⟨y6, y7, y8⟩ (fun hHeld => ?_)
   clear hK K
   refine rd 7 rfl (fun K hK => ?_)
   go_simp
   refine hmv4.mono ?_
   rintro e w5 ⟨rfl, z5, z1, z2, z3⟩
   have y4' := y4.kp z2 ⟨.inl (.inl (hGn _ (by omega) (by omega))), by omega⟩
   have y6' := y6.kp z2 ⟨.inl (.inr (.inl rfl)), by omega⟩
   have y7' := y7.kp z2 ⟨.inl (.inr (.inr (.inl rfl))), by omega⟩
   have y8' := y8.kp z2 ⟨.inl (.inr (.inr (.inr rfl))), by omega⟩
   go_wp2_with fail
   refine ko hK ⟨y6', y7', y8'⟩ (fun hHeld => ?_)
   clear hK K
   refine dn ?_
   have B5 : Below B0 w w5 := B1.trans ((Below.refl _ V2).drew.trans (x1.trans z1))
   have K5 : Kp F w w5 := K1.trans (fun b h => (z2 b ⟨.inl (.inl (hGF b h)), by have := hFw b h; omega⟩).trans (x2 b (.inl (hGF b h))))
   have p0 := (z5.cell 0)
   change _ = some (Value.int .u64 p.pc) at p0
   have pf := z5.frozen 0
   have z5' := z5.set 0 (.int .u64 (IntKind.u64.wrap (p.pc + 1)))
   rw [mcA_pc] at z5'
   have y4s := y4'.setOther (a := ⟨w.heap.size + 1 + 1, 0, none⟩) (.int .u64 (IntKind.u64.wrap (p.pc + 1))) (show w.heap.size + 1 ≠ w.heap.size + 1 + 1 by omega)
   have hszx := mcA_size (m := { cfg p with pc := IntKind.u64.wrap (p.pc + 1), rg := rg' }) hrg' (some ⟨w.heap.size + 1 + 1 + 1, 0, none⟩) n n
   have honx := mcA_one { cfg p with pc := IntKind.u64.wrap (p.pc + 1), rg := rg' } (some ⟨w.heap.size + 1 + 1 + 1, 0, none⟩) n n
   change Arr _ _ _ (mcA { cfg p with pc := IntKind.u64.wrap (p.pc + 1), rg := rg' } (some ⟨w.heap.size + 1 + 1 + 1, 0, none⟩) n n) at z5'
   generalize hX : mcA { cfg p with pc := IntKind.u64.wrap (p.pc + 1), rg := rg' } (some ⟨w.heap.size + 1 + 1 + 1, 0, none⟩) n n = XX at *
   go_wp2_with (first
     | (refine atL 27 (.tmp 5) ?_; go_must (refine ld45 (by rfl) (.tmp 5) (by rfl) (w.heap.size + 1 + 1) (by rfl) _ hszx z5' ?_))
     | (refine atS 27 (.tmp 4) (.tmp 62) ?_; go_must (refine st45 (by rfl) (.tmp 4) (.tmp 62) (by rfl) (w.heap.size + 1) XX (by rfl) (by rfl) hszx honx _ hszz y4s ?_)))
   have hbr : Below w.heap.size w5 ((w5.setCell ⟨w.heap.size + 1 + 1, 0, none⟩ (.int .u64 (IntKind.u64.wrap (p.pc + 1)))).setRow (w.heap.size + 1) XX) := below_setRow ((Below.refl _ _).setCell (by show w.heap.size ≤ w.heap.size + 1 + 1; omega) _) (by omega) _
   refine bodyPost_ret (v := .agg XX) (results_cell_row Tryz.results32 _ _ (w.heap.size + 1) 27 _ (0, 0) _ rfl (y4s.setRow _) Tryz.underlying27 rfl (by rw [hszx]; exact size45)) rfl ⟨⟨_, n, n, by rw [hX]⟩, B5.trans (hbr.mono hB0), K5.trans (fun b h => hbr.block b (hFw b h)), ?_⟩
   refine M.keep _ _ s3 _ _ z3 (hbr.mono hB0) (fun b k1 k2 => ?_) (fun b h => .inl (.inl (.inl (hGF b h)))) (fun b h => by have := hFw b h; have := hbr.size; have := B5.size; omega)
   have hne1 : b ≠ w.heap.size + 1 := fun e => k2 (.inl (.inl (hGn b (by omega) (by omega))))
   have hne2 : b ≠ w.heap.size + 1 + 1 := fun e => k2 (.inl (.inl (hGn b (by omega) (by omega))))
   exact (setRow_other _ _ _ _ hne1).trans (Below.heap_setCell _ _ _ _ hne2)
end Go.Proofs.YtagebcbnenehfaaGreat
