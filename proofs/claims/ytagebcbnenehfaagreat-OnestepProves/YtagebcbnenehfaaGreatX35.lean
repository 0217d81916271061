/- Kp1. -/
import Derived.Test.YtagebcbnenehfaaGreatX34
namespace Go.Proofs.YtagebcbnenehfaaGreat
open Go.RowKit
set_option maxRecDepth 100000
set_option linter.unusedVariables false
set_option linter.unusedSimpArgs false
set_option maxHeartbeats 40000000
theorem nahP (K : Bool) (ad : Addr) (u : World) : (nilAhead 417 (kty K) (.pointer (some ad)) "proctor/onestep.preimage").run Tryz.prog u = .ok (some false) u := by cases K <;> kernel_rfl
theorem move24n_ (K : Bool) {S : Type} {H : Hd S} {I : (Nat → Prop) → S → World → Prop} {B0 : Nat} {ad : Addr} {PV : List PanicEntry} {F : Nat → Prop} {s : S} {m : Mc} {sp : Option Addr} {n cap : Nat} {a b c : Nat} {i : Int} {g5 gB : Nat} {vs : List Int} {q : Int × Int} (w : World)
   (M : Met (kfg K) (kfs K) (kfp K) H I B0 (.pointer (some ad)) PV) (hI : I F s w) (hF : F g5) (hg5 : B0 ≤ g5) (hA : Arr w g5 27 (mcA m sp n cap)) (h16 : m.rg.length = 16) (hU : ∀ k, U64 (m.rg.getD k 0)) (ha : a < 16) (hb : b < 16) (hc : c < 16) (hM : MW w gB vs) (hFB : F gB) (hk : vs.length = 4) (hg : H.pm (fmL (fun t => vs.getD t 0)) s = none) :
   Calls Tryz.prog 80 #[.agg (cdA 24 a b c i), .pointer (some ⟨g5, 1, none⟩), .slice (some ⟨gB, 0, none⟩) 4 4, sp2 q, .iface (kty K) (.pointer (some ad))] w fun e w' => e = .panicked PV ∧ Below B0 w w' ∧ Kp F w w' := by
 have hna := nahP K ad
 cases K
 all_goals
   dsimp only [kty, kfg, kfs, kfp] at *
   have hB0 := M.base F s w hI
   have hFw := M.own F s w hI
   have hlt := hA.lt
   have haI : (a : Int) < 16 := by omega
   have hcI : (c : Int) < 16 := by omega
   have b0 : Below w.heap.size w ((w.alloc (.cells #[.int .u8 24, .int .u8 a, .int .u8 b, .int .u8 c, .int .u32 i] 88)).alloc (.cells #[.int .u64 q.1, .int .u64 q.2] 156)) := (alloc_bel' w _).alloc (by simp) _
   have z1 : (((w.alloc (.cells #[.int .u8 24, .int .u8 a, .int .u8 b, .int .u8 c, .int .u32 i] 88)).alloc (.cells #[.int .u64 q.1, .int .u64 q.2] 156))).cell? ⟨w.heap.size, 1, none⟩ = some (.int .u8 (a : Int)) := ((Arr.new w 88 #[.int .u8 24, .int .u8 (a : Int), .int .u8 b, .int .u8 c, .int .u32 i]).alloc _).cell 1
   have z3 : (((w.alloc (.cells #[.int .u8 24, .int .u8 a, .int .u8 b, .int .u8 c, .int .u32 i] 88)).alloc (.cells #[.int .u64 q.1, .int .u64 q.2] 156))).cell? ⟨w.heap.size, 3, none⟩ = some (.int .u8 (c : Int)) := ((Arr.new w 88 #[.int .u8 24, .int .u8 (a : Int), .int .u8 b, .int .u8 c, .int .u32 i]).alloc _).cell 3
   obtain ⟨G, hG⟩ : ∃ G : Nat → Prop, G = fun b => F b ∨ (w.heap.size ≤ b ∧ b < w.heap.size + 2) := ⟨_, rfl⟩
   have hGF : ∀ b, F b → G b := fun b h => by rw [hG]; exact .inl h
   have hGw : G w.heap.size := by rw [hG]; exact .inr ⟨Nat.le_refl _, by omega⟩
   have hI0 : I G s (((w.alloc (.cells #[.int .u8 24, .int .u8 a, .int .u8 b, .int .u8 c, .int .u32 i] 88)).alloc (.cells #[.int .u64 q.1, .int .u64 q.2] 156))) := M.more hI b0 (by rw [hG]; rintro b (h | h); exact .inl h; exact .inr h.1) (by rw [hG]; rintro b (h | h); have := hFw b h; simp; omega; simp; omega)
   have hA0 := hA.below b0 hlt
   have hM0 := hM.below b0 hM.lt
   have hUc := hU c
   have hrg : m.get c = m.rg.getD c 0 := rfl
   try rw [hrg] at *
   have hrc := mcA_reg (sp := sp) (n := n) (cap := cap) h16 hc
   have hra : ∃ xa, (mcA m sp n cap)[1 + a]? = some (.int .u64 xa) := ⟨_, mcA_reg h16 ha⟩
   have hset := fun v => mcA_set (m := m) (sp := sp) (n := n) (cap := cap) h16 ha v
   generalize m.rg.getD c 0 = xc at *
   obtain ⟨xa, hra⟩ := hra
   clear hA hM hrg hG
   unfold cdA sp2
   go_enter Tryz.func80, Tryz.ntmps80
   go_upto_region 14 with fail
   generalize hV : ((w.alloc (.cells #[.int .u8 24, .int .u8 a, .int .u8 b, .int .u8 c, .int .u32 i] 88)).alloc (.cells #[.int .u64 q.1, .int .u64 q.2] 156)) = V at *
   have K0 : Kp G V V.drew := fun b _ => rfl
   have B_0 : Below B0 V V.drew := (Below.refl _ V).drew
   have I0 := M.drw hI0
   refine rgn (fun u => u.cell? ⟨w.heap.size, 1, none⟩ = some (.int .u8 (a : Int)) ∧ u.cell? ⟨w.heap.size, 3, none⟩ = some (.int .u8 (c : Int))) (⟨z1, z3⟩) (fun hHeld => ?_)
   refine tk 0 rfl ?_
   refine tk 1 rfl ?_
   refine tk2 2 rfl ?_
   refine tk 3 rfl ?_
   refine tk 4 rfl ?_
   refine tk 6 rfl ?_
   refine tk 7 rfl ?_
   refine tk 8 rfl ?_
   refine tk 10 rfl ?_
   refine tk 11 rfl ?_
   refine tk2 12 rfl ?_
   refine tk 13 rfl ?_
   refine tk 14 rfl ?_
   refine tk 17 rfl ?_
   refine rd2 5 15 rfl rfl (fun K hK => ?_) (fun K hK => ?_)
   · go_simp
     refine (sumIn_any _ (hM0.kp K0 (hGF _ hFB)) hk).mono ?_
     rintro e u1 ⟨rfl, hb1⟩
     have K1 := K0.trans (Kp.of_below hb1 (M.own _ _ _ I0))
     have B_1 := B_0.trans (hb1.mono (M.base _ _ _ I0))
     have I1 := M.more I0 hb1 (fun b h => .inl h) (fun b h => Nat.lt_of_lt_of_le (M.own _ _ _ I0 b h) hb1.size)
     go_wp2_with fail
     refine ko hK ⟨K1.cell hGw z1, K1.cell hGw z3⟩ (fun hHeld => ?_)
     clear hK K
     refine rd2 9 15 rfl rfl (fun K hK => ?_) (fun K hK => ?_)
     · go_simp
       go_invoke
       go_simp
       refine (M.pre_n I1 (fmL_len _) hg).mono ?_
       rintro e u2 ⟨rfl, h1, h2⟩
       exact ⟨rfl, rfl, (b0.mono hB0).trans (B_1.trans h1), (Kp.of_below b0 hFw).trans ((K1.trans h2).mono hGF)⟩
     · have hrl := (hA0.kp K1 (hGF _ hF)).cell (1 + c)
       rw [hrc] at hrl
       go_simp
       refine hK.out _ _ ⟨K1.cell hGw z1, K1.cell hGw z3⟩ (fun hHeld => ?_)
       clear hK K hrl
       try simp only [Act.put, List.setIfInBounds_toArray, List.set_cons_zero, List.set_cons_succ]
       refine rd 9 rfl (fun K hK => ?_)
       go_simp
       go_invoke
       go_simp
       refine (M.pre_n I1 (fmL_len _) hg).mono ?_
       rintro e u2 ⟨rfl, h1, h2⟩
       exact ⟨rfl, rfl, (b0.mono hB0).trans (B_1.trans h1), (Kp.of_below b0 hFw).trans ((K1.trans h2).mono hGF)⟩
   · have hrl := (hA0.kp K0 (hGF _ hF)).cell (1 + c)
     rw [hrc] at hrl
     go_simp
     refine hK.out _ _ ⟨K0.cell hGw z1, K0.cell hGw z3⟩ (fun hHeld => ?_)
     clear hK K hrl
     try simp only [Act.put, List.setIfInBounds_toArray, List.set_cons_zero, List.set_cons_succ]
     refine rd 5 rfl (fun K hK => ?_)
     go_simp
     refine (sumIn_any _ (hM0.kp K0 (hGF _ hFB)) hk).mono ?_
     rintro e u1 ⟨rfl, hb1⟩
     have K1 := K0.trans (Kp.of_below hb1 (M.own _ _ _ I0))
     have B_1 := B_0.trans (hb1.mono (M.base _ _ _ I0))
     have I1 := M.more I0 hb1 (fun b h => .inl h) (fun b h => Nat.lt_of_lt_of_le (M.own _ _ _ I0 b h) hb1.size)
     go_wp2_with fail
     refine ko hK ⟨K1.cell hGw z1, K1.cell hGw z3⟩ (fun hHeld => ?_)
     clear hK K
     refine rd 9 rfl (fun K hK => ?_)
     go_simp
     go_invoke
     go_simp
     refine (M.pre_n I1 (fmL_len _) hg).mono ?_
     rintro e u2 ⟨rfl, h1, h2⟩
     exact ⟨rfl, rfl, (b0.mono hB0).trans (B_1.trans h1), (Kp.of_below b0 hFw).trans ((K1.trans h2).mono hGF)⟩
theorem move24s_ (K : Bool) {S : Type} {H : Hd S} {I : (Nat → Prop) → S → World → Prop} {B0 : Nat} {ad : Addr} {PV : List PanicEntry} {F : Nat → Prop} {s : S} {m : Mc} {sp : Option Addr} {n cap : Nat} {a b c : Nat} {i : Int} {g5 gB : Nat} {vs : List Int} {q : Int × Int} (w : World)
   (M : Met (kfg K) (kfs K) (kfp K) H I B0 (.pointer (some ad)) PV) (hI : I F s w) (hF : F g5) (hg5 : B0 ≤ g5) (hA : Arr w g5 27 (mcA m sp n cap)) (h16 : m.rg.length = 16) (hU : ∀ k, U64 (m.rg.getD k 0)) (ha : a < 16) (hb : b < 16) (hc : c < 16) (hM : MW w gB vs) (hFB : F gB) (hk : vs.length = 4) {s1 : S} {bs : List Int} (hg : H.pm (fmL (fun t => vs.getD t 0)) s = some (bs, s1)) :
   Calls Tryz.prog 80 #[.agg (cdA 24 a b c i), .pointer (some ⟨g5, 1, none⟩), .slice (some ⟨gB, 0, none⟩) 4 4, sp2 q, .iface (kty K) (.pointer (some ad))] w fun e w' => e = .returned (.tuple #[]) ∧ Arr w' g5 27 (mcA { m with rg := m.rg.set a (pcN bs (m.get c).toNat 8) } sp n cap) ∧ Below B0 w w' ∧ Kp (fun b => F b ∧ b ≠ g5) w w' ∧ I F s1 w' := by
 have hna := nahP K ad
 cases K
 all_goals
   dsimp only [kty, kfg, kfs, kfp] at *
   have hB0 := M.base F s w hI
   have hFw := M.own F s w hI
   have hlt := hA.lt
   have haI : (a : Int) < 16 := by omega
   have hcI : (c : Int) < 16 := by omega
   have b0 : Below w.heap.size w ((w.alloc (.cells #[.int .u8 24, .int .u8 a, .int .u8 b, .int .u8 c, .int .u32 i] 88)).alloc (.cells #[.int .u64 q.1, .int .u64 q.2] 156)) := (alloc_bel' w _).alloc (by simp) _
   have z1 : (((w.alloc (.cells #[.int .u8 24, .int .u8 a, .int .u8 b, .int .u8 c, .int .u32 i] 88)).alloc (.cells #[.int .u64 q.1, .int .u64 q.2] 156))).cell? ⟨w.heap.size, 1, none⟩ = some (.int .u8 (a : Int)) := ((Arr.new w 88 #[.int .u8 24, .int .u8 (a : Int), .int .u8 b, .int .u8 c, .int .u32 i]).alloc _).cell 1
   have z3 : (((w.alloc (.cells #[.int .u8 24, .int .u8 a, .int .u8 b, .int .u8 c, .int .u32 i] 88)).alloc (.cells #[.int .u64 q.1, .int .u64 q.2] 156))).cell? ⟨w.heap.size, 3, none⟩ = some (.int .u8 (c : Int)) := ((Arr.new w 88 #[.int .u8 24, .int .u8 (a : Int), .int .u8 b, .int .u8 c, .int .u32 i]).alloc _).cell 3
   obtain ⟨G, hG⟩ : ∃ G : Nat → Prop, G = fun b => F b ∨ (w.heap.size ≤ b ∧ b < w.heap.size + 2) := ⟨_, rfl⟩
   have hGF : ∀ b, F b → G b := fun b h => by rw [hG]; exact .inl h
   have hGw : G w.heap.size := by rw [hG]; exact .inr ⟨Nat.le_refl _, by omega⟩
   have hI0 : I G s (((w.alloc (.cells #[.int .u8 24, .int .u8 a, .int .u8 b, .int .u8 c, .int .u32 i] 88)).alloc (.cells #[.int .u64 q.1, .int .u64 q.2] 156))) := M.more hI b0 (by rw [hG]; rintro b (h | h); exact .inl h; exact .inr h.1) (by rw [hG]; rintro b (h | h); have := hFw b h; simp; omega; simp; omega)
   have hA0 := hA.below b0 hlt
   have hM0 := hM.below b0 hM.lt
   have hUc := hU c
   have hrg : m.get c = m.rg.getD c 0 := rfl
   try rw [hrg] at *
   have hrc := mcA_reg (sp := sp) (n := n) (cap := cap) h16 hc
   have hra : ∃ xa, (mcA m sp n cap)[1 + a]? = some (.int .u64 xa) := ⟨_, mcA_reg h16 ha⟩
   have hset := fun v => mcA_set (m := m) (sp := sp) (n := n) (cap := cap) h16 ha v
   generalize m.rg.getD c 0 = xc at *
   obtain ⟨xa, hra⟩ := hra
   clear hA hM hrg hG
   unfold cdA sp2
   go_enter Tryz.func80, Tryz.ntmps80
   go_upto_region 14 with fail
   generalize hV : ((w.alloc (.cells #[.int .u8 24, .int .u8 a, .int .u8 b, .int .u8 c, .int .u32 i] 88)).alloc (.cells #[.int .u64 q.1, .int .u64 q.2] 156)) = V at *
   have K0 : Kp G V V.drew := fun b _ => rfl
   have B_0 : Below B0 V V.drew := (Below.refl _ V).drew
   have I0 := M.drw hI0
   refine rgn (fun u => u.cell? ⟨w.heap.size, 1, none⟩ = some (.int .u8 (a : Int)) ∧ u.cell? ⟨w.heap.size, 3, none⟩ = some (.int .u8 (c : Int))) (⟨z1, z3⟩) (fun hHeld => ?_)
   refine tk 0 rfl ?_
   refine tk 1 rfl ?_
   refine tk2 2 rfl ?_
   refine tk 3 rfl ?_
   refine tk 4 rfl ?_
   refine tk 6 rfl ?_
   refine tk 7 rfl ?_
   refine tk 8 rfl ?_
   refine tk 10 rfl ?_
   refine tk 11 rfl ?_
   refine tk2 12 rfl ?_
   refine tk 13 rfl ?_
   refine tk 14 rfl ?_
   refine tk 17 rfl ?_
   refine rd2 5 15 rfl rfl (fun K hK => ?_) (fun K hK => ?_)
   · go_simp
     refine (sumIn_any _ (hM0.kp K0 (hGF _ hFB)) hk).mono ?_
     rintro e u1 ⟨rfl, hb1⟩
     have K1 := K0.trans (Kp.of_below hb1 (M.own _ _ _ I0))
     have B_1 := B_0.trans (hb1.mono (M.base _ _ _ I0))
     have I1 := M.more I0 hb1 (fun b h => .inl h) (fun b h => Nat.lt_of_lt_of_le (M.own _ _ _ I0 b h) hb1.size)
     go_wp2_with fail
     refine ko hK ⟨K1.cell hGw z1, K1.cell hGw z3⟩ (fun hHeld => ?_)
     clear hK K
     refine rd2 9 15 rfl rfl (fun K hK => ?_) (fun K hK => ?_)
     · go_simp
       go_invoke
       go_simp
       refine (M.pre_s I1 (fmL_len _) hg).mono ?_
       rintro e u2 ⟨spp, np, cp, rfl, hBS, h1, h2, I2⟩
       have K2 := K1.trans h2
       have B_2 := B_1.trans h1
       go_wp2_with fail
       refine ko hK ⟨K2.cell hGw z1, K2.cell hGw z3⟩ (fun hHeld => ?_)
       clear hK K
       refine rd 15 rfl (fun K hK => ?_)
       have hrl := (hA0.kp K2 (hGF _ hF)).cell (1 + c)
       rw [hrc] at hrl
       go_simp
       refine hK.out _ _ ⟨K2.cell hGw z1, K2.cell hGw z3⟩ (fun hHeld => ?_)
       clear hK K hrl
       try simp only [Act.put, List.setIfInBounds_toArray, List.set_cons_zero, List.set_cons_succ]
       refine rd 16 rfl (fun K hK => ?_)
       go_simp
       refine (eigF_any _ hBS hUc).mono ?_
       rintro e u3 ⟨rfl, hb3⟩
       have K3 := K2.trans (Kp.of_below hb3 (M.own _ _ _ I2))
       have B_3 := B_2.trans (hb3.mono (M.base _ _ _ I2))
       have I3 := M.more I2 hb3 (fun b h => .inl h) (fun b h => Nat.lt_of_lt_of_le (M.own _ _ _ I2 b h) hb3.size)
       go_wp2_with fail
       refine ko hK ⟨K3.cell hGw z1, K3.cell hGw z3⟩ (fun hHeld => ?_)
       clear hK K
       refine tk 18 rfl ?_
       have hAk := hA0.kp K3 (hGF _ hF)
       have hcl := hAk.cell (1 + a)
       rw [hra] at hcl
       have hfz := hAk.frozen (1 + a)
       refine rd 19 rfl (fun K hK => ?_)
       go_simp
       have hst := hAk.set (1 + a) (.int .u64 (pcN bs xc.toNat 8))
       rw [hset] at hst
       refine ko hK ⟨(cell_set_ne _ (fun e => by injection e with e1 _ _; omega)).trans (K3.cell hGw z1), (cell_set_ne _ (fun e => by injection e with e1 _ _; omega)).trans (K3.cell hGw z3)⟩ (fun hHeld => ?_)
       clear hK K
       refine dn ?_
       obtain ⟨f1, f2, f3⟩ := mv_fin (j := 1 + a) M I3 (hGF _ hF) hg5 (Below.refl _ u3) (.int .u64 (pcN bs xc.toNat 8))
       generalize (u3.setCell ⟨g5, 1 + a, none⟩ (.int .u64 (pcN bs xc.toNat 8))) = U at *
       go_wp2_with fail
       exact ⟨rfl, _, results_none Tryz.results80 _ _ _, rfl, hst, (b0.mono hB0).trans (B_3.trans f1), (Kp.of_below b0 (fun b h => hFw b h.1)).trans ((K3.mono (fun b h => hGF b h.1)).trans (f2.mono (fun b h => ⟨hGF b h.1, h.2⟩))), M.keep _ _ s1 _ _ f3 (Below.refl _ _) (fun b _ _ => rfl) (fun b h => .inl (hGF b h)) (fun b h => M.own _ _ _ f3 b (hGF b h))⟩
     · have hrl := (hA0.kp K1 (hGF _ hF)).cell (1 + c)
       rw [hrc] at hrl
       go_simp
       refine hK.out _ _ ⟨K1.cell hGw z1, K1.cell hGw z3⟩ (fun hHeld => ?_)
       clear hK K hrl
       try simp only [Act.put, List.setIfInBounds_toArray, List.set_cons_zero, List.set_cons_succ]
       refine rd 9 rfl (fun K hK => ?_)
       go_simp
       go_invoke
       go_simp
       refine (M.pre_s I1 (fmL_len _) hg).mono ?_
       rintro e u2 ⟨spp, np, cp, rfl, hBS, h1, h2, I2⟩
       have K2 := K1.trans h2
       have B_2 := B_1.trans h1
       go_wp2_with fail
       refine ko hK ⟨K2.cell hGw z1, K2.cell hGw z3⟩ (fun hHeld => ?_)
       clear hK K
       refine rd 16 rfl (fun K hK => ?_)
       go_simp
       refine (eigF_any _ hBS hUc).mono ?_
       rintro e u3 ⟨rfl, hb3⟩
       have K3 := K2.trans (Kp.of_below hb3 (M.own _ _ _ I2))
       have B_3 := B_2.trans (hb3.mono (M.base _ _ _ I2))
       have I3 := M.more I2 hb3 (fun b h => .inl h) (fun b h => Nat.lt_of_lt_of_le (M.own _ _ _ I2 b h) hb3.size)
       go_wp2_with fail
       refine ko hK ⟨K3.cell hGw z1, K3.cell hGw z3⟩ (fun hHeld => ?_)
       clear hK K
       refine tk 18 rfl ?_
       have hAk := hA0.kp K3 (hGF _ hF)
       have hcl := hAk.cell (1 + a)
       rw [hra] at hcl
       have hfz := hAk.frozen (1 + a)
       refine rd 19 rfl (fun K hK => ?_)
       go_simp
       have hst := hAk.set (1 + a) (.int .u64 (pcN bs xc.toNat 8))
       rw [hset] at hst
       refine ko hK ⟨(cell_set_ne _ (fun e => by injection e with e1 _ _; omega)).trans (K3.cell hGw z1), (cell_set_ne _ (fun e => by injection e with e1 _ _; omega)).trans (K3.cell hGw z3)⟩ (fun hHeld => ?_)
       clear hK K
       refine dn ?_
       obtain ⟨f1, f2, f3⟩ := mv_fin (j := 1 + a) M I3 (hGF _ hF) hg5 (Below.refl _ u3) (.int .u64 (pcN bs xc.toNat 8))
       generalize (u3.setCell ⟨g5, 1 + a, none⟩ (.int .u64 (pcN bs xc.toNat 8))) = U at *
       go_wp2_with fail
       exact ⟨rfl, _, results_none Tryz.results80 _ _ _, rfl, hst, (b0.mono hB0).trans (B_3.trans f1), (Kp.of_below b0 (fun b h => hFw b h.1)).trans ((K3.mono (fun b h => hGF b h.1)).trans (f2.mono (fun b h => ⟨hGF b h.1, h.2⟩))), M.keep _ _ s1 _ _ f3 (Below.refl _ _) (fun b _ _ => rfl) (fun b h => .inl (hGF b h)) (fun b h => M.own _ _ _ f3 b (hGF b h))⟩
   · have hrl := (hA0.kp K0 (hGF _ hF)).cell (1 + c)
     rw [hrc] at hrl
     go_simp
     refine hK.out _ _ ⟨K0.cell hGw z1, K0.cell hGw z3⟩ (fun hHeld => ?_)
     clear hK K hrl
     try simp only [Act.put, List.setIfInBounds_toArray, List.set_cons_zero, List.set_cons_succ]
     refine rd 5 rfl (fun K hK => ?_)
     go_simp
     refine (sumIn_any _ (hM0.kp K0 (hGF _ hFB)) hk).mono ?_
     rintro e u1 ⟨rfl, hb1⟩
     have K1 := K0.trans (Kp.of_below hb1 (M.own _ _ _ I0))
     have B_1 := B_0.trans (hb1.mono (M.base _ _ _ I0))
     have I1 := M.more I0 hb1 (fun b h => .inl h) (fun b h => Nat.lt_of_lt_of_le (M.own _ _ _ I0 b h) hb1.size)
     go_wp2_with fail
     refine ko hK ⟨K1.cell hGw z1, K1.cell hGw z3⟩ (fun hHeld => ?_)
     clear hK K
     refine rd 9 rfl (fun K hK => ?_)
     go_simp
     go_invoke
     go_simp
     refine (M.pre_s I1 (fmL_len _) hg).mono ?_
     rintro e u2 ⟨spp, np, cp, rfl, hBS, h1, h2, I2⟩
     have K2 := K1.trans h2
     have B_2 := B_1.trans h1
     go_wp2_with fail
     refine ko hK ⟨K2.cell hGw z1, K2.cell hGw z3⟩ (fun hHeld => ?_)
     clear hK K
     refine rd 16 rfl (fun K hK => ?_)
     go_simp
     refine (eigF_any _ hBS hUc).mono ?_
     rintro e u3 ⟨rfl, hb3⟩
     have K3 := K2.trans (Kp.of_below hb3 (M.own _ _ _ I2))
     have B_3 := B_2.trans (hb3.mono (M.base _ _ _ I2))
     have I3 := M.more I2 hb3 (fun b h => .inl h) (fun b h => Nat.lt_of_lt_of_le (M.own _ _ _ I2 b h) hb3.size)
     go_wp2_with fail
     refine ko hK ⟨K3.cell hGw z1, K3.cell hGw z3⟩ (fun hHeld => ?_)
     clear hK K
     refine tk 18 rfl ?_
     have hAk := hA0.kp K3 (hGF _ hF)
     have hcl := hAk.cell (1 + a)
     rw [hra] at hcl
     have hfz := hAk.frozen (1 + a)
     refine rd 19 rfl (fun K hK => ?_)
     go_simp
     have hst := hAk.set (1 + a) (.int .u64 (pcN bs xc.toNat 8))
     rw [hset] at hst
     refine ko hK ⟨(cell_set_ne _ (fun e => by injection e with e1 _ _; omega)).trans (K3.cell hGw z1), (cell_set_ne _ (fun e => by injection e with e1 _ _; omega)).trans (K3.cell hGw z3)⟩ (fun hHeld => ?_)
     clear hK K
     refine dn ?_
     obtain ⟨f1, f2, f3⟩ := mv_fin (j := 1 + a) M I3 (hGF _ hF) hg5 (Below.refl _ u3) (.int .u64 (pcN bs xc.toNat 8))
     generalize (u3.setCell ⟨g5, 1 + a, none⟩ (.int .u64 (pcN bs xc.toNat 8))) = U at *
     go_wp2_with fail
     exact ⟨rfl, _, results_none Tryz.results80 _ _ _, rfl, hst, (b0.mono hB0).trans (B_3.trans f1), (Kp.of_below b0 (fun b h => hFw b h.1)).trans ((K3.mono (fun b h => hGF b h.1)).trans (f2.mono (fun b h => ⟨hGF b h.1, h.2⟩))), M.keep _ _ s1 _ _ f3 (Below.refl _ _) (fun b _ _ => rfl) (fun b h => .inl (hGF b h)) (fun b h => M.own _ _ _ f3 b (hGF b h))⟩
end Go.Proofs.YtagebcbnenehfaaGreat
