/- Kp2, Kq, Kr1, Kr2. -/
import Derived.Test.YtagebcbnenehfaaGreatX35
namespace Go.Proofs.YtagebcbnenehfaaGreat
open Go.RowKit
set_option maxRecDepth 100000
set_option linter.unusedVariables false
set_option linter.unusedSimpArgs false
set_option maxHeartbeats 40000000
theorem move25n_ (K : Bool) {S : Type} {H : Hd S} {I : (Nat → Prop) → S → World → Prop} {B0 : Nat} {ad : Addr} {PV : List PanicEntry} {F : Nat → Prop} {s : S} {m : Mc} {sp : Option Addr} {n cap : Nat} {a b c : Nat} {i : Int} {g5 gB : Nat} {vs : List Int} {q : Int × Int} (w : World)
   (M : Met (kfg K) (kfs K) (kfp K) H I B0 (.pointer (some ad)) PV) (hI : I F s w) (hF : F g5) (hg5 : B0 ≤ g5) (hA : Arr w g5 27 (mcA m sp n cap)) (h16 : m.rg.length = 16) (hU : ∀ k, U64 (m.rg.getD k 0)) (ha : a < 16) (hb : b < 16) (hc : c < 16) (hM : MW w gB vs) (hFB : F gB) (hk : vs.length = 4) (hg : H.pm (fmL (fun t => vs.getD t 0)) s = none) :
   Calls Tryz.prog 80 #[.agg (cdA 25 a b c i), .pointer (some ⟨g5, 1, none⟩), .slice (some ⟨gB, 0, none⟩) 4 4, sp2 q, .iface (kty K) (.pointer (some ad))] w fun e w' => e = .panicked PV ∧ Below B0 w w' ∧ Kp F w w' := by
 have hna := nahP K ad
 cases K
 all_goals
   dsimp only [kty, kfg, kfs, kfp] at *
   have hB0 := M.base F s w hI
   have hFw := M.own F s w hI
   have hlt := hA.lt
   have haI : (a : Int) < 16 := by omega
   have hcI : (c : Int) < 16 := by omega
   have b0 : Below w.heap.size w ((w.alloc (.cells #[.int .u8 25, .int .u8 a, .int .u8 b, .int .u8 c, .int .u32 i] 88)).alloc (.cells #[.int .u64 q.1, .int .u64 q.2] 156)) := (alloc_bel' w _).alloc (by simp) _
   have z1 : (((w.alloc (.cells #[.int .u8 25, .int .u8 a, .int .u8 b, .int .u8 c, .int .u32 i] 88)).alloc (.cells #[.int .u64 q.1, .int .u64 q.2] 156))).cell? ⟨w.heap.size, 1, none⟩ = some (.int .u8 (a : Int)) := ((Arr.new w 88 #[.int .u8 25, .int .u8 (a : Int), .int .u8 b, .int .u8 c, .int .u32 i]).alloc _).cell 1
   have z3 : (((w.alloc (.cells #[.int .u8 25, .int .u8 a, .int .u8 b, .int .u8 c, .int .u32 i] 88)).alloc (.cells #[.int .u64 q.1, .int .u64 q.2] 156))).cell? ⟨w.heap.size, 3, none⟩ = some (.int .u8 (c : Int)) := ((Arr.new w 88 #[.int .u8 25, .int .u8 (a : Int), .int .u8 b, .int .u8 c, .int .u32 i]).alloc _).cell 3
   obtain ⟨G, hG⟩ : ∃ G : Nat → Prop, G = fun b => F b ∨ (w.heap.size ≤ b ∧ b < w.heap.size + 2) := ⟨_, rfl⟩
   have hGF : ∀ b, F b → G b := fun b h => by rw [hG]; exact .inl h
   have hGw : G w.heap.size := by rw [hG]; exact .inr ⟨Nat.le_refl _, by omega⟩
   have hI0 : I G s (((w.alloc (.cells #[.int .u8 25, .int .u8 a, .int .u8 b, .int .u8 c, .int .u32 i] 88)).alloc (.cells #[.int .u64 q.1, .int .u64 q.2] 156))) := M.more hI b0 (by rw [hG]; rintro b (h | h); exact .inl h; exact .inr h.1) (by rw [hG]; rintro b (h | h); have := hFw b h; simp; omega; simp; omega)
   have hA0 := hA.below b0 hlt
   have hM0 := hM.below b0 hM.lt
   have hUc := hU c
   have hrg : m.get c = m.rg.getD c 0 := rfl
   try rw [hrg] at *
   have hrc := mcA_reg (sp := sp) (n := n) (cap := cap) h16 hc
   have hra : ∃ xa, (mcA m sp n cap)[1 + a]? = some (.int .u64 xa) := ⟨_, mcA_reg h16 ha⟩
   have hset := fun v => mcA_set (m := m) (sp := sp) (n := n) (cap := cap) h16 ha v
   generalize m.rg.getD c 0 = xc at *
   obtain ⟨xa, hra⟩ := hra
   clear hA hM hrg hG
   unfold cdA sp2
   go_enter Tryz.func80, Tryz.ntmps80
   go_upto_region 16 with fail
   generalize hV : ((w.alloc (.cells #[.int .u8 25, .int .u8 a, .int .u8 b, .int .u8 c, .int .u32 i] 88)).alloc (.cells #[.int .u64 q.1, .int .u64 q.2] 156)) = V at *
   have K0 : Kp G V V.drew := fun b _ => rfl
   have B_0 : Below B0 V V.drew := (Below.refl _ V).drew
   have I0 := M.drw hI0
   refine rgn (fun u => u.cell? ⟨w.heap.size, 1, none⟩ = some (.int .u8 (a : Int)) ∧ u.cell? ⟨w.heap.size, 3, none⟩ = some (.int .u8 (c : Int))) (⟨z1, z3⟩) (fun hHeld => ?_)
   refine tk 0 rfl ?_
   refine tk 1 rfl ?_
   refine tk2 2 rfl ?_
   refine tk 3 rfl ?_
   refine tk 4 rfl ?_
   refine tk 6 rfl ?_
   refine tk 7 rfl ?_
   refine tk 8 rfl ?_
   refine tk 12 rfl ?_
   refine rd 5 rfl (fun K hK => ?_)
   go_simp
   refine (sumIn_any _ (hM0.kp K0 (hGF _ hFB)) hk).mono ?_
   rintro e u1 ⟨rfl, hb1⟩
   have K1 := K0.trans (Kp.of_below hb1 (M.own _ _ _ I0))
   have B_1 := B_0.trans (hb1.mono (M.base _ _ _ I0))
   have I1 := M.more I0 hb1 (fun b h => .inl h) (fun b h => Nat.lt_of_lt_of_le (M.own _ _ _ I0 b h) hb1.size)
   go_wp2_with fail
   refine ko hK ⟨K1.cell hGw z1, K1.cell hGw z3⟩ (fun hHeld => ?_)
   clear hK K
   refine rd 9 rfl (fun K hK => ?_)
   go_simp
   go_invoke
   go_simp
   refine (M.pre_n I1 (fmL_len _) hg).mono ?_
   rintro e u2 ⟨rfl, h1, h2⟩
   exact ⟨rfl, rfl, (b0.mono hB0).trans (B_1.trans h1), (Kp.of_below b0 hFw).trans ((K1.trans h2).mono hGF)⟩
theorem move25s_ (K : Bool) {S : Type} {H : Hd S} {I : (Nat → Prop) → S → World → Prop} {B0 : Nat} {ad : Addr} {PV : List PanicEntry} {F : Nat → Prop} {s : S} {m : Mc} {sp : Option Addr} {n cap : Nat} {a b c : Nat} {i : Int} {g5 gB : Nat} {vs : List Int} {q : Int × Int} (w : World)
   (M : Met (kfg K) (kfs K) (kfp K) H I B0 (.pointer (some ad)) PV) (hI : I F s w) (hF : F g5) (hg5 : B0 ≤ g5) (hA : Arr w g5 27 (mcA m sp n cap)) (h16 : m.rg.length = 16) (hU : ∀ k, U64 (m.rg.getD k 0)) (ha : a < 16) (hb : b < 16) (hc : c < 16) (hM : MW w gB vs) (hFB : F gB) (hk : vs.length = 4) {s1 : S} {bs : List Int} (hg : H.pm (fmL (fun t => vs.getD t 0)) s = some (bs, s1)) :
   Calls Tryz.prog 80 #[.agg (cdA 25 a b c i), .pointer (some ⟨g5, 1, none⟩), .slice (some ⟨gB, 0, none⟩) 4 4, sp2 q, .iface (kty K) (.pointer (some ad))] w fun e w' => e = .returned (.tuple #[]) ∧ Arr w' g5 27 (mcA { m with rg := m.rg.set a (bs.length : Int) } sp n cap) ∧ Below B0 w w' ∧ Kp (fun b => F b ∧ b ≠ g5) w w' ∧ I F s1 w' := by
 have hna := nahP K ad
 cases K
 all_goals
   dsimp only [kty, kfg, kfs, kfp] at *
   have hB0 := M.base F s w hI
   have hFw := M.own F s w hI
   have hlt := hA.lt
   have haI : (a : Int) < 16 := by omega
   have hcI : (c : Int) < 16 := by omega
   have b0 : Below w.heap.size w ((w.alloc (.cells #[.int .u8 25, .int .u8 a, .int .u8 b, .int .u8 c, .int .u32 i] 88)).alloc (.cells #[.int .u64 q.1, .int .u64 q.2] 156)) := (alloc_bel' w _).alloc (by simp) _
   have z1 : (((w.alloc (.cells #[.int .u8 25, .int .u8 a, .int .u8 b, .int .u8 c, .int .u32 i] 88)).alloc (.cells #[.int .u64 q.1, .int .u64 q.2] 156))).cell? ⟨w.heap.size, 1, none⟩ = some (.int .u8 (a : Int)) := ((Arr.new w 88 #[.int .u8 25, .int .u8 (a : Int), .int .u8 b, .int .u8 c, .int .u32 i]).alloc _).cell 1
   have z3 : (((w.alloc (.cells #[.int .u8 25, .int .u8 a, .int .u8 b, .int .u8 c, .int .u32 i] 88)).alloc (.cells #[.int .u64 q.1, .int .u64 q.2] 156))).cell? ⟨w.heap.size, 3, none⟩ = some (.int .u8 (c : Int)) := ((Arr.new w 88 #[.int .u8 25, .int .u8 (a : Int), .int .u8 b, .int .u8 c, .int .u32 i]).alloc _).cell 3
   obtain ⟨G, hG⟩ : ∃ G : Nat → Prop, G = fun b => F b ∨ (w.heap.size ≤ b ∧ b < w.heap.size + 2) := ⟨_, rfl⟩
   have hGF : ∀ b, F b → G b := fun b h => by rw [hG]; exact .inl h
   have hGw : G w.heap.size := by rw [hG]; exact .inr ⟨Nat.le_refl _, by omega⟩
   have hI0 : I G s (((w.alloc (.cells #[.int .u8 25, .int .u8 a, .int .u8 b, .int .u8 c, .int .u32 i] 88)).alloc (.cells #[.int .u64 q.1, .int .u64 q.2] 156))) := M.more hI b0 (by rw [hG]; rintro b (h | h); exact .inl h; exact .inr h.1) (by rw [hG]; rintro b (h | h); have := hFw b h; simp; omega; simp; omega)
   have hA0 := hA.below b0 hlt
   have hM0 := hM.below b0 hM.lt
   have hUc := hU c
   have hrg : m.get c = m.rg.getD c 0 := rfl
   try rw [hrg] at *
   have hrc := mcA_reg (sp := sp) (n := n) (cap := cap) h16 hc
   have hra : ∃ xa, (mcA m sp n cap)[1 + a]? = some (.int .u64 xa) := ⟨_, mcA_reg h16 ha⟩
   have hset := fun v => mcA_set (m := m) (sp := sp) (n := n) (cap := cap) h16 ha v
   generalize m.rg.getD c 0 = xc at *
   obtain ⟨xa, hra⟩ := hra
   clear hA hM hrg hG
   unfold cdA sp2
   go_enter Tryz.func80, Tryz.ntmps80
   go_upto_region 16 with fail
   generalize hV : ((w.alloc (.cells #[.int .u8 25, .int .u8 a, .int .u8 b, .int .u8 c, .int .u32 i] 88)).alloc (.cells #[.int .u64 q.1, .int .u64 q.2] 156)) = V at *
   have K0 : Kp G V V.drew := fun b _ => rfl
   have B_0 : Below B0 V V.drew := (Below.refl _ V).drew
   have I0 := M.drw hI0
   refine rgn (fun u => u.cell? ⟨w.heap.size, 1, none⟩ = some (.int .u8 (a : Int)) ∧ u.cell? ⟨w.heap.size, 3, none⟩ = some (.int .u8 (c : Int))) (⟨z1, z3⟩) (fun hHeld => ?_)
   refine tk 0 rfl ?_
   refine tk 1 rfl ?_
   refine tk2 2 rfl ?_
   refine tk 3 rfl ?_
   refine tk 4 rfl ?_
   refine tk 6 rfl ?_
   refine tk 7 rfl ?_
   refine tk 8 rfl ?_
   refine tk 12 rfl ?_
   refine rd 5 rfl (fun K hK => ?_)
   go_simp
   refine (sumIn_any _ (hM0.kp K0 (hGF _ hFB)) hk).mono ?_
   rintro e u1 ⟨rfl, hb1⟩
   have K1 := K0.trans (Kp.of_below hb1 (M.own _ _ _ I0))
   have B_1 := B_0.trans (hb1.mono (M.base _ _ _ I0))
   have I1 := M.more I0 hb1 (fun b h => .inl h) (fun b h => Nat.lt_of_lt_of_le (M.own _ _ _ I0 b h) hb1.size)
   go_wp2_with fail
   refine ko hK ⟨K1.cell hGw z1, K1.cell hGw z3⟩ (fun hHeld => ?_)
   clear hK K
   refine rd 9 rfl (fun K hK => ?_)
   go_simp
   go_invoke
   go_simp
   refine (M.pre_s I1 (fmL_len _) hg).mono ?_
   rintro e u2 ⟨spp, np, cp, rfl, hBS, h1, h2, I2⟩
   have K2 := K1.trans h2
   have B_2 := B_1.trans h1
   go_wp2_with fail
   refine ko hK ⟨K2.cell hGw z1, K2.cell hGw z3⟩ (fun hHeld => ?_)
   clear hK K
   have hnp := hBS.len
   have hnl := hBS.small
   have hwn : IntKind.u64.wrap (np : Int) = np := wrap64_of (by omega) (by omega)
   refine tk 10 rfl ?_
   refine tk 11 rfl ?_
   refine tk 13 rfl ?_
   have hAk := hA0.kp K2 (hGF _ hF)
   have hcl := hAk.cell (1 + a)
   rw [hra] at hcl
   have hfz := hAk.frozen (1 + a)
   refine rd 14 rfl (fun K hK => ?_)
   go_simp
   have hst := hAk.set (1 + a) (.int .u64 (np : Int))
   rw [hset] at hst
   refine ko hK ⟨(cell_set_ne _ (fun e => by injection e with e1 _ _; omega)).trans (K2.cell hGw z1), (cell_set_ne _ (fun e => by injection e with e1 _ _; omega)).trans (K2.cell hGw z3)⟩ (fun hHeld => ?_)
   clear hK K
   refine dn ?_
   obtain ⟨f1, f2, f3⟩ := mv_fin (j := 1 + a) M I2 (hGF _ hF) hg5 (Below.refl _ u2) (.int .u64 (np : Int))
   generalize (u2.setCell ⟨g5, 1 + a, none⟩ (.int .u64 (np : Int))) = U at *
   go_wp2_with fail
   rw [hnp.out] at hst
   exact ⟨rfl, _, results_none Tryz.results80 _ _ _, rfl, hst, (b0.mono hB0).trans (B_2.trans f1), (Kp.of_below b0 (fun b h => hFw b h.1)).trans ((K2.mono (fun b h => hGF b h.1)).trans (f2.mono (fun b h => ⟨hGF b h.1, h.2⟩))), M.keep _ _ s1 _ _ f3 (Below.refl _ _) (fun b _ _ => rfl) (fun b h => .inl (hGF b h)) (fun b h => M.own _ _ _ f3 b (hGF b h))⟩
theorem index96 (C : Array Value) (f : Nat → Int) (h : ∀ t, t < 4 → C[t]? = some (.int .u64 (f t))) (k : Nat) (hk : k < 4) (w : World) : (Instr.index 96 (.agg C) (.int .i64 (k : Int))).run Tryz.prog w = .ok (.int .u64 (f k)) w := by
 have e : C[k]? = some (.int .u64 (f k)) := h k hk
 simp [Instr.index, asIntOf, run_underlying Tryz.underlying96, Tryz.sizeOf22, part, Tryz.isAgg22, hk, e]
theorem setN_none {S : Type} {H : Hd S} {x : Int} {W : Nat → Int} {s : S} {k : Nat} (h : setN H x W k s = none) : ∀ j, setN H x W (k + j) s = none
 | 0 => h
 | j + 1 => by rw [← Nat.add_assoc, setN, setN_none h j]; rfl
theorem move23_ (K : Bool) {S : Type} {H : Hd S} {I : (Nat → Prop) → S → World → Prop} {B0 : Nat} {ad : Addr} {PV : List PanicEntry} {F : Nat → Prop} {s : S} {m : Mc} {sp : Option Addr} {n cap : Nat} {a b c : Nat} {i x y : Int} {g5 gB kk xn : Nat} {vs P : List Int} (w : World)
   (M : Met (kfg K) (kfs K) (kfp K) H I B0 (.pointer (some ad)) PV) (hI : I F s w) (hF : F g5) (hA : Arr w g5 27 (mcA m sp n cap)) (h16 : m.rg.length = 16) (hc : c < 16) (hM : MW w gB vs) (hFB : F gB) (hk : vs.length = kk) (hUv : ∀ t, U64 (vs.getD t 0)) (hi : 0 ≤ i ∧ i < 4294967296) (hmk : mkL i = some P) (hxn : m.rg.getD c 0 = (xn : Int)) (hn : xn ≤ 128) (hkk : xn ≤ 8 * kk) (hx : 0 ≤ x) (hx4 : x + 4 ≤ 4096) (hr : Hid (H.rk s + 4 ≤ 1000)) :
   Calls Tryz.prog 80 #[.agg (cdA 23 a b c i), .pointer (some ⟨g5, 1, none⟩), .slice (some ⟨gB, 0, none⟩) kk kk, .agg #[.int .u64 x, .int .u64 y], .iface (kty K) (.pointer (some ad))] w fun e w' => Below B0 w w' ∧ Kp F w w' ∧ ((∃ s1, setN H x (wsu (P ++ fbL (fun t => vs.getD t 0) xn)) 4 s = some s1 ∧ e = .returned (.tuple #[]) ∧ Arr w' g5 27 (mcA m sp n cap) ∧ I F s1 w') ∨ (setN H x (wsu (P ++ fbL (fun t => vs.getD t 0) xn)) 4 s = none ∧ e = .panicked PV)) := by
 cases K
 all_goals
   dsimp only [kty, kfg, kfs, kfp] at *
   have hB0 := M.base F s w hI
   have hFw := M.own F s w hI
   have hlt := hA.lt
   have hcI : (c : Int) < 16 := by omega
   have b0 : Below w.heap.size w ((w.alloc (.cells #[.int .u8 23, .int .u8 a, .int .u8 b, .int .u8 c, .int .u32 i] 88)).alloc (.cells #[.int .u64 x, .int .u64 y] 156)) := (alloc_bel' w _).alloc (by simp) _
   have z4 : (((w.alloc (.cells #[.int .u8 23, .int .u8 a, .int .u8 b, .int .u8 c, .int .u32 i] 88)).alloc (.cells #[.int .u64 x, .int .u64 y] 156))).cell? ⟨w.heap.size, 4, none⟩ = some (.int .u32 i) := ((Arr.new w 88 #[.int .u8 23, .int .u8 (a : Int), .int .u8 b, .int .u8 c, .int .u32 i]).alloc _).cell 4
   have z3 : (((w.alloc (.cells #[.int .u8 23, .int .u8 a, .int .u8 b, .int .u8 c, .int .u32 i] 88)).alloc (.cells #[.int .u64 x, .int .u64 y] 156))).cell? ⟨w.heap.size, 3, none⟩ = some (.int .u8 (c : Int)) := ((Arr.new w 88 #[.int .u8 23, .int .u8 (a : Int), .int .u8 b, .int .u8 c, .int .u32 i]).alloc _).cell 3
   have A8 : Arr (((w.alloc (.cells #[.int .u8 23, .int .u8 a, .int .u8 b, .int .u8 c, .int .u32 i] 88)).alloc (.cells #[.int .u64 x, .int .u64 y] 156))) (w.heap.size + 1) 156 #[.int .u64 x, .int .u64 y] := by
     have h := Arr.new (w.alloc (.cells #[.int .u8 23, .int .u8 (a : Int), .int .u8 b, .int .u8 c, .int .u32 i] 88)) 156 #[.int .u64 x, .int .u64 y]
     simp only [World.size_alloc] at h
     exact h
   obtain ⟨G, hG⟩ : ∃ G : Nat → Prop, G = fun b => F b ∨ (w.heap.size ≤ b ∧ b < w.heap.size + 2) := ⟨_, rfl⟩
   have hGF : ∀ b, F b → G b := fun b h => by rw [hG]; exact .inl h
   have hGw : G w.heap.size := by rw [hG]; exact .inr ⟨Nat.le_refl _, by omega⟩
   have hGw1 : G (w.heap.size + 1) := by rw [hG]; exact .inr ⟨by omega, by omega⟩
   have hI0 : I G s (((w.alloc (.cells #[.int .u8 23, .int .u8 a, .int .u8 b, .int .u8 c, .int .u32 i] 88)).alloc (.cells #[.int .u64 x, .int .u64 y] 156))) := M.more hI b0 (by rw [hG]; rintro b (h | h); exact .inl h; exact .inr h.1) (by rw [hG]; rintro b (h | h); have := hFw b h; simp; omega; simp; omega)
   have hA0 := hA.below b0 hlt
   have hM0 := hM.below b0 hM.lt
   have rc := (hA0.cell (1 + c)).trans (mcA_reg h16 hc)
   rw [hxn] at rc
   have hfb := fbL_bts (fun t => vs.getD t 0) xn
   have hfl := fbL_len (fun t => vs.getD t 0) xn
   have hPl : P.length ≤ 1 := by
     unfold mkL at hmk
     split at hmk
     · cases hmk; simp
     · split at hmk
       · cases hmk; simp
       · cases hmk
   have hPb := mkL_bts hmk
   have hfst := fun (u : World) (h : MW u gB vs) => fstB_any u h hk hUv rfl hn hkk
   generalize hFBL : fbL (fun t => vs.getD t 0) xn = FB at *
   replace hfl := Hid.mk' hfl
   replace hk := Hid.mk' hk
   replace hxn := Hid.mk' hxn
   replace hmk := Hid.mk' hmk
   clear hA hM hG hUv hFBL
   unfold cdA
   go_enter Tryz.func80, Tryz.ntmps80
   go_upto_region 7 with fail
   generalize hV : ((w.alloc (.cells #[.int .u8 23, .int .u8 a, .int .u8 b, .int .u8 c, .int .u32 i] 88)).alloc (.cells #[.int .u64 x, .int .u64 y] 156)) = V at *
   refine rgn (fun u => u.cell? ⟨w.heap.size, 4, none⟩ = some (.int .u32 i) ∧ u.cell? ⟨w.heap.size, 3, none⟩ = some (.int .u8 (c : Int)) ∧ u.cell? ⟨g5, 1 + c, none⟩ = some (.int .u64 (xn : Int))) (⟨z4, z3, rc⟩) (fun hHeld => ?_)
   refine tk 0 rfl ?_
   refine tk3 1 rfl ?_
   refine tk 3 rfl ?_
   refine tk 4 rfl ?_
   refine tk 5 rfl ?_
   refine tk3 6 rfl ?_
   refine tk 7 rfl ?_
   refine tk 8 rfl ?_
   refine tk3 9 rfl ?_
   refine rd 2 rfl (fun K hK => ?_)
   go_simp
   refine (markOf_any _ hi hmk.out).mono ?_
   rintro e u1 ⟨v1, rfl, ho1, hb1⟩
   have hB1 : Below V.heap.size V u1 := (Below.refl _ V).drew.trans hb1
   go_wp2_with fail
   refine ko hK ⟨(hB1.cell (block_lt_of_cell z4)).trans z4, (hB1.cell (block_lt_of_cell z3)).trans z3, (hB1.cell (block_lt_of_cell rc)).trans rc⟩ (fun hHeld => ?_)
   clear hK K
   refine rd 10 rfl (fun K hK => ?_)
   go_simp
   refine (hfst _ (hM0.below hB1 hM0.lt)).mono ?_
   rintro e u2 ⟨rfl, hA2, hb2⟩
   have hB2 : Below V.heap.size V u2 := hB1.trans (hb2.mono hB1.size)
   have hc1 := hB1.size
   have hc2 := hb2.size
   have ho1' : u2.ownsRow V.heap.size 5 1 v1 P.length (by8 P) := own_bel ho1 hb2
   go_wp2_with fail
   refine ko hK ⟨(hB2.cell (block_lt_of_cell z4)).trans z4, (hB2.cell (block_lt_of_cell z3)).trans z3, (hB2.cell (block_lt_of_cell rc)).trans rc⟩ (fun hHeld => ?_)
   clear hK K
   refine rd 11 rfl (fun K hK => ?_)
   refine step_append_bytes rfl (.tmp 44) (.tmp 52) rfl V.heap.size v1 P.length P rfl ho1' _ xn xn FB rfl hfl.out.symm (fun h => by cases h) (Arr.sl hA2) (by omega) (by omega) ?_
   intro v3 u3 ho3 hg3
   have hB3 : Below V.heap.size V u3 := hB2.grown hg3 (by omega) (fun k e => own_ge ho1' k e)
   refine ko hK ⟨(hB3.cell (block_lt_of_cell z4)).trans z4, (hB3.cell (block_lt_of_cell z3)).trans z3, (hB3.cell (block_lt_of_cell rc)).trans rc⟩ (fun hHeld => ?_)
   clear hK K
   refine tk 12 rfl ?_
   refine dn ?_
   have hI3 : I G s u3 := M.more hI0 hB3 (fun b h => .inl h) (fun b h => Nat.lt_of_lt_of_le (M.own _ _ _ hI0 b h) hB3.size)
   have hK3 : Kp G V u3 := Kp.of_below hB3 (M.own _ _ _ hI0)
   obtain ⟨sp3, cp3, rfl, hS3, -⟩ := own_bs ho3 (Bts.app hPb (by assumption)) (by omega)
   have hLL : (P ++ FB).length = P.length + xn := by rw [List.length_append, hfl.out]
   have hbB : Below B0 w u3 := (b0.mono hB0).trans (hB3.mono (M.base _ _ _ hI0))
   generalize hLe : P ++ FB = LL at *
   replace hLL := Hid.mk' hLL
   have hix := index96 _ _ (four_get (wsu LL))
   have hwu := fun j (h : j < 4) => wsu_u LL h
   clear hHeld hA2 ho1 ho1' ho3 hM0 hB1 hB2 hfst
   go_upto_region 9 with (first
     | (go_at_call 90; go_must (refine (sum_sl sp3 _ cp3 LL u3 hLL.out.symm hS3.nil hS3.sl hS3.le (by omega)).mono ?_; rintro e u4 ⟨rfl, hb4⟩))
     | (go_at_call 140; go_must (refine (words_any (sha LL) (shaB (bat LL) LL.length) u4 (sha_size LL) (sha_get LL) (fun t _ => shaB_range _ _ t)).mono ?_; rintro e u5 ⟨rfl, hb5⟩; rw [wordsOf_four]; have hb35 : Below u3.heap.size u3 u5 := hb4.trans (hb5.mono hb4.size))))
   have hI5 : I G s u5 := M.more hI3 hb35 (fun b h => .inl h) (fun b h => Nat.lt_of_lt_of_le (M.own _ _ _ hI3 b h) hb35.size)
   have hK5 : Kp G V u5 := hK3.trans (Kp.of_below hb35 (M.own _ _ _ hI3))
   have hB5 : Below B0 w u5 := hbB.trans (hb35.mono (M.base _ _ _ hI3))
   have hA5 := hA0.kp hK5 (hGF _ hF)
   have hA85 := A8.kp hK5 hGw1
   have hKw5 : Kp F w u5 := (Kp.of_below b0 hFw).trans (hK5.mono hGF)
   clear hK3 hB3 hS3 hb4 hb5 hb35 hI3 hbB hg3 hb1 hb2 rc z3 z4 hI0 hK5 A8 hA0
   go_loopw [57] (fun r wr => ∃ (j : Nat) (s1 : S), r = .int .i64 (j : Int) ∧ j ≤ 4 ∧ setN H x (wsu LL) j s = some s1 ∧ I G s1 wr ∧ Kp F w wr ∧ Below B0 w wr ∧ Arr wr g5 27 (mcA m sp n cap) ∧ Arr wr (w.heap.size + 1) 156 #[.int .u64 x, .int .u64 y])
     (fun r _ => 4 - (intOf r).toNat)
   case atStart => exact ⟨0, s, rfl, by omega, rfl, hI5, hKw5, hB5, hA5, hA85⟩
   case round =>
     clear hI5 hKw5 hB5 hA5 hA85
     obtain ⟨j, s1, rfl, hj, hg, hIr, hKr, hBr, hAr, hA8r⟩ := hrel
     by_cases hlt4 : j < 4
     · have hjI : (j : Int) < 4 := by omega
       have c0 := hA8r.cell 0
       change _ = some (Value.int .u64 x) at c0
       have hw1 : IntKind.u64.wrap (j : Int) = j := wrap64_of (by omega) (by omega)
       have hw2 : IntKind.u64.wrap (x + (j : Int)) = x + j := wrap64_of (by omega) (by omega)
       have hUx : U64 (x + j) := ⟨by omega, by omega⟩
       have hixj := hix j hlt4
       have hUw := hwu j hlt4
       cases hst : H.st (x + j) (wsu LL j) s1 with
       | none =>
         have hnn : setN H x (wsu LL) 4 s = none := by
           have h1 : setN H x (wsu LL) (j + 1) s = none := by unfold setN; rw [hg]; simpa using hst
           have h2 := setN_none h1 (4 - (j + 1))
           rw [show j + 1 + (4 - (j + 1)) = 4 by omega] at h2
           exact h2
         have hct := M.set_n hIr hUx hUw (by have := setN_rk M hg; have := hr.out; omega) hst
         clear hix hwu
         generalize wsu LL j = wj at *
         go_wp2_with ((first | go_at_call 240 | go_at_call 229); go_must (refine hct.mono ?_; rintro e w1 ⟨rfl, h1, h2⟩))
         exact ⟨rfl, hBr.trans h1, hKr.trans (h2.mono hGF), .inr ⟨by rw [hLe]; exact hnn, rfl⟩⟩
       | some s2 =>
         have hg2 : setN H x (wsu LL) (j + 1) s = some s2 := by rw [setN, hg]; simpa using hst
         have hct := M.set_s hIr hUx hUw (by have := setN_rk M hg; have := hr.out; omega) hst
         clear hix hwu
         generalize wsu LL j = wj at *
         go_wp2_with ((first | go_at_call 240 | go_at_call 229); go_must (refine hct.mono ?_; rintro e w1 ⟨rfl, h1, h2, h3⟩))
         go_roundw
         case rel => exact ⟨j + 1, s2, by go_num, by omega, hg2, h3, hKr.trans (h2.mono hGF), hBr.trans h1, hAr.kp h2 (hGF _ hF), hA8r.kp h2 hGw1⟩
         case measure => simp [intOf]; omega
     · obtain rfl : j = 4 := by omega
       go_wp2_with fail
       exact ⟨rfl, _, results_none Tryz.results80 _ _ _, hBr, hKr, .inl ⟨s1, by rw [hLe]; exact hg, rfl, hAr, M.keep _ _ s1 _ _ hIr (Below.refl _ _) (fun b _ _ => rfl) (fun b h => .inl (hGF b h)) (fun b h => M.own _ _ _ hIr b (hGF b h))⟩⟩
theorem step_st (K : Bool) {S : Type} {H : Hd S} {I : (Nat → Prop) → S → World → Prop} {B0 : Nat} {ad : Addr} {PV : List PanicEntry} {F : Nat → Prop} {s : S} {p : Pf} {v1 v2 : Value} {d : Nat} (w : World)
   (M : Met (kfg K) (kfs K) (kfp K) H I B0 (.pointer (some ad)) PV) (hI : I F s w) (h16 : p.rg.length = 16) (h32 : p.rt.length = 32) (hd : d ≤ 12) (hde : p.de = d) (hst : p.st ≠ 0) :
   Calls Tryz.prog 32 #[.agg (pfL p v1 v2).toArray, .iface (kty K) (.pointer (some ad))] w fun e w' => e = .returned (.agg (mcA (cfg p) none 0 0)) ∧ Below w.heap.size w w' := by
 cases K
 all_goals
   dsimp only [kty, kfg, kfs, kfp] at *
   have hB0 := M.base F s w hI
   have hFw := M.own F s w hI
   have hr64 : (by64 p.rg).length = 16 := by simp [by64, h16]
   have hbd := built27 p.pc p.rg p.st h16
   have hsz := fun (m : Mc) (h : m.rg.length = 16) => mcA_size h none 0 0
   have hszc := mcA_size (m := cfg p) h16 none 0 0
   have honc := mcA_one (cfg p) none 0 0
   have hszz := mcA_size zM_ok.r16 none 0 0
   have h17 := pfL_at h16 v1 v2 0
   have h18 := pfL_at h16 v1 v2 1
   change _ = some (Value.int .u8 p.st) at h17
   change _ = some (Value.int .i64 p.de) at h18
   rw [hde] at h18
   have B1 := (Arr.new w 34 (pfL p v1 v2).toArray).alloc (.cells (mcA zM none 0 0) 27)
   have k0 := B1.cell 0
   change _ = some (Value.int .u64 p.pc) at k0
   have k17 := (B1.cell 17).trans h17
   have m17 := mcA_17 (m := cfg p) h16 none 0 0
   change _ = some (Value.int .u8 p.st) at m17
   have c17 := ((Arr.new ((w.alloc (.cells (pfL p v1 v2).toArray 34)).alloc (.cells (mcA zM none 0 0) 27)) 27 (mcA (cfg p) none 0 0)).cell 17).trans m17
   simp only [World.size_alloc] at c17
   have mzz : mcA zM none 0 0 = mcA zM none 0 0 := rfl
   have hpf53 : (pfL p v1 v2).toArray.size = 53 := by rw [List.size_toArray, pfL_len h16 h32]
   generalize hPF : (pfL p v1 v2).toArray = PF at *
   have hrgx : ∀ o, (w.alloc (.cells PF 34) |>.alloc o).rangeAt w.heap.size 1 (by64 p.rg) := fun o => pfL_rg (p := p) (v1 := v1) (v2 := v2) (by rw [hPF]; exact (Arr.new w 34 PF).alloc o)
   replace hbd := Hid.mk' hbd
   have hcg : (⟨p.pc, p.rg, p.st, []⟩ : Mc) = cfg p := rfl
   rw [hcg] at hbd
   go_enter Tryz.func32, Tryz.ntmps32
   go_upto_region 1 with fail
   change Code.wp _ _ _ _ ((w.alloc (.cells PF 34)).alloc (.cells (mcA zM none 0 0) 27))
   generalize hZM : mcA zM none 0 0 = ZM at *
   have hne : (p.st != 0) = true := by simpa using hst
   have A5 := Arr.new ((w.alloc (.cells PF 34)).alloc (.cells ZM 27)) 27 (mcA (cfg p) none 0 0)
   have A4 := (Arr.new (w.alloc (.cells PF 34)) 27 ZM).alloc (.cells (mcA (cfg p) none 0 0) 27)
   simp only [World.size_alloc] at A5 A4
   go_wp2_with (first
     | (refine atL 23 (.tmp 13) ?_; go_must (refine ldM (by rfl) 23 (.tmp 13) (by rfl) w.heap.size 1 (by rfl) (by64 p.rg) (hrgx _) Tryz.underlying23 rfl (by rw [hr64]; exact size23) ?_))
     | (refine wpList_plain (by rfl) fun K hK => wp_bdT 27 #[(0, .tmp 12), (1, .tmp 14), (2, .tmp 16)] (by rfl) (by rfl) hbd.out (hK _ _ ?_))
     | (refine atS 27 (.tmp 5) (.tmp 17) ?_; go_must (refine st45n (by rfl) (.tmp 5) (.tmp 17) (by rfl) ((w.alloc (.cells PF 34)).alloc (.cells ZM 27)) (w.heap.size + 1 + 1) (by simp) (by rfl) (mcA (cfg p) none 0 0) (by rfl) (by rfl) hszc honc ?_))
     | (refine atL 27 (.tmp 5) ?_; go_must (refine ld45 (by rfl) (.tmp 5) (by rfl) (w.heap.size + 1 + 1) (by rfl) _ hszc A5 ?_))
     | (refine atS 27 (.tmp 4) (.tmp 21) ?_; go_must (refine st45 (by rfl) (.tmp 4) (.tmp 21) (by rfl) (w.heap.size + 1) (mcA (cfg p) none 0 0) (by rfl) (by rfl) hszc honc _ hszz A4 ?_)))
   exact bodyPost_ret (v := .agg (mcA (cfg p) none 0 0)) (results_cell_row Tryz.results32 _ _ (w.heap.size + 1) 27 _ (0, 0) _ rfl (A4.setRow _) Tryz.underlying27 rfl (by rw [hszc]; exact size45)) rfl ⟨rfl, below_setRow (((alloc_bel' w _).alloc (by simp) _).alloc (by simp; omega) _) (by omega) _⟩
theorem step_fn (K : Bool) {S : Type} {H : Hd S} {I : (Nat → Prop) → S → World → Prop} {B0 : Nat} {ad : Addr} {PV : List PanicEntry} {F : Nat → Prop} {s : S} {p : Pf} {v1 v2 : Value} {d : Nat} (w : World)
   (M : Met (kfg K) (kfs K) (kfp K) H I B0 (.pointer (some ad)) PV) (hI : I F s w) (h16 : p.rg.length = 16) (h32 : p.rt.length = 32) (hd : d ≤ 12) (hde : p.de = d) (hst : p.st = 0) (hft : ∀ (F' : Nat → Prop) (u : World) (gm : Nat), I F' s u → F' gm → MW u gm (List.replicate (2 ^ d) 0) → B0 ≤ gm → Calls Tryz.prog 77 #[.agg (mcA (cfg p) (some ⟨gm, 0, none⟩) (2 ^ d) (2 ^ d)), .iface (kty K) (.pointer (some ad))] u fun e w' => e = .panicked PV ∧ Below B0 u w' ∧ Kp F' u w') :
   Calls Tryz.prog 32 #[.agg (pfL p v1 v2).toArray, .iface (kty K) (.pointer (some ad))] w fun e w' => e = .panicked PV ∧ Below B0 w w' ∧ Kp F w w' := by
 cases K
 all_goals
   dsimp only [kty, kfg, kfs, kfp] at *
   have hB0 := M.base F s w hI
   have hFw := M.own F s w hI
   have hr64 : (by64 p.rg).length = 16 := by simp [by64, h16]
   have hbd := built27 p.pc p.rg p.st h16
   have hsz := fun (m : Mc) (h : m.rg.length = 16) => mcA_size h none 0 0
   have hszc := mcA_size (m := cfg p) h16 none 0 0
   have honc := mcA_one (cfg p) none 0 0
   have hszz := mcA_size zM_ok.r16 none 0 0
   have h17 := pfL_at h16 v1 v2 0
   have h18 := pfL_at h16 v1 v2 1
   change _ = some (Value.int .u8 p.st) at h17
   change _ = some (Value.int .i64 p.de) at h18
   rw [hde] at h18
   have B1 := (Arr.new w 34 (pfL p v1 v2).toArray).alloc (.cells (mcA zM none 0 0) 27)
   have k0 := B1.cell 0
   change _ = some (Value.int .u64 p.pc) at k0
   have k17 := (B1.cell 17).trans h17
   have m17 := mcA_17 (m := cfg p) h16 none 0 0
   change _ = some (Value.int .u8 p.st) at m17
   have c17 := ((Arr.new ((w.alloc (.cells (pfL p v1 v2).toArray 34)).alloc (.cells (mcA zM none 0 0) 27)) 27 (mcA (cfg p) none 0 0)).cell 17).trans m17
   simp only [World.size_alloc] at c17
   have mzz : mcA zM none 0 0 = mcA zM none 0 0 := rfl
   have hpf53 : (pfL p v1 v2).toArray.size = 53 := by rw [List.size_toArray, pfL_len h16 h32]
   generalize hPF : (pfL p v1 v2).toArray = PF at *
   have hrgx : ∀ o, (w.alloc (.cells PF 34) |>.alloc o).rangeAt w.heap.size 1 (by64 p.rg) := fun o => pfL_rg (p := p) (v1 := v1) (v2 := v2) (by rw [hPF]; exact (Arr.new w 34 PF).alloc o)
   replace hbd := Hid.mk' hbd
   have hcg : (⟨p.pc, p.rg, p.st, []⟩ : Mc) = cfg p := rfl
   rw [hcg] at hbd
   go_enter Tryz.func32, Tryz.ntmps32
   go_upto_region 1 with fail
   change Code.wp _ _ _ _ ((w.alloc (.cells PF 34)).alloc (.cells (mcA zM none 0 0) 27))
   generalize hZM : mcA zM none 0 0 = ZM at *
   have hne : (p.st != 0) = false := by rw [hst]; rfl
   obtain ⟨i0, hi, hz0, hz1, hz2⟩ := info_parts info26
   have k18 := (((Arr.new w 34 PF).alloc (.cells ZM 27)).alloc (.cells (mcA (cfg p) none 0 0) 27)).cell 18 |>.trans h18
   have hp12 := pow12 hd
   have hmin : min d 64 = d := by omega
   have hd0 : (0 : Int) ≤ d := by omega
   have hpw2 : IntKind.i64.wrap ((2 : Int) ^ d) = ((2 ^ d : Nat) : Int) := by rw [IntKind.wrap_i64, powc]; generalize 2 ^ d = q at *; omega
   clear hst
   go_upto_region 4 with (first
     | (refine atL 23 (.tmp 13) ?_; go_must (refine ldM (by rfl) 23 (.tmp 13) (by rfl) w.heap.size 1 (by rfl) (by64 p.rg) (hrgx _) Tryz.underlying23 rfl (by rw [hr64]; exact size23) ?_))
     | (refine wpList_plain (by rfl) fun K hK => wp_bdT 27 #[(0, .tmp 12), (1, .tmp 14), (2, .tmp 16)] (by rfl) (by rfl) hbd.out (hK _ _ ?_))
     | (refine atS 27 (.tmp 5) (.tmp 17) ?_; go_must (refine st45n (by rfl) (.tmp 5) (.tmp 17) (by rfl) ((w.alloc (.cells PF 34)).alloc (.cells ZM 27)) (w.heap.size + 1 + 1) (by simp) (by rfl) (mcA (cfg p) none 0 0) (by rfl) (by rfl) hszc honc ?_)))
   generalize hN : 2 ^ d = n at *
   go_upto_region 5 with (at_make; go_must (refine wpList_make_row _ (by rfl) (.tmp 24) (.tmp 24) 25 (by rfl) 22 i0 (.int .u64 0) Tryz.underlying25 hi hz0 hz1 rfl .i64 .i64 n (by rfl) (by rfl) (by rw [hz2]; omega) (by omega) ?_))
   rw [mcA_mem (m := cfg p) h16]
   have A2 := (((Arr.new w 34 PF).alloc (.cells ZM 27)).alloc (.cells (mcA (cfg p) (some ⟨w.heap.size + 1 + 1 + 1, 0, none⟩) n n) 27)).alloc (.cells (madeCells #[.int .u64 0] n) 22)
   have A4 := ((Arr.new (w.alloc (.cells PF 34)) 27 ZM).alloc (.cells (mcA (cfg p) (some ⟨w.heap.size + 1 + 1 + 1, 0, none⟩) n n) 27)).alloc (.cells (madeCells #[.int .u64 0] n) 22)
   have A5 := (Arr.new ((w.alloc (.cells PF 34)).alloc (.cells ZM 27)) 27 (mcA (cfg p) (some ⟨w.heap.size + 1 + 1 + 1, 0, none⟩) n n)).alloc (.cells (madeCells #[.int .u64 0] n) 22)
   have Mm := made_mw (((w.alloc (.cells PF 34)).alloc (.cells ZM 27)).alloc (.cells (mcA (cfg p) (some ⟨w.heap.size + 1 + 1 + 1, 0, none⟩) n n) 27)) n
   have BV : Below w.heap.size w ((((w.alloc (.cells PF 34)).alloc (.cells ZM 27)).alloc (.cells (mcA (cfg p) (some ⟨w.heap.size + 1 + 1 + 1, 0, none⟩) n n) 27)).alloc (.cells (madeCells #[.int .u64 0] n) 22)) := (((alloc_bel' w _).alloc (by simp) _).alloc (by simp; omega) _).alloc (by simp; omega) _
   have hVs : ((((w.alloc (.cells PF 34)).alloc (.cells ZM 27)).alloc (.cells (mcA (cfg p) (some ⟨w.heap.size + 1 + 1 + 1, 0, none⟩) n n) 27)).alloc (.cells (madeCells #[.int .u64 0] n) 22)).heap.size = w.heap.size + 4 := by simp
   simp only [World.size_alloc] at A4 A5 Mm
   obtain ⟨G, hG⟩ : ∃ G : Nat → Prop, G = fun b => F b ∨ (w.heap.size ≤ b ∧ b < w.heap.size + 4) := ⟨_, rfl⟩
   have hGF : ∀ b, F b → G b := fun b h => by rw [hG]; exact .inl h
   have hGn : ∀ b, w.heap.size ≤ b → b < w.heap.size + 4 → G b := fun b h1 h2 => by rw [hG]; exact .inr ⟨h1, h2⟩
   have hGo : ∀ b, G b → F b ∨ w.heap.size ≤ b := fun b h => by rw [hG] at h; rcases h with h | h; exact .inl h; exact .inr h.1
   have hGl : ∀ b, G b → b < w.heap.size + 4 := fun b h => by rw [hG] at h; rcases h with h | h; have := hFw b h; omega; exact h.2
   generalize hV : ((((w.alloc (.cells PF 34)).alloc (.cells ZM 27)).alloc (.cells (mcA (cfg p) (some ⟨w.heap.size + 1 + 1 + 1, 0, none⟩) n n) 27)).alloc (.cells (madeCells #[.int .u64 0] n) 22)) = V at *
   have IV : I G s V := M.more hI BV hGo (fun b h => by have := hGl b h; omega)
   have hszm := mcA_size (m := cfg p) h16 (some ⟨w.heap.size + 1 + 1 + 1, 0, none⟩) n n
   have honm := mcA_one (cfg p) (some ⟨w.heap.size + 1 + 1 + 1, 0, none⟩) n n
   clear hV hG k0 k17 k18 c17 B1 hrgx hbd hpw2
   have hftV := hft G V (w.heap.size + 1 + 1 + 1) IV (hGn _ (by omega) (by omega)) Mm (by omega)
   go_wp2_with (first
     | (refine atL 27 (.tmp 5) ?_; go_must (refine ld45 (by rfl) (.tmp 5) (by rfl) (w.heap.size + 1 + 1) (by rfl) _ hszm A5 ?_))
     | (go_at_call 77; go_must (refine hftV.mono ?_; rintro e w1 ⟨rfl, h1, h2⟩)))
   exact ⟨rfl, rfl, (BV.mono hB0).trans h1, (Kp.of_below BV hFw).trans (h2.mono hGF)⟩
end Go.Proofs.YtagebcbnenehfaaGreat
