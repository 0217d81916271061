/- Oj. -/
import Derived.Test.YtagebcbnenehfaaGreatX50
namespace Go.Proofs.YtagebcbnenehfaaGreat
open Go.RowKit
set_option maxRecDepth 100000
set_option linter.unusedVariables false
set_option linter.unusedSimpArgs false
set_option maxHeartbeats 40000000
theorem proves_a (m : Mc) (sp : Option Addr) (n cap : Nat) (sk : Option Addr) (nk ck : Nat) (es : List En) (w : World) (hok : m.ok) (hM : MS w.heap.size w sp n cap m.me) (hES : ES w.heap.size w sk nk ck es) (hmM : mayM m = false) :
   Calls Tryz.prog 6 #[.agg (mcA m sp n cap), .slice sk nk ck] w fun e w' => e = .returned (.bool true) ∧ Below w.heap.size w w' := by
 have hs0 := mcA_size hok.r16 sp n cap
 have s27 : (Tryz.prog.info? 27).map (·.size) = some (mcA m sp n cap).size := by rw [hs0]; exact size27
 have A0 := Arr.new w 27 (mcA m sp n cap)
 have b0 := alloc_bel' w (.cells (mcA m sp n cap) 27)
 have M0 := (hM.below b0).mono (N' := (w.alloc (.cells (mcA m sp n cap) 27)).heap.size) (by simp)
 have K0 := (hES.below b0).mono (N' := (w.alloc (.cells (mcA m sp n cap) 27)).heap.size) (by simp)
 have hanc := fun u => anchored_any u
 have hmk := make_any (es := es) (w.alloc (.cells (mcA m sp n cap) 27)) hok M0 K0 (Nat.le_refl _)
 unfold MkP at hmk
 have hco := fun (u : World) (h : MS u.heap.size u sp n cap m.me) => refCommit_any m sp n cap u.heap.size u hok h
 have hC32 := coR_len m
 have m17 := mcA_17 hok.r16 sp n cap
 replace hmk : Calls Tryz.prog 9 #[.agg (mcA m sp n cap), .slice sk nk ck] (w.alloc (.cells (mcA m sp n cap) 27)) fun e w' => e = .returned (.tuple #[.agg zP, .int .i64 2]) ∧ Below (w.alloc (.cells (mcA m sp n cap) 27)).heap.size (w.alloc (.cells (mcA m sp n cap) 27)) w' := hmk.mono fun e w' ⟨hb, hc⟩ => by
   rcases hc with ⟨-, rfl⟩ | ⟨h1, -⟩ | ⟨h1, -⟩
   · exact ⟨rfl, hb⟩
   · rw [hmM] at h1; cases h1
   · rw [hmM] at h1; cases h1
 have hcE : coE m = 2 := by unfold coE; rw [hmM]; rfl
 rw [hcE] at hco
 have hm1 := fun (u : World) (hb : Below w.heap.size w u) => (hM.below hb).mono (N' := u.heap.size) hb.size
 generalize hMC : mcA m sp n cap = MC at *
 generalize hCA : coR m = CA at *
 go_enter Tryz.func6, Tryz.ntmps6
 go_upto_region 1 with fail
 have hV0s : (w.alloc (.cells MC 27)).heap.size = w.heap.size + 1 := by simp
 generalize hV0 : w.alloc (.cells MC 27) = V0 at *
 go_upto_region 2 with (first
   | (refine atL 27 (.tmp 2) ?_; go_must (refine ldR (by rfl) 27 (.tmp 2) (by rfl) w.heap.size (by rfl) MC A0 Tryz.underlying27 rfl s27 ?_))
   | (go_at_call 9; go_must (refine hmk.mono ?_; rintro e w1 ⟨rfl, hb1⟩))
   | (refine atS 34 (.tmp 5) (.tmp 21) ?_; go_must (refine st34n (by rfl) (.tmp 5) (.tmp 21) (by rfl) w1 w1.heap.size rfl (by rfl) zP (by rfl) (by rfl) rfl (pfL_one _ rfl rfl) ?_)))
 have b1 := hb1.alloc hb1.size (.cells zP 34)
 have B1 := b0.trans (b1.mono b0.size)
 have A1 := A0.bel b1
 generalize hV1 : w1.alloc (.cells zP 34) = V1 at *
 have hco1 := hco V1 (hm1 V1 B1)
 clear hco hmk hb1 hm1
 go_upto_region 3 with (first
   | (refine atL 27 (.tmp 2) ?_; go_must (refine ldR (by rfl) 27 (.tmp 2) (by rfl) w.heap.size (by rfl) MC A1 Tryz.underlying27 rfl s27 ?_))
   | (go_at_call 20; go_must (refine hco1.mono ?_; rintro e w2 ⟨rfl, hb2⟩))
   | (refine atS 30 (.tmp 7) (.tmp 26) ?_; go_must (refine st24n (by rfl) (.tmp 7) (.tmp 26) (by rfl) w2 w2.heap.size rfl (by rfl) CA (by rfl) (by rfl) hC32 ?_)))
 have b2 := hb2.alloc hb2.size (.cells (h8 CA) 30)
 have B2 := B1.trans (b2.mono B1.size)
 have A2 := A1.bel b2
 generalize hV2 : w2.alloc (.cells (h8 CA) 30) = V2 at *
 go_wp2_with (go_at_call 12; go_must (refine (hanc _).mono ?_; rintro e w3 ⟨rfl, hb3⟩))
 go_ret
 exact ⟨rfl, B2.trans (hb3.mono B2.size)⟩
theorem mk0_none {es : List En} {m : Mc} (h : mk0 es m = none) : m.st = 0 := by
 by_cases hs : m.st = 0
 · exact hs
 · unfold mk0 stG at h
   rw [if_neg (show ¬ m.bare.st = 0 from hs)] at h
   cases h
theorem proves_b (m : Mc) (sp : Option Addr) (n cap : Nat) (sk : Option Addr) (nk ck : Nat) (es : List En) (w : World) (hok : m.ok) (hM : MS w.heap.size w sp n cap m.me) (hES : ES w.heap.size w sk nk ck es) (hmM : mayM m = true) (h0 : mk0 es m = none) :
   Calls Tryz.prog 6 #[.agg (mcA m sp n cap), .slice sk nk ck] w fun e w' => e = .returned (.bool true) ∧ Below w.heap.size w w' := by
 have hs0 := mcA_size hok.r16 sp n cap
 have s27 : (Tryz.prog.info? 27).map (·.size) = some (mcA m sp n cap).size := by rw [hs0]; exact size27
 have A0 := Arr.new w 27 (mcA m sp n cap)
 have b0 := alloc_bel' w (.cells (mcA m sp n cap) 27)
 have M0 := (hM.below b0).mono (N' := (w.alloc (.cells (mcA m sp n cap) 27)).heap.size) (by simp)
 have K0 := (hES.below b0).mono (N' := (w.alloc (.cells (mcA m sp n cap) 27)).heap.size) (by simp)
 have hanc := fun u => anchored_any u
 have hmk := make_any (es := es) (w.alloc (.cells (mcA m sp n cap) 27)) hok M0 K0 (Nat.le_refl _)
 unfold MkP at hmk
 have hco := fun (u : World) (h : MS u.heap.size u sp n cap m.me) => refCommit_any m sp n cap u.heap.size u hok h
 have hC32 := coR_len m
 have m17 := mcA_17 hok.r16 sp n cap
 replace hmk : Calls Tryz.prog 9 #[.agg (mcA m sp n cap), .slice sk nk ck] (w.alloc (.cells (mcA m sp n cap) 27)) fun e w' => e = .returned (.tuple #[.agg zP, .int .i64 7]) ∧ Below (w.alloc (.cells (mcA m sp n cap) 27)).heap.size (w.alloc (.cells (mcA m sp n cap) 27)) w' := hmk.mono fun e w' ⟨hb, hc⟩ => by
   rcases hc with ⟨h1, -⟩ | ⟨-, -, rfl⟩ | ⟨-, m2, r2, v, vp, ts, h1, -⟩
   · rw [hmM] at h1; cases h1
   · exact ⟨rfl, hb⟩
   · rw [h0] at h1; cases h1
 have hcE : coE m = 0 := by unfold coE; rw [hmM]; rfl
 rw [hcE] at hco
 rw [mk0_none h0] at m17
 have hm1 := fun (u : World) (hb : Below w.heap.size w u) => (hM.below hb).mono (N' := u.heap.size) hb.size
 generalize hMC : mcA m sp n cap = MC at *
 generalize hCA : coR m = CA at *
 go_enter Tryz.func6, Tryz.ntmps6
 go_upto_region 1 with fail
 have hV0s : (w.alloc (.cells MC 27)).heap.size = w.heap.size + 1 := by simp
 generalize hV0 : w.alloc (.cells MC 27) = V0 at *
 go_upto_region 2 with (first
   | (refine atL 27 (.tmp 2) ?_; go_must (refine ldR (by rfl) 27 (.tmp 2) (by rfl) w.heap.size (by rfl) MC A0 Tryz.underlying27 rfl s27 ?_))
   | (go_at_call 9; go_must (refine hmk.mono ?_; rintro e w1 ⟨rfl, hb1⟩))
   | (refine atS 34 (.tmp 5) (.tmp 21) ?_; go_must (refine st34n (by rfl) (.tmp 5) (.tmp 21) (by rfl) w1 w1.heap.size rfl (by rfl) zP (by rfl) (by rfl) rfl (pfL_one _ rfl rfl) ?_)))
 have b1 := hb1.alloc hb1.size (.cells zP 34)
 have B1 := b0.trans (b1.mono b0.size)
 have A1 := A0.bel b1
 generalize hV1 : w1.alloc (.cells zP 34) = V1 at *
 have hco1 := hco V1 (hm1 V1 B1)
 clear hco hmk hb1 hm1
 go_upto_region 3 with (first
   | (refine atL 27 (.tmp 2) ?_; go_must (refine ldR (by rfl) 27 (.tmp 2) (by rfl) w.heap.size (by rfl) MC A1 Tryz.underlying27 rfl s27 ?_))
   | (go_at_call 20; go_must (refine hco1.mono ?_; rintro e w2 ⟨rfl, hb2⟩))
   | (refine atS 30 (.tmp 7) (.tmp 26) ?_; go_must (refine st24n (by rfl) (.tmp 7) (.tmp 26) (by rfl) w2 w2.heap.size rfl (by rfl) CA (by rfl) (by rfl) hC32 ?_)))
 have b2 := hb2.alloc hb2.size (.cells (h8 CA) 30)
 have B2 := B1.trans (b2.mono B1.size)
 have A2 := A1.bel b2
 generalize hV2 : w2.alloc (.cells (h8 CA) 30) = V2 at *
 have k17 := (A2.cell 17).trans m17
 go_wp2_with (go_at_call 12; go_must (refine (hanc _).mono ?_; rintro e w3 ⟨rfl, hb3⟩; replace k17 := (hb3.cell (p := ⟨w.heap.size, 17, none⟩) A2.lt).trans k17))
 go_ret
 exact ⟨rfl, B2.trans (hb3.mono B2.size)⟩
theorem getN_few {d : Nat} {es : List En} {x : Int} {s : Wd} : ∀ {k : Nat} {vs : List Int} {s' : Wd}, getN (hW d es) x k s = some (vs, s') → s'.T.length = s.T.length + k
 | 0, vs, s', h => by cases h; rfl
 | k + 1, vs, s', h => by
   obtain ⟨vs0, s0, v, h1, h2, rfl⟩ := getN_split h
   have h3 := getN_few (k := k) h1
   simp only [hW, Option.some.injEq, Prod.mk.injEq] at h2
   rw [← h2.2]
   simp only [List.length_append, List.length_singleton, h3]
   omega
theorem setN_few {d : Nat} {es : List En} {x : Int} {W : Nat → Int} {s : Wd} : ∀ {k : Nat} {s' : Wd}, setN (hW d es) x W k s = some s' → s'.T.length = s.T.length + k
 | 0, s', h => by cases h; rfl
 | k + 1, s', h => by
   obtain ⟨s0, h1, h2⟩ := setN_split h
   have h3 := setN_few (k := k) h1
   simp only [hW, Option.some.injEq] at h2
   rw [← h2]
   simp only [List.length_append, List.length_singleton, h3]
   omega
theorem doG_few {d : Nat} {es : List En} {s r : Wd} {m m1 : Mc} {o i : Int} {a b c : Nat} (hg : doG (hW d es) (2 ^ d) m o a b c i s = some (m1, r)) : r.T.length ≤ s.T.length + 100 := by
 unfold doG at hg
 by_cases h17 : o = 17
 · rw [if_pos h17] at hg
   split at hg
   · rw [Option.bind_eq_some_iff] at hg
     obtain ⟨q, h1, h2⟩ := hg
     cases h2
     simp only [hW, Option.some.injEq] at h1
     rw [← h1]
     simp
   · cases hg; omega
 rw [if_neg h17] at hg
 by_cases h18 : o = 18
 · rw [if_pos h18] at hg
   split at hg
   · rw [Option.bind_eq_some_iff] at hg
     obtain ⟨q, h1, h2⟩ := hg
     cases h2
     simp only [hW, Option.some.injEq] at h1
     rw [← h1]
     simp
   · cases hg; omega
 rw [if_neg h18] at hg
 by_cases h23 : o = 23
 · rw [if_pos h23] at hg
   split at hg
   · next hin =>
     unfold hOk at hin
     obtain ⟨o1, -⟩ := of_decide_eq_true hin
     rw [Option.bind_eq_some_iff] at hg
     obtain ⟨q, h1, h2⟩ := hg
     rw [Option.bind_eq_some_iff] at h2
     obtain ⟨q2, h3, h4⟩ := h2
     cases h4
     have a1 := getN_few (vs := q.1) (s' := q.2) h1
     have a2 := setN_few h3
     omega
   · cases hg; omega
 rw [if_neg h23] at hg
 split at hg
 · split at hg
   · rw [Option.bind_eq_some_iff] at hg
     obtain ⟨q, h1, h2⟩ := hg
     rw [Option.bind_eq_some_iff] at h2
     obtain ⟨q2, h3, h4⟩ := h2
     cases h4
     obtain ⟨e, -, -, c3, -⟩ := pm_W (bs := q2.1) (s' := q2.2) h3
     have a1 := getN_few (vs := q.1) (s' := q.2) h1
     rw [c3]
     omega
   · cases hg; omega
 · cases hg; omega
theorem few_T {es : List En} {m m1 : Mc} {r : Wd} {ts : List Am} (hmM : mayM m = true) (hts : ts.map Am.acc = r.T) (h0 : mk0 es m = some (m1, r)) : ts.length ≤ 140737488355328 := by
 have hl : ts.length = r.T.length := by rw [← hts, List.length_map]
 have : r.T.length ≤ 200 := by
   unfold mk0 at h0
   · unfold mayM at hmM
     rw [Bool.and_eq_true] at hmM
     obtain ⟨d, -, hd⟩ := szB_p2 hmM.1
     rw [hd, Nat.log2_two_pow] at h0
     unfold stG at h0
     split at h0
     · split at h0
       · rw [Option.bind_eq_some_iff] at h0
         obtain ⟨q, h1, h2⟩ := h0
         have h3 : q.2.T.length = 1 := by
           simp only [hW, Option.some.injEq] at h1
           rw [← h1]
           rfl
         split at h2
         · have := doG_few h2
           omega
         · cases h2
           omega
       · cases h0; simp
     · cases h0; simp
 omega
theorem proves_c (m : Mc) (sp : Option Addr) (n cap : Nat) (sk : Option Addr) (nk ck : Nat) (es : List En) (w : World) (hok : m.ok) (hM : MS w.heap.size w sp n cap m.me) (hES : ES w.heap.size w sk nk ck es) (hmM : mayM m = true) {m1 : Mc} {r : Wd} (h0 : mk0 es m = some (m1, r)) :
   Calls Tryz.prog 6 #[.agg (mcA m sp n cap), .slice sk nk ck] w fun e w' => e = .returned (.bool true) ∧ Below w.heap.size w w' := by
 have hs0 := mcA_size hok.r16 sp n cap
 have s27 : (Tryz.prog.info? 27).map (·.size) = some (mcA m sp n cap).size := by rw [hs0]; exact size27
 have A0 := Arr.new w 27 (mcA m sp n cap)
 have b0 := alloc_bel' w (.cells (mcA m sp n cap) 27)
 have M0 := (hM.below b0).mono (N' := (w.alloc (.cells (mcA m sp n cap) 27)).heap.size) (by simp)
 have K0 := (hES.below b0).mono (N' := (w.alloc (.cells (mcA m sp n cap) 27)).heap.size) (by simp)
 have hanc := fun u => anchored_any u
 have hmk := make_any (es := es) (w.alloc (.cells (mcA m sp n cap) 27)) hok M0 K0 (Nat.le_refl _)
 unfold MkP at hmk
 have hco := fun (u : World) (h : MS u.heap.size u sp n cap m.me) => refCommit_any m sp n cap u.heap.size u hok h
 have hC32 := coR_len m
 have m17 := mcA_17 hok.r16 sp n cap
 have hes : ∀ e ∈ es, e.n = e.bs.length := fun e he => (hES.ok e he).body.len.out
 have hlen : m.me.length ≤ 4096 := by
   have h1 : szB m.me.length = true := by unfold mayM at hmM; rw [Bool.and_eq_true] at hmM; exact hmM.1
   obtain ⟨d, h2, h3⟩ := szB_p2 h1
   rw [h3]; exact pow12 h2
 replace hmk : Calls Tryz.prog 9 #[.agg (mcA m sp n cap), .slice sk nk ck] (w.alloc (.cells (mcA m sp n cap) 27)) fun e w' => ∃ (ts : List Am) (sv : Option Addr) (nv cv : Nat) (sb : Option Addr) (nb cb : Nat), e = .returned (.tuple #[.agg (pfL (mkP m r) (.slice sv nv cv) (.slice sb nb cb)).toArray, .int .i64 0]) ∧ (mkP m r).ok ∧ Hid (ts.map Am.acc = r.T) ∧ AS w'.heap.size w' sv nv cv ts ∧ BS w'.heap.size w' sb nb cb r.p ∧ Below (w.alloc (.cells (mcA m sp n cap) 27)).heap.size (w.alloc (.cells (mcA m sp n cap) 27)) w' := hmk.mono fun e w' ⟨hb, hc⟩ => by
   rcases hc with ⟨h1, -⟩ | ⟨-, h1, -⟩ | ⟨-, m2, r2, v, vp, ts, h1, rfl, hao, hts, hown, hbt, hsm, -⟩
   · rw [hmM] at h1; cases h1
   · rw [h0] at h1; cases h1
   · rw [h0] at h1
     cases h1
     have hpok := mkP_ok hok hlen hts hao hbt
     obtain ⟨sb, cb, rfl, hBS, -⟩ := own_bs hown hbt hsm
     obtain ⟨sv, cv, rfl, hAS⟩ := hao.as (few_T hmM hts h0)
     exact ⟨ts, sv, _, cv, sb, _, cb, rfl, hpok, Hid.mk' hts, hAS, hBS, hb⟩
 have hst := fun (u : World) (h : MS u.heap.size u sp n cap m.me) (h2 : ES u.heap.size u sk nk ck es) => refStep_any (es := es) m sp n cap sk nk ck u hok h h2
 unfold SpPost at hst
 have hckA := fun (ts : List Am) (h : ts.map Am.acc = r.T) (B : List Int) => chk_made (ts := ts) (B := B) hmM hok hes h0 h
 have hcE : coE m = 0 := by unfold coE; rw [hmM]; rfl
 rw [hcE] at hco
 have hco2 := fun (u : World) (m : Mc) (sp : Option Addr) (n cap : Nat) (hok : m.ok) (hM : MS u.heap.size u sp n cap m.me) => refCommit_any m sp n cap u.heap.size u hok hM
 have hD32 := coR_len (rO es m 1).1
 have hm1 := fun (u : World) (hb : Below w.heap.size w u) => (hM.below hb).mono (N' := u.heap.size) hb.size
 have hk1 := fun (u : World) (hb : Below w.heap.size w u) => (hES.below hb).mono (N' := u.heap.size) hb.size
 have hqA := run_eq24 hD32 hD32
 rw [decide_eq_true rfl] at hqA
 have hqB := run_eq24 hD32 hC32
 generalize hMC : mcA m sp n cap = MC at *
 generalize hCA : coR m = CA at *
 generalize hmB : (rO es m 1).1 = mB at *
 generalize (rO es m 1).2.2 = er1 at *
 clear hcE hes hM hES M0 K0
 go_enter Tryz.func6, Tryz.ntmps6
 go_upto_region 1 with fail
 have hV0s : (w.alloc (.cells MC 27)).heap.size = w.heap.size + 1 := by simp
 generalize hV0 : w.alloc (.cells MC 27) = V0 at *
 go_upto_region 2 with (first
   | (refine atL 27 (.tmp 2) ?_; go_must (refine ldR (by rfl) 27 (.tmp 2) (by rfl) w.heap.size (by rfl) MC A0 Tryz.underlying27 rfl s27 ?_))
   | (go_at_call 9; go_must (refine hmk.mono ?_; rintro e w1 ⟨ts, sv, nv, cv, sb, nb, cb, rfl, hpok, hts, hAS, hBS, hb1⟩; have hpz : ((pfL (mkP m r) (.slice sv nv cv) (.slice sb nb cb)).toArray).size = 53 := (by rw [List.size_toArray, pfL_len hpok.r16 hpok.rt]); have hp1 := pfL_one (mkP m r) (v1 := .slice sv nv cv) (v2 := .slice sb nb cb) rfl rfl))
   | (refine atS 34 (.tmp 5) (.tmp 21) ?_; go_must (refine st34n (by rfl) (.tmp 5) (.tmp 21) (by rfl) w1 w1.heap.size rfl (by rfl) _ (by rfl) (by rfl) hpz hp1 ?_)))
 have hck13 := fun (u : World) (B : List Int) (hB : B.length = 32) (hA : AS u.heap.size u sv nv cv ts) (hBS : BS u.heap.size u sb nb cb r.p) => check13_any (p := mkP m r) u hpok hB hA hBS (Nat.le_refl _)
 simp only [hckA ts hts.out] at hck13
 unfold CkP at hck13
 have s34 : (Tryz.prog.info? 34).map (·.size) = some ((pfL (mkP m r) (.slice sv nv cv) (.slice sb nb cb)).toArray).size := by rw [hpz]; exact size34
 generalize hPF : (pfL (mkP m r) (.slice sv nv cv) (.slice sb nb cb)).toArray = PF at *
 have b1 := hb1.alloc hb1.size (.cells PF 34)
 have B1 := b0.trans (b1.mono b0.size)
 have A1 := A0.bel b1
 have P1 := Arr.new w1 34 PF
 have AS1 := (hAS.below (alloc_bel' w1 (.cells PF 34))).mono (N' := (w1.alloc (.cells PF 34)).heap.size) (by simp)
 have BS1 := (hBS.below (alloc_bel' w1 (.cells PF 34))).mono (N' := (w1.alloc (.cells PF 34)).heap.size) (by simp)
 generalize hV1 : w1.alloc (.cells PF 34) = V1 at *
 generalize w1.heap.size = g5 at *
 have hco1 := hco V1 (hm1 V1 B1)
 clear hco hmk hb1 hckA hAS hBS hpok
 go_upto_region 3 with (first
   | (refine atL 27 (.tmp 2) ?_; go_must (refine ldR (by rfl) 27 (.tmp 2) (by rfl) w.heap.size (by rfl) MC A1 Tryz.underlying27 rfl s27 ?_))
   | (go_at_call 20; go_must (refine hco1.mono ?_; rintro e w2 ⟨rfl, hb2⟩))
   | (refine atS 30 (.tmp 7) (.tmp 26) ?_; go_must (refine st24n (by rfl) (.tmp 7) (.tmp 26) (by rfl) w2 w2.heap.size rfl (by rfl) CA (by rfl) (by rfl) hC32 ?_)))
 have b2 := hb2.alloc hb2.size (.cells (h8 CA) 30)
 have B2 := B1.trans (b2.mono B1.size)
 have A2 := A1.bel b2
 have P2 := P1.bel b2
 have C2 := Arr.new w2 30 (h8 CA)
 have AS2 := (AS1.below b2).mono b2.size
 have BS2 := (BS1.below b2).mono b2.size
 generalize hV2 : w2.alloc (.cells (h8 CA) 30) = V2 at *
 generalize w2.heap.size = g7 at *
 have hst2 := hst V2 (hm1 V2 B2) (hk1 V2 B2)
 clear hst hco1 hb2 b1 b2 A1 P1 AS1 BS1
 go_upto_region 8 with (first
   | (refine atL 27 (.tmp 2) ?_; go_must (refine ldR (by rfl) 27 (.tmp 2) (by rfl) w.heap.size (by rfl) MC A2 Tryz.underlying27 rfl s27 ?_))
   | (go_at_call 21; go_must (refine hst2.mono ?_; rintro e w3 ⟨sp3, n3, cap3, rfl, hokB, hM3, hb3, -⟩; have hsz3 := mcA_size hokB.r16 sp3 n3 cap3; have hon3 := mcA_one mB sp3 n3 cap3))
   | (refine atS 27 (.tmp 9) (.tmp 51) ?_; go_must (refine st45n (by rfl) (.tmp 9) (.tmp 51) (by rfl) w3 w3.heap.size rfl (by rfl) (mcA mB sp3 n3 cap3) (by rfl) (by rfl) hsz3 hon3 ?_)))
 have s273 : (Tryz.prog.info? 27).map (·.size) = some (mcA mB sp3 n3 cap3).size := by rw [hsz3]; exact size27
 have b3 := hb3.alloc hb3.size (.cells (mcA mB sp3 n3 cap3) 27)
 have B3 := B2.trans (b3.mono B2.size)
 have P3 := P2.bel b3
 have C3 := C2.bel b3
 have D3 := Arr.new w3 27 (mcA mB sp3 n3 cap3)
 have AS3 := (AS2.below b3).mono b3.size
 have BS3 := (BS2.below b3).mono b3.size
 have M3 := (hM3.below (alloc_bel' w3 (.cells (mcA mB sp3 n3 cap3) 27))).mono (N' := (w3.alloc (.cells (mcA mB sp3 n3 cap3) 27)).heap.size) (by simp)
 generalize hV3 : w3.alloc (.cells (mcA mB sp3 n3 cap3) 27) = V3 at *
 generalize w3.heap.size = g9 at *
 have hco3 := hco2 V3 mB sp3 n3 cap3 hokB M3
 generalize coE mB = er3 at *
 generalize hCB : coR mB = CB at *
 generalize mcA mB sp3 n3 cap3 = MB at *
 clear hst2 hb3 b3 A2 P2 C2 AS2 BS2 hM3 M3 hco2
 go_upto_region 9 with (first
   | (refine atL 27 (.tmp 9) ?_; go_must (refine ldR (by rfl) 27 (.tmp 9) (by rfl) g9 (by rfl) MB D3 Tryz.underlying27 rfl s273 ?_))
   | (go_at_call 20; go_must (refine hco3.mono ?_; rintro e w4 ⟨rfl, hb4⟩))
   | (refine atS 30 (.tmp 11) (.tmp 56) ?_; go_must (refine st24n (by rfl) (.tmp 11) (.tmp 56) (by rfl) w4 w4.heap.size rfl (by rfl) CB (by rfl) (by rfl) hD32 ?_)))
 have b4 := hb4.alloc hb4.size (.cells (h8 CB) 30)
 have B4 := B3.trans (b4.mono B3.size)
 have P4 := P3.bel b4
 have C4 := C3.bel b4
 have E4 := Arr.new w4 30 (h8 CB)
 have AS4 := (AS3.below b4).mono b4.size
 have BS4 := (BS3.below b4).mono b4.size
 generalize hV4 : w4.alloc (.cells (h8 CB) 30) = V4 at *
 generalize w4.heap.size = g11 at *
 have hc1 := hck13 V4 CA hC32 AS4 BS4
 rw [if_pos rfl] at hc1
 simp only [Option.getD_some, Option.isSome_some] at hc1
 clear hco3 hb4 b4 P3 C3 D3 AS3 BS3
 go_upto_region 10 with (first
   | (refine atL 30 (.tmp 7) ?_; go_must (refine ld24 (by rfl) (.tmp 7) (by rfl) g7 0 (by rfl) CA hC32 C4.range ?_))
   | (refine atL 34 (.tmp 5) ?_; go_must (refine ldR (by rfl) 34 (.tmp 5) (by rfl) g5 (by rfl) PF P4 Tryz.underlying34 rfl s34 ?_))
   | (go_at_call 13; go_must (refine hc1.mono ?_; rintro e w5 ⟨rfl, hb5⟩))
   | (refine atS 30 (.tmp 13) (.tmp 62) ?_; go_must (refine st24n (by rfl) (.tmp 13) (.tmp 62) (by rfl) w5 w5.heap.size rfl (by rfl) CB (by rfl) (by rfl) hD32 ?_)))
 have b5 := hb5.alloc hb5.size (.cells (h8 CB) 30)
 have B5 := B4.trans (b5.mono B4.size)
 have P5 := P4.bel b5
 have C5 := C4.bel b5
 have E5 := E4.bel b5
 have F5 := Arr.new w5 30 (h8 CB)
 have AS5 := (AS4.below b5).mono b5.size
 have BS5 := (BS4.below b5).mono b5.size
 generalize hV5 : w5.alloc (.cells (h8 CB) 30) = V5 at *
 generalize w5.heap.size = g13 at *
 have hc2 := hck13 V5 CB hD32 AS5 BS5
 have hX : ((if CA = CB then some CB else none : Option (List Int)).getD Z32).length = 32 := by
   split
   · exact hD32
   · exact Z32_len
 have hI : (if CA = CB then some CB else none : Option (List Int)).isSome = decide (CB = CA) := by
   by_cases h : CA = CB
   · rw [if_pos h, decide_eq_true h.symm]; rfl
   · rw [if_neg h, decide_eq_false (fun e => h e.symm)]; rfl
 rw [hI] at hc2
 generalize (if CA = CB then some CB else none : Option (List Int)).getD Z32 = XX at *
 generalize hbo : decide (CB = CA) = bo at *
 clear hc1 hb5 b5 P4 C4 E4 AS4 BS4 hck13 hI hbo
 go_upto_region 11 with (first
   | (refine atL 30 (.tmp 11) ?_; go_must (refine ld24 (by rfl) (.tmp 11) (by rfl) g11 0 (by rfl) CB hD32 E5.range ?_))
   | (refine atL 34 (.tmp 5) ?_; go_must (refine ldR (by rfl) 34 (.tmp 5) (by rfl) g5 (by rfl) PF P5 Tryz.underlying34 rfl s34 ?_))
   | (go_at_call 13; go_must (refine hc2.mono ?_; rintro e w6 ⟨rfl, hb6⟩))
   | (refine atS 30 (.tmp 15) (.tmp 68) ?_; go_must (refine st24n (by rfl) (.tmp 15) (.tmp 68) (by rfl) w6 w6.heap.size rfl (by rfl) XX (by rfl) (by rfl) hX ?_)))
 have b6 := hb6.alloc hb6.size (.cells (h8 XX) 30)
 have B6 := B5.trans (b6.mono B5.size)
 have C6 := C5.bel b6
 have E6 := E5.bel b6
 have F6 := F5.bel b6
 generalize hV6 : w6.alloc (.cells (h8 XX) 30) = V6 at *
 clear hc2 hb6 b6 P5 C5 E5 F5 AS5 BS5
 go_wp2_with (first
   | (go_at_call 12; go_must (refine (hanc V6).mono ?_; rintro e w7 ⟨rfl, hb7⟩; replace C6 := C6.bel hb7; replace E6 := E6.bel hb7; replace F6 := F6.bel hb7))
   | (refine atL 30 (.tmp 13) ?_; go_must (refine ld24g (by rfl) (.tmp 13) (by rfl) g13 0 (by rfl) CB hD32 F6.range ?_))
   | (refine atL 30 (.tmp 11) ?_; go_must (refine ld24g (by rfl) (.tmp 11) (by rfl) g11 0 (by rfl) CB hD32 E6.range ?_))
   | (refine atL 30 (.tmp 7) ?_; go_must (refine ld24g (by rfl) (.tmp 7) (by rfl) g7 0 (by rfl) CA hC32 C6.range ?_)))
 go_ret
 exact ⟨by simp, B6.trans (hb7.mono B6.size)⟩
theorem proves_walk (m : Mc) (C : Array Value) (sk : Option Addr) (nk ck : Nat) (es : List En) (w : World) (hV : MVV w m C) (hES : ES w.heap.size w sk nk ck es) :
   Calls Tryz.prog 6 #[.agg C, .slice sk nk ck] w fun e w' => e = .returned (.bool true) ∧ Below w.heap.size w w' := by
 obtain ⟨sp, n, cap, rfl, hM⟩ := hV.ex
 cases hm : mayM m with
 | false => exact proves_a m sp n cap sk nk ck es w hV.ok hM hES hm
 | true =>
   cases h0 : mk0 es m with
   | none => exact proves_b m sp n cap sk nk ck es w hV.ok hM hES hm h0
   | some q => exact proves_c m sp n cap sk nk ck es w hV.ok hM hES hm h0
end Go.Proofs.YtagebcbnenehfaaGreat
