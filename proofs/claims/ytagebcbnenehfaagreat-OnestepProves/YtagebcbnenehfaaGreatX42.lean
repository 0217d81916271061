/- Og, Oa, Ob, Oc. -/
import Derived.Test.YtagebcbnenehfaaGreatX41
namespace Go.Proofs.YtagebcbnenehfaaGreat
open Go.RowKit
set_option maxRecDepth 100000
set_option linter.unusedVariables false
set_option linter.unusedSimpArgs false
set_option maxHeartbeats 40000000
section
theorem ck_self {d n i : Nat} {L : List Int} (hd : d ≤ 12) (hn : n = 2 ^ d) (hL : L.length = n) (hi : i < n) : ckW (rW L) (i : Int) (L.getD i 0) (pv d L i) = true := by
 have e1 : pv d L (i : Int) = pf d (lvs L) i := by unfold pv; rw [if_pos (by rw [hL]; exact_mod_cast hi), Int.toNat_natCast]
 unfold ckW
 refine decide_eq_true ⟨by rw [e1, pf_len]; exact hd, by rw [e1, pf_len, ← hn]; exact_mod_cast hi, ?_⟩
 rw [e1, Int.toNat_natCast, fo_set d (lvs L) i _ (by rw [← hn]; exact hi) (by rw [lvs_len, hL]; exact hi), (rW_pow hd (by rw [hL, hn])).1]
 congr 1
 rw [← lvs_set]
 congr 1
 apply List.ext_getElem?
 intro j
 by_cases e : i = j
 · subst e
   rw [List.getElem?_set_self (by omega), List.getD_eq_getElem?_getD, List.getElem?_eq_getElem (by omega)]
   rfl
 · rw [List.getElem?_set_ne e]
theorem pv_in {d : Nat} {L : List Int} {x : Int} (hL : L.length = 2 ^ d) (hx : x < (2 ^ d : Nat)) : pv d L x = pf d (lvs L) x.toNat := by
 unfold pv; rw [if_pos (by rw [hL]; exact hx)]
theorem okA_self {d : Nat} {L : List Int} {x : Int} (hd : d ≤ 12) (hL : L.length = 2 ^ d) (h0 : 0 ≤ x) (hx : x < (2 ^ d : Nat)) : okA d (rW L) x ⟨x, L.getD x.toNat 0, pv d L x⟩ = true := by
 unfold okA
 rw [Bool.and_eq_true]
 refine ⟨decide_eq_true ⟨rfl, by rw [pv_in hL hx, pf_len]⟩, ?_⟩
 have h := ck_self (d := d) (i := x.toNat) hd rfl hL (by omega)
 rw [Int.toNat_of_nonneg h0] at h
 exact h
theorem fo_put {d : Nat} {L : List Int} {x y : Int} (hd : d ≤ 12) (hL : L.length = 2 ^ d) (h0 : 0 ≤ x) (hx : x < (2 ^ d : Nat)) : fo x.toNat (lw y) (pv d L x) = rW (L.set x.toNat y) := by
 rw [pv_in hL hx, fo_set d (lvs L) x.toNat _ (by omega) (by rw [lvs_len, hL]; omega), ← lvs_set, (rW_pow hd (by rw [List.length_set, hL])).1]
structure Sm (d : Nat) (Tf : List Acc) (s : Wd) (t : TkM) : Prop where
 l : s.T ++ t.l.map Am.acc = Tf
 rt : t.rt = rW s.L
 len : s.L.length = 2 ^ d
variable {d : Nat} {es : List En} {Tf : List Acc} {s s' : Wd} {t : TkM} {x v : Int} {p : List Int} {vs : List Int}
theorem sm_head (h : Sm d Tf s t) {en : Acc} (hT : s.T ++ [en] <+: Tf) : ∃ a r, t.l = a :: r ∧ a.acc = en := by
 obtain ⟨rest, hr⟩ := hT
 have h1 : t.l.map Am.acc = en :: rest := by
   have := h.l.trans hr.symm
   rw [List.append_assoc] at this
   exact List.append_cancel_left this
 cases hl : t.l with
 | nil => rw [hl] at h1; cases h1
 | cons a r =>
   rw [hl, List.map_cons] at h1
   exact ⟨a, r, rfl, (List.cons.inj h1).1⟩
theorem sim_gt (hd : d ≤ 12) (h : Sm d Tf s t) (h0 : 0 ≤ x) (hx : x < (2 ^ d : Nat)) (hg : (hW d es).gt x s = some (v, s')) (hT : s'.T <+: Tf) : ∃ t1, (hM d p).gt x t = some (v, t1) ∧ Sm d Tf s' t1 ∧ t1.q = t.q := by
 simp only [hW, Option.some.injEq, Prod.mk.injEq] at hg
 obtain ⟨rfl, rfl⟩ := hg
 obtain ⟨a, r, hl, ha⟩ := sm_head h hT
 have hva : a.va = s.L.getD x.toNat 0 := congrArg Acc.va ha
 refine ⟨{ t with l := r }, ?_, ⟨?_, h.rt, h.len⟩, rfl⟩
 · show (match t.l with | [] => none | a :: r => if okA d t.rt x a.acc = true then some (a.va, { t with l := r }) else none) = _
   rw [hl]
   show (if okA d t.rt x a.acc = true then some (a.va, { t with l := r }) else none) = _
   rw [ha, h.rt, if_pos (okA_self hd h.len h0 hx), hva]
 · show (s.T ++ [_]) ++ r.map Am.acc = Tf
   rw [← h.l, hl, List.map_cons, ha, List.append_assoc]
   rfl
theorem sim_st {y : Int} (hd : d ≤ 12) (h : Sm d Tf s t) (h0 : 0 ≤ x) (hx : x < (2 ^ d : Nat)) (hg : (hW d es).st x y s = some s') (hT : s'.T <+: Tf) : ∃ t1, (hM d p).st x y t = some t1 ∧ Sm d Tf s' t1 ∧ t1.q = t.q := by
 simp only [hW, Option.some.injEq] at hg
 subst hg
 obtain ⟨a, r, hl, ha⟩ := sm_head h hT
 have hpa : a.pa = pv d s.L x := congrArg Acc.pa ha
 refine ⟨{ t with l := r, rt := fo x.toNat (lw y) a.pa }, ?_, ⟨?_, ?_, ?_⟩, rfl⟩
 · show (match t.l with | [] => none | a :: r => if okA d t.rt x a.acc = true then some { t with l := r, rt := fo x.toNat (lw y) a.pa } else none) = _
   rw [hl]
   show (if okA d t.rt x a.acc = true then some { t with l := r, rt := fo x.toNat (lw y) a.pa } else none) = _
   rw [ha, h.rt, if_pos (okA_self hd h.len h0 hx)]
 · show (s.T ++ [_]) ++ r.map Am.acc = Tf
   rw [← h.l, hl, List.map_cons, ha, List.append_assoc]
   rfl
 · show fo x.toNat (lw y) a.pa = rW (s.L.set x.toNat y)
   rw [hpa, fo_put hd h.len h0 hx]
 · show (s.L.set x.toNat y).length = 2 ^ d
   rw [List.length_set]; exact h.len
theorem getN_split {S : Type} {H : Hd S} {x : Int} {k : Nat} {s s' : S} {vs : List Int} (h : getN H x (k + 1) s = some (vs, s')) : ∃ vs0 s0 v, getN H x k s = some (vs0, s0) ∧ H.gt (x + k) s0 = some (v, s') ∧ vs = vs0 ++ [v] := by
 unfold getN at h
 cases h1 : getN H x k s with
 | none => rw [h1] at h; cases h
 | some q =>
   rw [h1] at h
   cases h2 : H.gt (x + k) q.2 with
   | none => simp [h2] at h
   | some q2 =>
     simp [h2] at h
     exact ⟨q.1, q.2, q2.1, rfl, by rw [← h.2]; exact h2, h.1.symm⟩
theorem setN_split {S : Type} {H : Hd S} {x : Int} {W : Nat → Int} {k : Nat} {s s' : S} (h : setN H x W (k + 1) s = some s') : ∃ s0, setN H x W k s = some s0 ∧ H.st (x + k) (W k) s0 = some s' := by
 unfold setN at h
 cases h1 : setN H x W k s with
 | none => rw [h1] at h; cases h
 | some q => rw [h1] at h; exact ⟨q, rfl, h⟩
theorem gt_T (hg : (hW d es).gt x s = some (v, s')) : s.T <+: s'.T ∧ s'.L = s.L ∧ s'.p = s.p ∧ v = s.L.getD x.toNat 0 := by
 simp only [hW, Option.some.injEq, Prod.mk.injEq] at hg
 obtain ⟨rfl, rfl⟩ := hg
 exact ⟨List.prefix_append _ _, rfl, rfl, rfl⟩
theorem st_T {y : Int} (hg : (hW d es).st x y s = some s') : s.T <+: s'.T ∧ s'.L = s.L.set x.toNat y ∧ s'.p = s.p := by
 simp only [hW, Option.some.injEq] at hg
 subst hg
 exact ⟨List.prefix_append _ _, rfl, rfl⟩
theorem sim_getN (hd : d ≤ 12) (h : Sm d Tf s t) (h0 : 0 ≤ x) : ∀ {k : Nat} {vs : List Int} {s' : Wd}, (0 < k → x + k ≤ (2 ^ d : Nat)) → getN (hW d es) x k s = some (vs, s') → s'.T <+: Tf → ∃ t', getN (hM d p) x k t = some (vs, t') ∧ Sm d Tf s' t' ∧ t'.q = t.q
 | 0, vs, s', _, hg, _ => by cases hg; exact ⟨t, rfl, h, rfl⟩
 | k + 1, vs, s', hk, hg, hT => by
   obtain ⟨vs0, s0, v, h1, h2, rfl⟩ := getN_split hg
   have hk' := hk (by omega)
   obtain ⟨t0, h3, h4, h5⟩ := sim_getN hd h h0 (k := k) (fun _ => by omega) h1 ((gt_T h2).1.trans hT)
   obtain ⟨t1, h6, h7, h8⟩ := sim_gt (p := p) hd h4 (by omega) (by omega) h2 hT
   refine ⟨t1, ?_, h7, h8.trans h5⟩
   unfold getN
   rw [h3]
   simp [h6]
theorem sim_setN {W : Nat → Int} (hd : d ≤ 12) (h : Sm d Tf s t) (h0 : 0 ≤ x) : ∀ {k : Nat} {s' : Wd}, (0 < k → x + k ≤ (2 ^ d : Nat)) → setN (hW d es) x W k s = some s' → s'.T <+: Tf → ∃ t', setN (hM d p) x W k t = some t' ∧ Sm d Tf s' t' ∧ t'.q = t.q
 | 0, s', _, hg, _ => by cases hg; exact ⟨t, rfl, h, rfl⟩
 | k + 1, s', hk, hg, hT => by
   obtain ⟨s0, h1, h2⟩ := setN_split hg
   have hk' := hk (by omega)
   obtain ⟨t0, h3, h4, h5⟩ := sim_setN hd h h0 (k := k) (fun _ => by omega) h1 ((st_T h2).1.trans hT)
   obtain ⟨t1, h6, h7, h8⟩ := sim_st (p := p) hd h4 (by omega) (by omega) h2 hT
   refine ⟨t1, ?_, h7, h8.trans h5⟩
   unfold setN
   rw [h3]
   exact h6
theorem getN_W : ∀ {k : Nat} {vs : List Int} {s' : Wd}, getN (hW d es) x k s = some (vs, s') → s.T <+: s'.T ∧ s'.L = s.L ∧ s'.p = s.p ∧ vs.length = k ∧ ∀ j, j < k → vs.getD j 0 = s.L.getD (x + j).toNat 0
 | 0, vs, s', h => by cases h; exact ⟨List.prefix_refl _, rfl, rfl, rfl, fun j hj => absurd hj (by omega)⟩
 | k + 1, vs, s', h => by
   obtain ⟨vs0, s0, v, h1, h2, rfl⟩ := getN_split h
   obtain ⟨a1, a2, a3, a4, a5⟩ := getN_W h1
   obtain ⟨b1, b2, b3, b4⟩ := gt_T h2
   refine ⟨a1.trans b1, b2.trans a2, b3.trans a3, by simp [a4], fun j hj => ?_⟩
   by_cases hlt : j < k
   · rw [List.getD_eq_getElem?_getD, List.getElem?_append_left (by omega), ← List.getD_eq_getElem?_getD]
     exact a5 j hlt
   · obtain rfl : j = k := by omega
     rw [List.getD_eq_getElem?_getD, List.getElem?_append_right (by omega), a4, Nat.sub_self, b4, a2]
     rfl
theorem setN_W4 {W : Nat → Int} {s' : Wd} (h0 : 0 ≤ x) (h : setN (hW d es) x W 4 s = some s') : s.T <+: s'.T ∧ s'.L = put4 s.L x.toNat W ∧ s'.p = s.p := by
 obtain ⟨s3, h3, h4⟩ := setN_split h
 obtain ⟨s2, h2, h3⟩ := setN_split h3
 obtain ⟨s1, h1, h2⟩ := setN_split h2
 obtain ⟨s0, h0', h1⟩ := setN_split h1
 cases h0'
 obtain ⟨a1, a2, a3⟩ := st_T h1
 obtain ⟨b1, b2, b3⟩ := st_T h2
 obtain ⟨c1, c2, c3⟩ := st_T h3
 obtain ⟨d1, d2, d3⟩ := st_T h4
 refine ⟨a1.trans (b1.trans (c1.trans d1)), ?_, by rw [d3, c3, b3, a3]⟩
 rw [d2, c2, b2, a2]
 unfold put4
 rw [show (x + ((0 : Nat) : Int)).toNat = x.toNat by omega, show (x + ((0 + 1 : Nat) : Int)).toNat = x.toNat + 1 by omega, show (x + ((0 + 1 + 1 : Nat) : Int)).toNat = x.toNat + 2 by omega, show (x + ((0 + 1 + 1 + 1 : Nat) : Int)).toNat = x.toNat + 3 by omega]
theorem fromB_congr {W W' : Nat → Int} {k j : Nat} (h : ∀ t, t < k → W t = W' t) (hj : j < 8 * k) : fromB W j = fromB W' j := by
 unfold fromB
 rw [h (j / 8) (by omega)]
theorem fbL_congr {W W' : Nat → Int} {k n : Nat} (h : ∀ t, t < k → W t = W' t) (hn : n ≤ 8 * k) : fbL W n = fbL W' n := by
 unfold fbL
 exact List.map_congr_left fun j hj => fromB_congr h (by have := List.mem_range.1 hj; omega)
theorem fmL_congr {W W' : Nat → Int} (h : ∀ t, t < 4 → W t = W' t) : fmL W = fmL W' := by
 unfold fmL
 exact List.map_congr_left fun j hj => fromB_congr h (by have := List.mem_range.1 hj; omega)
theorem pm_W {X bs : List Int} {s' : Wd} (h : (hW d es).pm X s = some (bs, s')) : ∃ e, pre es X = some e ∧ bs = e.bs ∧ s'.T = s.T ∧ s'.L = s.L ∧ s'.p = e.bs ∧ shl e.bs = X ∧ e ∈ es := by
 simp only [hW] at h
 cases he : pre es X with
 | none => rw [he] at h; cases h
 | some e =>
   rw [he] at h
   simp only [Option.map_some, Option.some.injEq, Prod.mk.injEq] at h
   refine ⟨e, rfl, h.1.symm, by rw [← h.2], by rw [← h.2], by rw [← h.2], ?_, ?_⟩
   · unfold pre at he
     split at he
     · split at he
       · next h1 => cases he; exact h1
       · cases he
     · cases he
   · unfold pre at he
     split at he
     · next f hf =>
       split at he
       · cases he; exact List.mem_of_find?_eq_some hf
       · cases he
     · cases he
theorem sim_doG {m m1 : Mc} {o i : Int} {a b c : Nat} {r : Wd} (hd : d ≤ 12) (hU : ∀ k, U64 (m.get k)) (h : Sm d r.T s t) (hp0 : s.p = []) (hg : doG (hW d es) (2 ^ d) m o a b c i s = some (m1, r)) : ∃ t', doG (hM d r.p) (2 ^ d) m o a b c i t = some (m1, t') ∧ Sm d r.T r t' ∧ (r.p = [] ∨ t'.q = true) := by
 unfold doG at hg ⊢
 by_cases h17 : o = 17
 · rw [if_pos h17] at hg ⊢
   by_cases hin : addr m b i < (2 ^ d : Nat)
   · rw [if_pos hin] at hg ⊢
     rw [Option.bind_eq_some_iff] at hg
     obtain ⟨q, h1, h2⟩ := hg
     cases h2
     obtain ⟨t1, h3, h4, h5⟩ := sim_gt (p := q.2.p) (t := t) hd h (by unfold addr; rw [IntKind.wrap_u64]; omega) hin (v := q.1) (s' := q.2) h1 (List.prefix_refl _)
     exact ⟨t1, by rw [h3]; rfl, h4, .inl ((gt_T (v := q.1) (s' := q.2) h1).2.2.1.trans hp0)⟩
   · rw [if_neg hin] at hg ⊢
     cases hg
     exact ⟨t, rfl, h, .inl hp0⟩
 rw [if_neg h17] at hg ⊢
 by_cases h18 : o = 18
 · rw [if_pos h18] at hg ⊢
   by_cases hin : addr m b i < (2 ^ d : Nat)
   · rw [if_pos hin] at hg ⊢
     rw [Option.bind_eq_some_iff] at hg
     obtain ⟨q, h1, h2⟩ := hg
     cases h2
     obtain ⟨t1, h3, h4, h5⟩ := sim_st (p := r.p) (t := t) hd h (by unfold addr; rw [IntKind.wrap_u64]; omega) hin (s' := r) h1 (List.prefix_refl _)
     exact ⟨t1, by rw [h3]; rfl, h4, .inl ((st_T (s' := r) h1).2.2.trans hp0)⟩
   · rw [if_neg hin] at hg ⊢
     cases hg
     exact ⟨t, rfl, h, .inl hp0⟩
 rw [if_neg h18] at hg ⊢
 by_cases h23 : o = 23
 · rw [if_pos h23] at hg ⊢
   by_cases hin : hOk m (2 ^ d) i (m.get a) (m.get b) (m.get c) = true
   · rw [if_pos hin] at hg ⊢
     unfold hOk at hin
     obtain ⟨o1, o2, o3, o4⟩ := of_decide_eq_true hin
     have hc0 := (hU c).1
     rw [Option.bind_eq_some_iff] at hg
     obtain ⟨q, h1, h2⟩ := hg
     rw [Option.bind_eq_some_iff] at h2
     obtain ⟨q2, h3, h4⟩ := h2
     cases h4
     have hW4 := setN_W4 (hU a).1 h3
     have hWg := getN_W (vs := q.1) (s' := q.2) h1
     obtain ⟨t1, a1, a2, a3⟩ := sim_getN (p := r.p) hd h (hU b).1 (vs := q.1) (s' := q.2) (fun h' => by omega) h1 hW4.1
     obtain ⟨t2, b1, b2, b3⟩ := sim_setN (p := r.p) hd a2 (hU a).1 (fun h' => by omega) h3 (List.prefix_refl _)
     exact ⟨t2, by rw [a1]; simp only [Option.bind_some]; rw [b1]; rfl, b2, .inl (by rw [hW4.2.2, hWg.2.2.1, hp0])⟩
   · rw [if_neg hin] at hg ⊢
     cases hg
     exact ⟨t, rfl, h, .inl hp0⟩
 rw [if_neg h23] at hg ⊢
 by_cases h24 : o = 24 ∨ o = 25
 · rw [if_pos h24] at hg ⊢
   by_cases hin : m.get b + 4 ≤ (2 ^ d : Nat)
   · rw [if_pos hin] at hg ⊢
     rw [Option.bind_eq_some_iff] at hg
     obtain ⟨q, h1, h2⟩ := hg
     rw [Option.bind_eq_some_iff] at h2
     obtain ⟨q2, h3, h4⟩ := h2
     cases h4
     obtain ⟨e, c1, c2, c3, c4, c5, c6, c7⟩ := pm_W (bs := q2.1) (s' := q2.2) h3
     obtain ⟨t1, a1, a2, a3⟩ := sim_getN (p := q2.2.p) hd h (hU b).1 (vs := q.1) (s' := q.2) (fun h' => by omega) h1 (by rw [c3]; exact List.prefix_refl _)
     refine ⟨{ t1 with q := true }, ?_, ⟨by rw [c3]; exact c3 ▸ a2.l, by rw [c4]; exact a2.rt, by rw [c4]; exact a2.len⟩, .inr rfl⟩
     rw [a1]
     simp only [Option.bind_some]
     have hpm : (hM d q2.2.p).pm (fmL fun t => q.1.getD t 0) t1 = some (q2.1, { t1 with q := true }) := by
       show (if shl q2.2.p = fmL (fun t => q.1.getD t 0) then some (q2.2.p, { t1 with q := true }) else none) = _
       rw [c5, if_pos c6, c2]
     rw [hpm]
     rfl
   · rw [if_neg hin] at hg ⊢
     cases hg
     exact ⟨t, rfl, h, .inl hp0⟩
 rw [if_neg h24] at hg ⊢
 cases hg
 exact ⟨t, rfl, h, .inl hp0⟩
theorem doG_T {m m1 : Mc} {o i : Int} {a b c : Nat} {r : Wd} (hU : ∀ k, U64 (m.get k)) (hg : doG (hW d es) (2 ^ d) m o a b c i s = some (m1, r)) : s.T <+: r.T := by
 unfold doG at hg
 by_cases h17 : o = 17
 · rw [if_pos h17] at hg
   split at hg
   · rw [Option.bind_eq_some_iff] at hg
     obtain ⟨q, h1, h2⟩ := hg
     cases h2
     exact (gt_T (v := q.1) (s' := q.2) h1).1
   · cases hg; exact List.prefix_refl _
 rw [if_neg h17] at hg
 by_cases h18 : o = 18
 · rw [if_pos h18] at hg
   split at hg
   · rw [Option.bind_eq_some_iff] at hg
     obtain ⟨q, h1, h2⟩ := hg
     cases h2
     exact (st_T h1).1
   · cases hg; exact List.prefix_refl _
 rw [if_neg h18] at hg
 by_cases h23 : o = 23
 · rw [if_pos h23] at hg
   split at hg
   · rw [Option.bind_eq_some_iff] at hg
     obtain ⟨q, h1, h2⟩ := hg
     rw [Option.bind_eq_some_iff] at h2
     obtain ⟨q2, h3, h4⟩ := h2
     cases h4
     exact (getN_W (vs := q.1) (s' := q.2) h1).1.trans (setN_W4 (hU a).1 h3).1
   · cases hg; exact List.prefix_refl _
 rw [if_neg h23] at hg
 split at hg
 · split at hg
   · rw [Option.bind_eq_some_iff] at hg
     obtain ⟨q, h1, h2⟩ := hg
     rw [Option.bind_eq_some_iff] at h2
     obtain ⟨q2, h3, h4⟩ := h2
     cases h4
     obtain ⟨e, -, -, c3, -⟩ := pm_W (bs := q2.1) (s' := q2.2) h3
     rw [c3]
     exact (getN_W (vs := q.1) (s' := q.2) h1).1
   · cases hg; exact List.prefix_refl _
 · cases hg; exact List.prefix_refl _
theorem sim_stG {m m1 : Mc} {L : List Int} {r : Wd} {l : List Am} (hd : d ≤ 12) (hL : L.length = 2 ^ d) (hU : ∀ k, U64 (m.get k)) (hpc : 0 ≤ m.pc) (hl : l.map Am.acc = r.T) (hg : stG (hW d es) (2 ^ d) m ⟨L, [], []⟩ = some (m1, r)) : ∃ t', stG (hM d r.p) (2 ^ d) m ⟨l, rW L, false⟩ = some (m1, t') ∧ Sm d r.T r t' ∧ (r.p = [] ∨ t'.q = true) := by
 have h : Sm d r.T ⟨L, [], []⟩ ⟨l, rW L, false⟩ := ⟨by simpa using hl, rfl, hL⟩
 unfold stG at hg ⊢
 by_cases hst : m.st = 0
 · rw [if_pos hst] at hg ⊢
   by_cases hin : m.pc < (2 ^ d : Nat)
   · rw [if_pos hin] at hg ⊢
     rw [Option.bind_eq_some_iff] at hg
     obtain ⟨q, h1, h2⟩ := hg
     by_cases hk : dOk q.1 = true
     · rw [if_pos hk] at h2
       obtain ⟨t1, a1, a2, a3⟩ := sim_gt (p := r.p) hd h hpc hin (v := q.1) (s' := q.2) h1 (doG_T hU h2)
       obtain ⟨t2, b1, b2, b3⟩ := sim_doG hd hU a2 ((gt_T (v := q.1) (s' := q.2) h1).2.2.1) h2
       exact ⟨t2, by rw [a1]; simp only [Option.bind_some]; rw [if_pos hk]; exact b1, b2, b3⟩
     · rw [if_neg hk] at h2
       cases h2
       obtain ⟨t1, a1, a2, a3⟩ := sim_gt (p := q.2.p) hd h hpc hin (v := q.1) (s' := q.2) h1 (List.prefix_refl _)
       exact ⟨t1, by rw [a1]; simp only [Option.bind_some]; rw [if_neg hk], a2, .inl ((gt_T (v := q.1) (s' := q.2) h1).2.2.1)⟩
   · rw [if_neg hin] at hg ⊢
     cases hg
     exact ⟨_, rfl, h, .inl rfl⟩
 · rw [if_neg hst] at hg ⊢
   cases hg
   exact ⟨_, rfl, h, .inl rfl⟩
end
theorem info83 : (Tryz.prog.info? 83).map (fun i => (i.zero, i.size, i.bytes)) = some (some (.agg zAm), 3, 40) := by kernel_rfl
def flatA (es : List Am) : List Value := (es.map Am.cells).flatten
theorem flatA_app (es : List Am) (e : Am) : flatA (es ++ [e]) = flatA es ++ e.cells := by simp [flatA]
theorem flatA_at {es : List Am} {i : Nat} {e : Am} (he : es[i]? = some e) {j : Nat} {v : Value} (hv : e.cells[j]? = some v) : (flatA es)[i * 3 + j]? = some v := by
 induction es generalizing i with
 | nil => simp at he
 | cons a r ih =>
   have ha : a.cells.length = 3 := rfl
   have hj : j < 3 := (List.getElem?_eq_some_iff.1 hv).1
   simp only [flatA, List.map_cons, List.flatten_cons]
   cases i with
   | zero =>
     simp at he
     subst he
     rw [List.getElem?_append_left (by omega)]
     simpa using hv
   | succ i =>
     have := ih (i := i) (by simpa using he)
     rw [List.getElem?_append_right (by omega), ha, show (i + 1) * 3 + j - 3 = i * 3 + j by omega]
     exact this
structure AO (base : Nat) (w : World) (v : Value) (es : List Am) : Prop where
 own : w.ownsRow base 83 3 v es.length (flatA es)
 ok : ∀ e ∈ es, AmOK w.heap.size w e
 ap : ∀ e ∈ es, ∀ b off, e.sp = some ⟨b, off, none⟩ → base ≤ b ∧ b < w.heap.size ∧ some b ≠ v.ownBlock
theorem HS.move {N : Nat} {w w' : World} {sp : Option Addr} {n cap : Nat} {T : List (List Int)} (h : HS N w sp n cap T) {N' : Nat} (hk : ∀ b off, sp = some ⟨b, off, none⟩ → b < N' ∧ w'.heap[b]? = w.heap[b]?) : HS N' w' sp n cap T :=
 { h with at0 := fun h0 => let ⟨b, off, e, hbN, hB⟩ := h.at0 h0; ⟨b, off, e, (hk b off e).1, fun i X hX j v hv => (World.cell?_of_block (a := ⟨b, _, none⟩) (hk b off e).2).trans (hB i X hX j v hv)⟩ }
theorem AO.move {base : Nat} {w w' : World} {v : Value} {es : List Am} (h : AO base w v es) (hs : w.heap.size ≤ w'.heap.size) (h1 : ∀ k, v.ownBlock = some k → w'.heap[k]? = w.heap[k]?) (h2 : ∀ e ∈ es, ∀ b off, e.sp = some ⟨b, off, none⟩ → w'.heap[b]? = w.heap[b]?) : AO base w' v es :=
 ⟨own_same h.own h1, fun e he => ⟨(h.ok e he).path.move (fun b off hs' => ⟨by have := (h.ap e he b off hs').2.1; omega, h2 e he b off hs'⟩), (h.ok e he).ad, (h.ok e he).va⟩, fun e he b off hs' => by have := h.ap e he b off hs'; exact ⟨this.1, by omega, this.2.2⟩⟩
theorem AO.below {base : Nat} {w w' : World} {v : Value} {es : List Am} (h : AO base w v es) (hb : Below w.heap.size w w') : AO base w' v es :=
 h.move hb.size (fun k hk => hb.block k (own_lt h.own hk)) (fun e he b off hs => hb.block b (h.ap e he b off hs).2.1)
theorem AO.nil (base : Nat) (w : World) : AO base w (.slice none 0 0) [] := ⟨World.ownsRow_nil _ _ _ _, (fun e he => by cases he), (fun e he => by cases he)⟩
theorem AO.as {base : Nat} {w : World} {v : Value} {es : List Am} (h : AO base w v es) (hn : es.length ≤ 140737488355328) : ∃ sp cap, v = .slice sp es.length cap ∧ AS w.heap.size w sp es.length cap es := by
 obtain ⟨-, h' | ⟨g, cap, cur, rfl, hg, hh, hnc, hcm, hc, ht⟩⟩ := h.own
 · obtain ⟨rfl, h0⟩ := h'
   obtain rfl : es = [] := List.eq_nil_of_length_eq_zero h0
   exact ⟨none, 0, rfl, AS.nil0 _ _⟩
 · refine ⟨_, cap, rfl, ⟨rfl, (fun e => by cases e), hnc, by unfold maxLen at hcm; omega, hn, fun h0 => ⟨g, 0, rfl, (Array.getElem?_eq_some_iff.1 hh).1, fun i e he j u hu => ?_⟩, h.ok⟩⟩
   have hi := (List.getElem?_eq_some_iff.1 he).1
   have hj : j < 3 := (List.getElem?_eq_some_iff.1 hu).1
   rw [Nat.zero_add, cell_of_row w g _ cur 83 (0, 0) hh, ← Array.getElem?_toList, ← List.getElem?_take_of_lt (show i * 3 + j < es.length * 3 by omega), ht]
   exact flatA_at he hu
theorem AO.slice {base : Nat} {w : World} {v : Value} {es : List Am} (h : AO base w v es) : ∃ sp n cap, v = .slice sp n cap := by
 obtain ⟨-, h' | ⟨g, cap, cur, rfl, -⟩⟩ := h.own
 · exact ⟨_, _, _, h'.1⟩
 · exact ⟨_, _, _, rfl⟩
theorem wp_appA {o : Oper} {a : Act} {w : World} {K : Act → World → Prop} {Q : Exit → Act → World → Prop} (s x : Operand) (ho : o.op = .call { callee := .builtin .append, args := #[s, x], argTypes := #[31, 31] })
   (base : Nat) (v : Value) (es : List Am) (e : Am) (hs : a.eval s = v) (hE : AO base w v es) (gx c : Nat) (hx : a.eval x = .slice (some ⟨gx, 0, none⟩) 1 c) (hA : Arr w gx 83 e.arr) (he : AmOK w.heap.size w e)
   (hap : ∀ b off, e.sp = some ⟨b, off, none⟩ → base ≤ b ∧ b < w.heap.size ∧ some b ≠ v.ownBlock) (hk : es.length ≤ 1000000000) (hbase : base ≤ w.heap.size)
   (h : ∀ v' w', AO base w' v' (es ++ [e]) → w.grownBy w' v.ownBlock → (v'.ownBlock = v.ownBlock ∨ v'.ownBlock = some w.heap.size) → K (a.put o.dst v') w') : o.wp Tryz.prog a w K Q := by
 obtain ⟨i0, hi0, hz0, hz1, hz2⟩ := info_parts info83
 obtain ⟨v', w', hr, h2, h3, h4, h5⟩ := run_append_own_at (P := Tryz.prog) w base 31 o.type 83 i0 (.agg zAm) 3 40 Tryz.underlying31 hi0 hz0 hz1 hz2 rfl (by omega) v es.length _ hE.own ⟨gx, 0, none⟩ 1 c e.cells rfl (fun j u hj => by
   rw [Addr.add_mid, Nat.zero_add, hA.cell]
   simpa [Am.arr, Am.cells] using hj) (by simp [Am.cells, Value.oneCell']) (by unfold maxLen; omega) (by omega) hbase
 unfold Oper.wp execOp
 simp only [ho, resolve, invoke, builtin, Sem.run_bind, Sem.run_pure, Result.andThen_ok, List.map_toArray, List.map_cons, List.map_nil, hs, hx, hr]
 have hne : ∀ b, b < w.heap.size → some b ≠ v.ownBlock → some b ≠ v'.ownBlock := fun b hb h' e' => by
   rcases h5 with h5 | h5
   · exact h' (e'.trans h5)
   · rw [h5] at e'; have := Option.some.inj e'; omega
 have keep : ∀ f : Am, AmOK w.heap.size w f → (∀ b off, f.sp = some ⟨b, off, none⟩ → b < w.heap.size ∧ some b ≠ v.ownBlock) → AmOK w'.heap.size w' f := fun f hf hb =>
   ⟨hf.path.move (fun b off e1 => ⟨Nat.lt_of_lt_of_le (hb b off e1).1 h3.size, h3.block b (hb b off e1).1 (hb b off e1).2⟩), hf.ad, hf.va⟩
 refine h v' w' ⟨?_, fun f hf => ?_, fun f hf b off hs' => ?_⟩ h3 h5
 · rw [flatA_app, List.length_append]; exact h2
 · rcases List.mem_append.1 hf with hf | hf
   · exact keep f (hE.ok f hf) (fun b off e1 => (hE.ap f hf b off e1).2)
   · simp at hf; subst hf; exact keep f he (fun b off e1 => (hap b off e1).2)
 · have := h3.size
   rcases List.mem_append.1 hf with hf | hf
   · obtain ⟨a1, a2, a3⟩ := hE.ap f hf b off hs'
     exact ⟨a1, by omega, hne b a2 a3⟩
   · simp at hf; subst hf
     obtain ⟨a1, a2, a3⟩ := hap b off hs'
     exact ⟨a1, by omega, hne b a2 a3⟩
section
def Ap (F : Nat → Prop) (gW gM gt gl b : Nat) : Prop := ¬ F b ∧ b ≠ gW ∧ b ≠ gM ∧ b ≠ gt ∧ b ≠ gl
def wL (gM : Nat) (sk : Option Addr) (nk ck : Nat) (v vp : Value) : Array Value := #[.pointer (some ⟨gM, 0, none⟩), .slice sk nk ck, v, vp]
structure WI (N B gW gM gt ct gl cl d n m : Nat) (sk : Option Addr) (nk ck : Nat) (es : List En) (F : Nat → Prop) (s : Wd) (u : World) (v vp : Value) (ts : List Am) : Prop where
 blk : Arr u gW 76 (wL gM sk nk ck v vp)
 ao : AO B u v ts
 eq : Hid (ts.map Am.acc = s.T)
 vo : ∀ k, v.ownBlock = some k → Ap F gW gM gt gl k
 po : ∀ e ∈ ts, ∀ b off, e.sp = some ⟨b, off, none⟩ → Ap F gW gM gt gl b
 pre : u.ownsRow B 5 1 vp s.p.length (by8 s.p)
 pb : ∀ k, vp.ownBlock = some k → Ap F gW gM gt gl k ∧ v.ownBlock ≠ some k
 bts : Bts s.p
 sm : s.p.length ≤ 140737488355000
 me : ME u gM d n m s.L gt ct gl cl
 uL : ∀ k, U64 (s.L.getD k 0)
 kn : ES N u sk nk ck es
 nF : ¬ F gW ∧ ¬ F gM ∧ ¬ F gt ∧ ¬ F gl
 ne : gW ≠ gM ∧ gW ≠ gt ∧ gW ≠ gl
 le : N ≤ B ∧ B ≤ gW ∧ B ≤ gt ∧ B ≤ gl
 lt : ∀ b, F b → b < u.heap.size
theorem ME.lt {w : World} {g d n m : Nat} {L : List Int} {gt ct gl cl : Nat} (h : ME w g d n m L gt ct gl cl) : g < w.heap.size ∧ gt < w.heap.size ∧ gl < w.heap.size := let ⟨_, h1, _⟩ := h.ex; h1.lt
theorem ME.block {w w' : World} {g d n m : Nat} {L : List Int} {gt ct gl cl : Nat} (h : ME w g d n m L gt ct gl cl) (hb : ∀ k, k = g ∨ k = gt ∨ k = gl → w'.heap[k]? = w.heap[k]?) : ME w' g d n m L gt ct gl cl :=
 ⟨let ⟨T, h1, h2⟩ := h.ex; ⟨T, h1.block hb, h2⟩, h.hd, h.hn⟩
theorem AO.sp_lt {base : Nat} {w : World} {v : Value} {es : List Am} (h : AO base w v es) {e : Am} (he : e ∈ es) {b off : Nat} (hs : e.sp = some ⟨b, off, none⟩) : b < w.heap.size := (h.ap e he b off hs).2.1
section
variable {N B gW gM gt ct gl cl d n m : Nat} {sk : Option Addr} {nk ck : Nat} {es : List En} {F : Nat → Prop} {s : Wd} {u : World} {v vp : Value} {ts : List Am} {x y : Int}
theorem WI.keep {G : Nat → Prop} {u' : World} (h : WI N B gW gM gt ct gl cl d n m sk nk ck es F s u v vp ts) (hb : Below B u u') (hF : ∀ b, b < u.heap.size → ¬ F b → u'.heap[b]? = u.heap[b]?) (hG : ∀ b, G b → F b ∨ u.heap.size ≤ b) (hG2 : ∀ b, G b → b < u'.heap.size) : WI N B gW gM gt ct gl cl d n m sk nk ck es G s u' v vp ts := by
 have hlW := h.blk.lt
 have hlM := h.me.lt
 have nG : ∀ b, b < u.heap.size → ¬ F b → ¬ G b := fun b h1 h2 h3 => by
   rcases hG b h3 with e | e
   · exact h2 e
   · omega
 have hap : ∀ b, b < u.heap.size → Ap F gW gM gt gl b → Ap G gW gM gt gl b := fun b h1 h2 => ⟨nG b h1 h2.1, h2.2⟩
 exact ⟨(hF gW hlW h.nF.1).trans h.blk, h.ao.move hb.size (fun k hk => hF k (own_lt h.ao.own hk) (h.vo k hk).1) (fun e he b off hs => hF b (h.ao.sp_lt he hs) (h.po e he b off hs).1), h.eq,
   fun k hk => hap k (own_lt h.ao.own hk) (h.vo k hk), fun e he b off hs => hap b (h.ao.sp_lt he hs) (h.po e he b off hs),
   own_same h.pre (fun k hk => hF k (own_lt h.pre hk) (h.pb k hk).1.1), fun k hk => ⟨hap k (own_lt h.pre hk) (h.pb k hk).1, (h.pb k hk).2⟩, h.bts, h.sm,
   h.me.block (by rintro k (rfl | rfl | rfl); exact hF _ hlM.1 h.nF.2.1; exact hF _ hlM.2.1 h.nF.2.2.1; exact hF _ hlM.2.2 h.nF.2.2.2), h.uL, h.kn.below (hb.mono h.le.1),
   ⟨nG _ hlW h.nF.1, nG _ hlM.1 h.nF.2.1, nG _ hlM.2.1 h.nF.2.2.1, nG _ hlM.2.2 h.nF.2.2.2⟩, h.ne, h.le, hG2⟩
def WgP (N B gW gM gt ct gl cl d n m : Nat) (sk : Option Addr) (nk ck : Nat) (es : List En) (F : Nat → Prop) (s : Wd) (vp : Value) (v : Value) (ts : List Am) (x : Int) (u : World) (w' : World) : Prop :=
 ∃ v' a, WI N B gW gM gt ct gl cl d n m sk nk ck es F { s with T := s.T ++ [⟨x, s.L.getD x.toNat 0, pv d s.L x⟩] } w' v' vp (ts ++ [a]) ∧ Chg (fun k => k = gW ∨ v.ownBlock = some k) u w'
theorem appA {ops : Array Oper} {rest : List Oper} {o : Oper} {a : Act} {w : World} {Q : Exit → Act → World → Prop} (hgd : o.guard = none) (s x : Operand) (ho : o.op = .call { callee := .builtin .append, args := #[s, x], argTypes := #[31, 31] })
   (base : Nat) (v : Value) (es : List Am) (e : Am) (hs : a.eval s = v) (hE : AO base w v es) (gx c : Nat) (hx : a.eval x = .slice (some ⟨gx, 0, none⟩) 1 c) (hA : Arr w gx 83 e.arr) (he : AmOK w.heap.size w e)
   (hap : ∀ b off, e.sp = some ⟨b, off, none⟩ → base ≤ b ∧ b < w.heap.size ∧ some b ≠ v.ownBlock) (hk : es.length ≤ 1000000000) (hbase : base ≤ w.heap.size)
   (h : ∀ v' w', AO base w' v' (es ++ [e]) → w.grownBy w' v.ownBlock → (v'.ownBlock = v.ownBlock ∨ v'.ownBlock = some w.heap.size) → wpList Tryz.prog ops Q rest (a.put o.dst v') w') : wpList Tryz.prog ops Q (o :: rest) a w :=
 wpList_plain hgd fun _ hK => wp_appA s x ho base v es e hs hE gx c hx hA he hap hk hbase fun v' w' h1 h2 h3 => hK _ _ (h v' w' h1 h2 h3)
theorem wL_2 (gM : Nat) (sk : Option Addr) (nk ck : Nat) (v vp v' : Value) : (wL gM sk nk ck v vp).setIfInBounds 2 v' = wL gM sk nk ck v' vp := rfl
theorem wL_3 (gM : Nat) (sk : Option Addr) (nk ck : Nat) (v vp v' : Value) : (wL gM sk nk ck v vp).setIfInBounds 3 v' = wL gM sk nk ck v v' := rfl
theorem wi_noted {w1 w2 : World} {a : Am} {v' : Value} (h : WI N B gW gM gt ct gl cl d n m sk nk ck es F s u v vp ts) (hb1 : Below u.heap.size u w1) (hs1 : u.heap.size < w1.heap.size) (hao : AO B w2 v' (ts ++ [a])) (hgr : w1.grownBy w2 v.ownBlock) (hv' : v'.ownBlock = v.ownBlock ∨ v'.ownBlock = some w1.heap.size)
   (hacc : a.acc = ⟨x, s.L.getD x.toNat 0, pv d s.L x⟩) (hsp : ∀ b off, a.sp = some ⟨b, off, none⟩ → u.heap.size ≤ b) : WgP N B gW gM gt ct gl cl d n m sk nk ck es F s vp v ts x u (w2.setCell ⟨gW, 2, none⟩ v') := by
 have hlW := h.blk.lt
 have hlM := h.me.lt
 have hB : B ≤ u.heap.size := Nat.le_trans h.le.2.1 (Nat.le_of_lt hlW)
 have same : ∀ b, b < u.heap.size → v.ownBlock ≠ some b → w2.heap[b]? = u.heap[b]? := fun b h1 h2 => (hgr.block b (by omega) (fun e => h2 e.symm)).trans (hb1.block b h1)
 have sm3 : ∀ b, b < u.heap.size → v.ownBlock ≠ some b → b ≠ gW → (w2.setCell ⟨gW, 2, none⟩ v').heap[b]? = u.heap[b]? := fun b h1 h2 h3 => (Below.heap_setCell _ _ _ _ h3).trans (same b h1 h2)
 have nv : ∀ g, (g = gW ∨ g = gM ∨ g = gt ∨ g = gl) → v.ownBlock ≠ some g := fun g hg e => by
   have := h.vo g e
   rcases hg with rfl | rfl | rfl | rfl
   · exact this.2.1 rfl
   · exact this.2.2.1 rfl
   · exact this.2.2.2.1 rfl
   · exact this.2.2.2.2 rfl
 have hA2 : Arr w2 gW 76 (wL gM sk nk ck v vp) := (same gW hlW (nv gW (.inl rfl))).trans h.blk
 have fresh : ∀ b, u.heap.size ≤ b → Ap F gW gM gt gl b := fun b hb' => ⟨fun e => by have := h.lt b e; omega, by omega, by omega, by omega, by omega⟩
 have hvn : ∀ k, v'.ownBlock = some k → Ap F gW gM gt gl k := fun k hk => by
   rcases hv' with e | e
   · exact h.vo k (e.symm.trans hk)
   · have := Option.some.inj (e.symm.trans hk)
     exact fresh k (by omega)
 have hA3 := hA2.set 2 v'
 rw [wL_2] at hA3
 have hs2 := hgr.size
 have ne3 : ∀ b, b ≠ gW → (w2.setCell ⟨gW, 2, none⟩ v').heap[b]? = w2.heap[b]? := fun b hb => Below.heap_setCell _ _ _ _ hb
 have hao3 : AO B (w2.setCell ⟨gW, 2, none⟩ v') v' (ts ++ [a]) := hao.move (by simp) (fun k hk => ne3 k (hvn k hk).2.1) (fun e he b off hs => ne3 b (by
   rcases List.mem_append.1 he with he | he
   · exact (h.po e he b off hs).2.1
   · simp at he; subst he; have := hsp b off hs; omega))
 refine ⟨v', a, ⟨hA3, hao3, Hid.mk' (by rw [List.map_append, h.eq.out]; simp [hacc]), hvn, fun e he b off hs => ?_, ?_, fun k hk => ⟨(h.pb k hk).1, fun e => ?_⟩, h.bts, h.sm, ?_, h.uL, ?_, h.nF, h.ne, h.le, fun b hb => ?_⟩, ?_⟩
 · rcases List.mem_append.1 he with he | he
   · exact h.po e he b off hs
   · simp at he; subst he; exact fresh b (hsp b off hs)
 · exact own_same h.pre (fun k hk => sm3 k (own_lt h.pre hk) (h.pb k hk).2 (h.pb k hk).1.2.1)
 · have h1 := own_lt h.pre hk
   rcases hv' with e' | e'
   · exact (h.pb k hk).2 (e'.symm.trans e)
   · have := Option.some.inj (e'.symm.trans e); omega
 · exact h.me.block (by
     rintro k (rfl | rfl | rfl)
     · exact sm3 _ hlM.1 (nv _ (.inr (.inl rfl))) h.ne.1.symm
     · exact sm3 _ hlM.2.1 (nv _ (.inr (.inr (.inl rfl)))) h.ne.2.1.symm
     · exact sm3 _ hlM.2.2 (nv _ (.inr (.inr (.inr rfl)))) h.ne.2.2.symm)
 · have hle := h.le
   have hbv : ∀ k, v.ownBlock = some k → B ≤ k := fun k hk => by
     rcases h.ao.own.2 with ⟨e1, -⟩ | ⟨g, cap, cur, e1, hg, -⟩
     · rw [e1] at hk; simp [Value.ownBlock] at hk
     · rw [e1] at hk; simp [Value.ownBlock] at hk; omega
   exact h.kn.below ⟨hgr.os.trans hb1.os, hgr.tape.trans hb1.tape, hgr.output.trans hb1.output, by simp; omega, fun i hi => sm3 i (by omega) (fun e => by have := hbv i e; omega) (by omega)⟩
 · have := h.lt b hb
   simp; omega
 · exact ⟨hgr.os.trans hb1.os, hgr.tape.trans hb1.tape, hgr.output.trans hb1.output, by simp; omega, fun i hi hn => sm3 i hi (fun e => hn (.inr e)) (fun e => hn (.inl e))⟩
theorem wget_any (u : World) (h : WI N B gW gM gt ct gl cl d n m sk nk ck es F s u v vp ts) (hx : U64 x) (hr : ts.length < 1000) :
   Calls Tryz.prog 227 #[.pointer (some ⟨gW, 0, none⟩), .int .u64 x] u fun e w' => e = .returned (.int .u64 (s.L.getD x.toNat 0)) ∧ WgP N B gW gM gt ct gl cl d n m sk nk ck es F s vp v ts x u w' := by
 have hget := get_any gM d n m s.L gt ct gl cl x hx u h.me
 have hprv := prove_any gM d n m s.L gt ct gl cl x hx u h.me
 have hlW := h.blk.lt
 have c0 := h.blk.cell 0
 have c2 := h.blk.cell 2
 have f2 := h.blk.frozen 2
 change _ = some (Value.pointer (some ⟨gM, 0, none⟩)) at c0
 change _ = some v at c2
 have huL := h.uL x.toNat
 have hnote := fun (w1 w2 : World) (a : Am) (v' : Value) => wi_noted (x := x) (w1 := w1) (w2 := w2) (a := a) (v' := v') h
 obtain ⟨sv, nv, cv, rfl⟩ := h.ao.slice
 have hB : B ≤ u.heap.size := Nat.le_trans h.le.2.1 (Nat.le_of_lt hlW)
 unfold PvPost at hprv
 generalize hpv : pv d s.L x = PP at *
 generalize s.L.getD x.toNat 0 = yy at *
 generalize aE x n = e1 at *
 generalize aE x s.L.length = e2 at *
 go_enter Tryz.func227, Tryz.ntmps227
 go_upto_region 3 with (first
   | (go_at_call 230; go_must (refine hget.mono ?_; rintro e w0 ⟨rfl, h0⟩; replace h0 := h0.symm; subst h0))
   | (go_at_call 231; go_must (refine hprv.mono ?_; rintro e w1 ⟨sp, k, cap, rfl, -, hHS, hown, hb1⟩)))
 have k2 := (hb1.cell (p := ⟨gW, 2, none⟩) hlW).trans c2
 have bw : Below u.heap.size u (w1.alloc (.cells (Am.arr ⟨x, yy, sp, k, cap, PP⟩) 83)) := hb1.alloc hb1.size _
 have hbl : ∀ b off, sp = some ⟨b, off, none⟩ → u.heap.size ≤ b ∧ b < w1.heap.size := fun b off e => by
   obtain ⟨-, ⟨e1, -⟩ | ⟨g, cp, cur, e1, hg, hh, -⟩⟩ := hown
   · cases e1; cases e
   · cases e1; cases e; exact ⟨hg, (Array.getElem?_eq_some_iff.1 hh).1⟩
 have hE : AO B (w1.alloc (.cells (Am.arr ⟨x, yy, sp, k, cap, PP⟩) 83)) (.slice sv nv cv) ts := h.ao.below bw
 have hAm : AmOK (w1.alloc (.cells (Am.arr ⟨x, yy, sp, k, cap, PP⟩) 83)).heap.size (w1.alloc (.cells (Am.arr ⟨x, yy, sp, k, cap, PP⟩) 83)) ⟨x, yy, sp, k, cap, PP⟩ := ⟨(hHS.below (alloc_bel' w1 _)).mono (by simp), hx, huL⟩
 have hAr := Arr.new w1 83 (Am.arr ⟨x, yy, sp, k, cap, PP⟩)
 have hap : ∀ b off, (Am.mk x yy sp k cap PP).sp = some ⟨b, off, none⟩ → B ≤ b ∧ b < (w1.alloc (.cells (Am.arr ⟨x, yy, sp, k, cap, PP⟩) 83)).heap.size ∧ some b ≠ (Value.slice sv nv cv).ownBlock := fun b off e => by
   have := hbl b off e
   exact ⟨by omega, by simp; omega, fun e' => by have := own_lt h.ao.own e'.symm; omega⟩
 have hs1 := hb1.size
 clear hHS hprv hget
 go_upto_region 4 with (at_builtin; go_must (refine appA (by rfl) (.tmp 31) (.tmp 36) (by rfl) B (.slice sv nv cv) ts ⟨x, yy, sp, k, cap, PP⟩ (by rfl) hE w1.heap.size 1 (by rfl) hAr hAm hap (by omega) (by simp; omega) ?_; intro v' w2 hao hgr hv'; obtain ⟨sv', nv', cv', rfl⟩ := hao.slice; have hWP := hnote _ _ _ _ bw (by simp; omega) hao hgr (by simpa using hv') rfl (fun b off e => (hbl b off e).1); have k2b : w2.cell? ⟨gW, 2, none⟩ = some (.slice sv nv cv) := (World.cell?_of_block (hgr.block gW (by simp; omega) (fun e => (h.vo gW e.symm).2.1 rfl))).trans ((World.cell?_alloc_lt _ _ _ (by show gW < _; omega)).trans k2); have f2b : w2.frozen? ⟨gW, 2, none⟩ = false := (World.frozen?_of_block (hgr.block gW (by simp; omega) (fun e => (h.vo gW e.symm).2.1 rfl))).trans ((World.frozen?_of_block (bw.block gW hlW)).trans f2)))
 go_wp2_with fail
 go_ret
 exact ⟨rfl, hWP⟩
end
end
section
section
variable {N B gW gM gt ct gl cl d n m : Nat} {sk : Option Addr} {nk ck : Nat} {es : List En} {F : Nat → Prop} {s : Wd} {u : World} {v vp : Value} {ts : List Am} {x y : Int} {X : List Int}
theorem wi_set {w2 : World} (h : WI N B gW gM gt ct gl cl d n m sk nk ck es F s u v vp ts) (hme : ME w2 gM d n m (s.L.set x.toNat y) gt ct gl cl) (hc : Chg (GS gt gl) u w2) (hy : U64 y) : WI N B gW gM gt ct gl cl d n m sk nk ck es F { s with L := s.L.set x.toNat y } w2 v vp ts := by
 have hlW := h.blk.lt
 have hlM := h.me.lt
 have sm : ∀ b, b < u.heap.size → b ≠ gt → b ≠ gl → w2.heap[b]? = u.heap[b]? := fun b h1 h2 h3 => hc.block b h1 (by rintro (e | e); exact h2 e; exact h3 e)
 have hle := h.le
 refine ⟨(sm gW hlW h.ne.2.1 h.ne.2.2).trans h.blk, h.ao.move hc.size (fun k hk => sm k (own_lt h.ao.own hk) (h.vo k hk).2.2.2.1 (h.vo k hk).2.2.2.2) (fun e he b off hs => sm b (h.ao.sp_lt he hs) (h.po e he b off hs).2.2.2.1 (h.po e he b off hs).2.2.2.2), h.eq, h.vo, h.po,
   own_same h.pre (fun k hk => sm k (own_lt h.pre hk) (h.pb k hk).1.2.2.2.1 (h.pb k hk).1.2.2.2.2), h.pb, h.bts, h.sm, hme, fun k => ?_, h.kn.below ⟨hc.os, hc.tape, hc.output, hc.size, fun i hi => sm i (by omega) (by omega) (by omega)⟩, h.nF, h.ne, h.le, fun b hb => Nat.lt_of_lt_of_le (h.lt b hb) hc.size⟩
 rw [List.getD_eq_getElem?_getD, List.getElem?_set]
 split
 · split
   · exact hy
   · exact ⟨by simp, by simp⟩
 · rw [← List.getD_eq_getElem?_getD]; exact h.uL k
theorem wi_pre {w1 : World} {vp' : Value} {bs : List Int} (h : WI N B gW gM gt ct gl cl d n m sk nk ck es F s u v vp ts) (hb : Below u.heap.size u w1) (ho : w1.ownsRow u.heap.size 5 1 vp' bs.length (by8 bs)) (hbt : Bts bs) (hsm : bs.length ≤ 140737488355000) : WI N B gW gM gt ct gl cl d n m sk nk ck es F { s with p := bs } (w1.setCell ⟨gW, 3, none⟩ vp') v vp' ts := by
 have hlW := h.blk.lt
 have hlM := h.me.lt
 have hle := h.le
 have hs := hb.size
 have sm : ∀ b, b < u.heap.size → b ≠ gW → (w1.setCell ⟨gW, 3, none⟩ vp').heap[b]? = u.heap[b]? := fun b h1 h2 => (Below.heap_setCell _ _ _ _ h2).trans (hb.block b h1)
 have hge : ∀ k, vp'.ownBlock = some k → u.heap.size ≤ k := fun k hk => by
   rcases ho.2 with ⟨e1, -⟩ | ⟨g, cap, cur, e1, hg, -⟩
   · rw [e1] at hk; simp [Value.ownBlock] at hk
   · rw [e1] at hk; simp [Value.ownBlock] at hk; omega
 have hA3 := (h.blk.bel hb).set 3 vp'
 rw [wL_3] at hA3
 refine ⟨hA3, h.ao.move (by simp; omega) (fun k hk => sm k (own_lt h.ao.own hk) (h.vo k hk).2.1) (fun e he b off hs => sm b (h.ao.sp_lt he hs) (h.po e he b off hs).2.1), h.eq, h.vo, h.po,
   own_mono (own_same ho (fun k hk => Below.heap_setCell _ _ _ _ (fun e => by have := hge k hk; have e' : k = gW := e; omega))) (by omega), fun k hk => ⟨⟨fun e => by have := h.lt k e; have := hge k hk; omega, by have := hge k hk; omega, by have := hge k hk; omega, by have := hge k hk; omega, by have := hge k hk; omega⟩, fun e => by have := own_lt h.ao.own e; have := hge k hk; omega⟩, hbt, hsm,
   h.me.block (by rintro k (rfl | rfl | rfl); exact sm _ hlM.1 h.ne.1.symm; exact sm _ hlM.2.1 h.ne.2.1.symm; exact sm _ hlM.2.2 h.ne.2.2.symm), h.uL, h.kn.below ((hb.mono (by omega)).setCell (show N ≤ gW by omega) _), h.nF, h.ne, h.le, fun b hb' => by have := h.lt b hb'; simp; omega⟩
theorem wset_any (u : World) (h : WI N B gW gM gt ct gl cl d n m sk nk ck es F s u v vp ts) (hx : U64 x) (hy : U64 y) (hr : ts.length < 1000) :
   Calls Tryz.prog 229 #[.pointer (some ⟨gW, 0, none⟩), .int .u64 x, .int .u64 y] u fun e w' => e = .returned (.tuple #[]) ∧ (∃ v' a, WI N B gW gM gt ct gl cl d n m sk nk ck es F { s with T := s.T ++ [⟨x, s.L.getD x.toNat 0, pv d s.L x⟩], L := s.L.set x.toNat y } w' v' vp (ts ++ [a])) ∧ Chg (fun k => (k = gW ∨ v.ownBlock = some k) ∨ GS gt gl k) u w' := by
 have hg := wget_any u h hx hr
 unfold WgP at hg
 go_enter Tryz.func229, Tryz.ntmps229
 go_upto_region 1 with (go_at_call 227; go_must (refine hg.mono ?_; rintro e w1 ⟨rfl, v', a, hW1, hc1⟩; have k0 : w1.cell? ⟨gW, 0, none⟩ = some (.pointer (some ⟨gM, 0, none⟩)) := hW1.blk.cell 0; have hst := set_any gM d n m s.L gt ct gl cl x y hx w1 hW1.me; have hws := fun (w2 : World) => wi_set (w2 := w2) (x := x) (y := y) hW1; clear hg hW1))
 go_wp2_with (go_at_call 233; go_must (refine hst.mono ?_; rintro e w2 ⟨rfl, hme, hc2⟩))
 exact ⟨rfl, _, results_none Tryz.results229 _ _ _, rfl, ⟨v', a, hws w2 hme hc2 hy⟩, (hc1.mono (fun i _ h => .inl h)).trans (hc2.mono (fun i _ h => .inr h))⟩
theorem wpre_ok (u : World) {e : En} (h : WI N B gW gM gt ct gl cl d n m sk nk ck es F s u v vp ts) (hX : X.length = 32) (he : YtagebcbnenehfaaGreat.pre es X = some e) :
   Calls Tryz.prog 228 #[.pointer (some ⟨gW, 0, none⟩), .agg (h8 X)] u fun r w' => ∃ sp cap, r = .returned (.slice sp e.bs.length cap) ∧ BS w'.heap.size w' sp e.bs.length cap e.bs ∧ WI N B gW gM gt ct gl cl d n m sk nk ck es F { s with p := e.bs } w' v (.slice sp e.bs.length cap) ts ∧ Chg (fun k => k = gW) u w' := by
 have hlW := h.blk.lt
 have hN : N ≤ u.heap.size := Nat.le_trans h.le.1 (Nat.le_trans h.le.2.1 (Nat.le_of_lt hlW))
 have c1 := h.blk.cell 1
 have f3 := h.blk.frozen 3
 have c3 := h.blk.cell 3
 change _ = some (Value.slice sk nk ck) at c1
 change _ = some vp at c3
 have A0 := Arr.new u 30 (h8 X)
 have c1' : ∀ o, (u.alloc o).cell? ⟨gW, 1, none⟩ = some (.slice sk nk ck) := fun o => (World.cell?_alloc_lt _ _ _ hlW).trans c1
 have hen : EnOK N u e := h.kn.ok e (by
   unfold YtagebcbnenehfaaGreat.pre at he
   split at he
   · next f hf =>
     split at he
     · cases he; exact List.mem_of_find?_eq_some hf
     · cases he
   · cases he)
 have hbt := hen.body.bts
 have hsm := hen.body.small
 have hln := hen.body.len.out
 rw [hln] at hsm
 have hcl : ∀ z, Below u.heap.size u z → Calls Tryz.prog 232 #[.slice sk nk ck, .agg (h8 X)] z fun r w' => ∃ sp cap, r = .returned (.tuple #[.slice sp e.bs.length cap, .bool true]) ∧ BS w'.heap.size w' sp e.bs.length cap e.bs ∧ w'.ownsRow u.heap.size 5 1 (.slice sp e.bs.length cap) e.bs.length (by8 e.bs) ∧ Below z.heap.size z w' := fun z hz =>
   (preimage_any sk nk ck es X N z (h.kn.below (hz.mono hN)) hX).mono fun r w' ⟨hb, hr⟩ => by
     rcases hr with ⟨e', v', h1, rfl, h2⟩ | ⟨h1, -⟩
     · rw [he] at h1
       cases h1
       rw [hln] at h2
       obtain ⟨sp, cap, rfl, hB, -⟩ := own_bs h2 hbt hsm
       exact ⟨sp, cap, rfl, hB, own_mono h2 hz.size, hb⟩
     · rw [he] at h1; cases h1
 have hwp := fun (w1 : World) (vp' : Value) (hb : Below u.heap.size u w1) (ho : w1.ownsRow u.heap.size 5 1 vp' e.bs.length (by8 e.bs)) => wi_pre h hb ho hbt hsm
 obtain ⟨vs, vn, vc, rfl⟩ : ∃ a b c, vp = .slice a b c := by
   rcases h.pre.2 with ⟨e1, -⟩ | ⟨g, cap, cur, e1, -⟩
   · exact ⟨_, _, _, e1⟩
   · exact ⟨_, _, _, e1⟩
 generalize e.bs.length = nb at *
 generalize e.bs = bb at *
 clear he hln hen
 go_enter Tryz.func228, Tryz.ntmps228
 go_upto_region 1 with fail
 refine rgn (fun z => Below u.heap.size u z ∧ z.cell? ⟨gW, 1, none⟩ = some (.slice sk nk ck) ∧ z.rangeAt u.heap.size 0 (by8 X)) (⟨(alloc_bel' _ _).drew, c1' _, A0.range⟩) (fun hHeld => ?_)
 refine tk 0 rfl ?_
 refine tk 1 rfl ?_
 refine tk 2 rfl ?_
 refine tk3 3 rfl ?_
 refine tl 4 rfl (y24 (by rfl) (.tmp 3) rfl (u.heap.size) (0) rfl X hX (fun u hu => hu.2.2)) ?_
 refine rd 5 rfl (fun K hK => ?_)
 go_simp
 refine (hcl _ hHeld.1).mono ?_; rintro e w1 ⟨sp, cap, rfl, hBS, hown, hb1⟩; have hbu : Below u.heap.size u w1 := hHeld.1.trans (hb1.mono hHeld.1.size)
 go_wp2_with fail
 refine ko hK ⟨hHeld.1.trans (hb1.mono hHeld.1.size), (hb1.cell (block_lt_of_cell hHeld.2.1)).trans hHeld.2.1, fun j z hz => (hb1.cell (block_lt_of_cell (hHeld.2.2 j z hz))).trans (hHeld.2.2 j z hz)⟩ (fun hHeld => ?_)
 clear hK K
 refine tk 6 rfl ?_
 refine tk 7 rfl ?_
 refine tk 8 rfl ?_
 refine tk 9 rfl ?_
 refine tk 10 rfl ?_
 refine dn ?_
 have k3 := (h.blk.bel hbu).cell 3
 change _ = some (Value.slice vs vn vc) at k3
 have g3 := (h.blk.bel hbu).frozen 3
 have hW3 := hwp _ _ hbu hown
 have hc3 : Chg (fun k => k = gW) u (w1.setCell ⟨gW, 3, none⟩ (.slice sp nb cap)) := (Chg.of_below hbu).kSet _ (fun _ => rfl)
 have hgW : ∀ b, u.heap.size ≤ b → b ≠ gW := fun b hb => by omega
 have hBS3 : BS (w1.setCell ⟨gW, 3, none⟩ (.slice sp nb cap)).heap.size (w1.setCell ⟨gW, 3, none⟩ (.slice sp nb cap)) sp nb cap bb := by
   obtain ⟨sp', cap', e1, hB, -⟩ := own_bs (own_same hown (w' := w1.setCell ⟨gW, 3, none⟩ (.slice sp nb cap)) (fun k hk => Below.heap_setCell _ _ _ _ (fun e => by
     rcases hown.2 with ⟨e1, -⟩ | ⟨g, cp, cur, e1, hg, -⟩
     · rw [e1] at hk; simp [Value.ownBlock] at hk
     · rw [e1] at hk; simp [Value.ownBlock] at hk; have e' : k = gW := e; omega))) hbt hsm
   cases e1
   exact hB
 clear hcl hwp hBS hown
 go_wp2_with fail
 go_ret
 exact ⟨sp, cap, rfl, hBS3, hW3, hc3⟩
theorem wpre_no (u : World) (h : WI N B gW gM gt ct gl cl d n m sk nk ck es F s u v vp ts) (hX : X.length = 32) (he : YtagebcbnenehfaaGreat.pre es X = none) :
   Calls Tryz.prog 228 #[.pointer (some ⟨gW, 0, none⟩), .agg (h8 X)] u fun r w' => r = .panicked (refV 7) ∧ Below u.heap.size u w' := by
 have hlW := h.blk.lt
 have hN : N ≤ u.heap.size := Nat.le_trans h.le.1 (Nat.le_trans h.le.2.1 (Nat.le_of_lt hlW))
 have c1 := h.blk.cell 1
 have f3 := h.blk.frozen 3
 have c3 := h.blk.cell 3
 change _ = some (Value.slice sk nk ck) at c1
 change _ = some vp at c3
 have A0 := Arr.new u 30 (h8 X)
 have c1' : ∀ o, (u.alloc o).cell? ⟨gW, 1, none⟩ = some (.slice sk nk ck) := fun o => (World.cell?_alloc_lt _ _ _ hlW).trans c1
 have hcl : ∀ z, Below u.heap.size u z → Calls Tryz.prog 232 #[.slice sk nk ck, .agg (h8 X)] z fun r w' => r = .returned (.tuple #[.slice none 0 0, .bool false]) ∧ Below z.heap.size z w' := fun z hz =>
   (preimage_any sk nk ck es X N z (h.kn.below (hz.mono hN)) hX).mono fun r w' ⟨hb, hr⟩ => by
     rcases hr with ⟨e', v', h1, rfl, h2⟩ | ⟨h1, h2⟩
     · rw [he] at h1; cases h1
     · exact ⟨h2, hb⟩
 clear he
 go_enter Tryz.func228, Tryz.ntmps228
 go_upto_region 1 with fail
 refine rgn (fun z => Below u.heap.size u z ∧ z.cell? ⟨gW, 1, none⟩ = some (.slice sk nk ck) ∧ z.rangeAt u.heap.size 0 (by8 X)) (⟨(alloc_bel' _ _).drew, c1' _, A0.range⟩) (fun hHeld => ?_)
 refine tk 0 rfl ?_
 refine tk 1 rfl ?_
 refine tk 2 rfl ?_
 refine tk3 3 rfl ?_
 refine tl 4 rfl (y24 (by rfl) (.tmp 3) rfl (u.heap.size) (0) rfl X hX (fun u hu => hu.2.2)) ?_
 refine rd 5 rfl (fun K hK => ?_)
 go_simp
 refine (hcl _ hHeld.1).mono ?_; rintro e w1 ⟨rfl, hb1⟩; have hbu : Below u.heap.size u w1 := hHeld.1.trans (hb1.mono hHeld.1.size)
 go_wp2_with fail
 refine ko hK ⟨hHeld.1.trans (hb1.mono hHeld.1.size), (hb1.cell (block_lt_of_cell hHeld.2.1)).trans hHeld.2.1, fun j z hz => (hb1.cell (block_lt_of_cell (hHeld.2.2 j z hz))).trans (hHeld.2.2 j z hz)⟩ (fun hHeld => ?_)
 clear hK K
 refine tk 6 rfl ?_
 refine tk 7 rfl ?_
 refine tk 8 rfl ?_
 refine tk 9 rfl ?_
 refine tk 10 rfl ?_
 refine dn ?_
 clear hcl
 go_wp2_with fail
 exact ⟨rfl, rfl, hbu⟩
def IW (N B gW gM gt ct gl cl d n m : Nat) (sk : Option Addr) (nk ck : Nat) (es : List En) (F : Nat → Prop) (s : Wd) (u : World) : Prop := ∃ v vp ts, WI N B gW gM gt ct gl cl d n m sk nk ck es F s u v vp ts
theorem wi_le {k : Nat} (h : WI N B gW gM gt ct gl cl d n m sk nk ck es F s u v vp ts) (hk : v.ownBlock = some k) : B ≤ k := by
 rcases h.ao.own.2 with ⟨e1, -⟩ | ⟨g, cap, cur, e1, hg, -⟩
 · rw [e1] at hk; simp [Value.ownBlock] at hk
 · rw [e1] at hk; simp [Value.ownBlock] at hk; omega
theorem metW : Met 227 229 228 (hW d es) (IW N B gW gM gt ct gl cl d n m sk nk ck es) B (.pointer (some ⟨gW, 0, none⟩)) (refV 7) where
 base F s u := fun ⟨v, vp, ts, h⟩ => Nat.le_trans h.le.2.1 (Nat.le_of_lt h.blk.lt)
 own F s u := fun ⟨v, vp, ts, h⟩ => h.lt
 gu F s u x v s' := fun ⟨_, _, _, h⟩ hg => by
   simp only [hW, Option.some.injEq, Prod.mk.injEq] at hg
   rw [← hg.1]
   exact h.uL _
 keep F G s u u' := fun ⟨v, vp, ts, h⟩ hb hF hG hG2 => ⟨v, vp, ts, h.keep hb hF hG hG2⟩
 rkg x s v s' h := by
   simp only [hW, Option.some.injEq, Prod.mk.injEq] at h
   rw [← h.2]
   show (s.T ++ [_]).length ≤ s.T.length + 1
   simp
 rks x y s s' h := by
   simp only [hW, Option.some.injEq] at h
   rw [← h]
   show (s.T ++ [_]).length ≤ s.T.length + 1
   simp
 get F s u x := fun ⟨v, vp, ts, h⟩ hx hr => by
   have hl : ts.length < 1000 := by
     have : s.T.length < 1000 := hr
     rw [← h.eq.out] at this
     simpa using this
   refine (wget_any u h hx hl).mono ?_
   rintro e w' ⟨rfl, v', a, hW', hc⟩
   refine ⟨hc.below (fun i hi => ⟨by have := h.le; have := h.blk.lt; omega, ?_⟩), fun b hb => hc.block b (h.lt b hb) ?_, .inl ⟨_, _, rfl, h.uL _, rfl, v', vp, _, hW'⟩⟩
   · rintro (e | e)
     · have := h.le; omega
     · have := wi_le h e; omega
   · rintro (e | e)
     · exact h.nF.1 (e ▸ hb)
     · exact (h.vo b e).1 hb
 set F s u x y := fun ⟨v, vp, ts, h⟩ hx hy hr => by
   have hl : ts.length < 1000 := by
     have : s.T.length < 1000 := hr
     rw [← h.eq.out] at this
     simpa using this
   refine (wset_any u h hx hy hl).mono ?_
   rintro e w' ⟨rfl, ⟨v', a, hW'⟩, hc⟩
   refine ⟨hc.below (fun i hi => ⟨by have := h.le; have := h.blk.lt; omega, ?_⟩), fun b hb => hc.block b (h.lt b hb) ?_, .inl ⟨_, rfl, rfl, v', vp, _, hW'⟩⟩
   · rintro ((e | e) | (e | e))
     · have := h.le; omega
     · have := wi_le h e; omega
     · have := h.le; omega
     · have := h.le; omega
   · rintro ((e | e) | (e | e))
     · exact h.nF.1 (e ▸ hb)
     · exact (h.vo b e).1 hb
     · exact h.nF.2.2.1 (e ▸ hb)
     · exact h.nF.2.2.2 (e ▸ hb)
 pre F s u X := fun ⟨v, vp, ts, h⟩ hX => by
   cases he : YtagebcbnenehfaaGreat.pre es X with
   | none =>
     refine (wpre_no u h hX he).mono ?_
     rintro e w' ⟨rfl, hb⟩
     exact ⟨hb.mono (Nat.le_trans h.le.2.1 (Nat.le_of_lt h.blk.lt)), fun b hb' => hb.block b (h.lt b hb'), .inr ⟨by simp [hW, he], rfl⟩⟩
   | some e =>
     refine (wpre_ok u h hX he).mono ?_
     rintro r w' ⟨sp, cap, rfl, hB, hW', hc⟩
     refine ⟨hc.below (fun i hi => ⟨by have := h.le; have := h.blk.lt; omega, fun e => by have := h.le; omega⟩), fun b hb => hc.block b (h.lt b hb) (fun e => h.nF.1 (e ▸ hb)), .inl ⟨e.bs, _, sp, _, cap, by simp [hW, he], rfl, hB, v, _, ts, hW'⟩⟩
end
end
end Go.Proofs.YtagebcbnenehfaaGreat
