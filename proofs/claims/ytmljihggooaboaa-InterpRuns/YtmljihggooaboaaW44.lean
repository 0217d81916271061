/- Layer interp: SPre and SPlen of the document's run. -/
import Derived.Test.YtmljihggooaboaaW43
import Derived.Handy
import Derived.BigQuiet
import Derived.BigRegion
import Derived.Laws.MakeOwn
namespace Go.Proofs.Ytmljihggooaboaa
open Go.RowKit
set_option maxRecDepth 100000
set_option linter.unusedVariables false
set_option linter.unusedSimpArgs false

variable {R : World → Prop} {N gr gw n : Nat} {p0 p1 : Value} {es : List En} {kp : Option Addr} {kn kc : Nat} {fu gv nv : Nat} {W V : List Int} {d k : Nat} {t : StT (d + 1)} {cs : List Value} {ps : List Int}
set_option maxHeartbeats 4000000 in
theorem dst_pre {a b : Int} {j0 : Nat} {bs : List Int} (hR : RB R N) (w : World) (hN : N ≤ w.heap.size) (hK : KD R N gr gw n p0 p1 (.slice kp kn kc) fu gv nv ⟨W, V, k⟩ 0 0 w) (hM : StM N w (d + 1) cs t) (hok : okS ps nv (d + 1) t) (hps : ∀ p ∈ ps, p ≤ 64) (hkk : t.nd.k = 8) (hj : t.nd.v = j0) (hjn : j0 < nv) (hev : evs W V 8 t.nd.a = some [a, b]) (hUa : U64 a) (hUb : U64 b) (hRE : ∀ u, R u → ES N u kp kn kc es) (hpr : prW es W a = some bs) :
    Calls Try.prog 37 (stArgs gr gv nv cs) w (KQ R N gr gw n p0 p1 (.slice kp kn kc) fu gv nv ⟨0, 0, ⟨W, V.set j0 (pcN bs b.toNat 8), k⟩⟩ w) := by
  obtain ⟨hmy, hoa, hob, hoe⟩ := okS_s hok
  obtain ⟨sa, na, ca, sb, nb, cb, sc, nc, cc, hcs, hk0, hSa, hSb, hSc⟩ := hM
  rw [hj] at hcs
  subst hcs
  have hna : na ≤ 64 := by rw [hSa.len.out]; exact fewS hps hmy
  have b0 := ab w (.cells #[.int .u8 t.nd.k, .int .i64 (j0 : Int), .int .i64 t.nd.f, .int .i64 t.nd.t, .slice sa na ca, .slice sb nb cb, .slice sc nc cc] 78)
  have hK0 := hK.bl hR hN b0
  have A := Arr.new w 78 #[.int .u8 t.nd.k, .int .i64 (j0 : Int), .int .i64 t.nd.f, .int .i64 t.nd.t, .slice sa na ca, .slice sb nb cb, .slice sc nc cc]
  have hwg : w.heap.size ≠ gr ∧ w.heap.size ≠ gw ∧ w.heap.size ≠ gv := by have := hK.run.ar.lt; have := hK.run.aw.lt; have := hK.var.av.lt; omega
  have hgrU := hK0.run.ar.lt
  have hgwU := hK0.run.aw.lt
  have hgvU := hK0.var.av.lt
  have hlen := hSa.len
  have hSa0 := hSa.imp (b0.mono hN) (ExM.below (b0.mono hN) 8)
  have hSb0 := hSb.imp (b0.mono hN) (StM.below (b0.mono hN) d)
  have hSc0 := hSc.imp (b0.mono hN) (StM.below (b0.mono hN) d)
  have hcw0 : Ch (PD gr gw gv) w (w.alloc (.cells #[.int .u8 t.nd.k, .int .i64 (j0 : Int), .int .i64 t.nd.f, .int .i64 t.nd.t, .slice sa na ca, .slice sb nb cb, .slice sc nc cc] 78)) := Ch.ob b0
  have hNU : N ≤ (w.alloc (.cells #[.int .u8 t.nd.k, .int .i64 (j0 : Int), .int .i64 t.nd.f, .int .i64 t.nd.t, .slice sa na ca, .slice sb nb cb, .slice sc nc cc] 78)).heap.size := by simp; omega
  clear hSa hSb hSc hK b0
  unfold stArgs
  unfold stC
  have e4 : (t.nd.k == 4) = false := by simp; omega
  replace hkk := hid hkk
  replace hRE := hid hRE
  replace hpr := hid hpr
  replace hev := hid hev
  have k0 := A.cell 0
  go_enter Try.func37, Try.ntmps37
  go_upto_region 7 with fail
  generalize hUU : w.alloc (.cells #[.int .u8 t.nd.k, .int .i64 (j0 : Int), .int .i64 t.nd.f, .int .i64 t.nd.t, .slice sa na ca, .slice sb nb cb, .slice sc nc cc] 78) = U at *
  clear hUU k0
  have o0 : U.ownsRow U.heap.size 30 1 (.slice none 0 0) 0 (uL []) := World.ownsRow_nil _ _ _ _
  go_loopw [6, 7] (fun v i wr => ∃ (j : Nat) (X : List Int) (en : Int), i = .int .i64 (j : Int) ∧ j ≤ na ∧ X.length = j ∧ wr.ownsRow U.heap.size 30 1 v j (uL X) ∧ KD R N gr gw n p0 p1 (.slice kp kn kc) fu gv nv ⟨W, V, k⟩ en 0 wr ∧ Ch (fun k => k = gr) U wr ∧ Hid ((en = 0 ∧ evs W V 8 t.nd.a = (evs W V 8 (t.nd.a.drop j)).map (X ++ ·)) ∨ (en = 2 ∧ evs W V 8 t.nd.a = none))) (fun _ i _ => na - (intOf i).toNat)
  case atStart => exact ⟨0, [], 0, rfl, by omega, rfl, o0, hK0, Ch.refl _ _, hid (.inl ⟨rfl, by rw [List.drop_zero]; cases evs W V 8 t.nd.a <;> rfl⟩)⟩
  case round =>
    clear o0
    obtain ⟨j, X, en, rfl, hj, hXl, ho, hKe, hcu, hor⟩ := hrel
    have k4 := (hcu.arr A hwg.1).cell 4
    have hcs := hcu.size
    have hlow : Below N U wr := hcu.bl fun i hi => ⟨by omega, by have := hKe.l1; omega⟩
    by_cases hlt : j < na
    · have hlt' : (j : Int) < na := by omega
      obtain ⟨a, ha⟩ : ∃ a, t.nd.a[j]? = some a := ⟨t.nd.a[j]'(by rw [← hlen.out]; exact hlt), List.getElem?_eq_getElem _⟩
      have hfd := evs_drop (W := W) (V := V) ha
      obtain ⟨g, off, rfl, hg, hRg⟩ := hSa0.at0 (by omega)
      obtain ⟨cs, hrg, hMa⟩ := hRg j a ha
      have hrg2 := rb hrg hlow hg
      have hMa2 := ExM.below hlow 8 cs a hMa
      obtain ⟨ka, na2, va2, oa, spa, ma, capa, rfl⟩ := hMa.five
      have q0 := hrg2 0 _ rfl
      have q1 := hrg2 1 _ rfl
      have q2 := hrg2 2 _ rfl
      have q3 := hrg2 3 _ rfl
      have q4 := hrg2 4 _ rfl
      simp only [Nat.add_zero] at q0
      have hoka := hoa a (List.mem_of_getElem? ha)
      replace hg := hid hg
      by_cases hen : en = 0
      · subst hen
        have hcc := hid (dval_any hKe.n1 hKe.l1 8 wr _ a (by omega) hKe.run hKe.var hMa2 hoka)
        have hor2 : evs W V 8 t.nd.a = (evs W V 8 (t.nd.a.drop j)).map (X ++ ·) := by
          rcases hor.out with h | h
          · exact h.2
          · exact absurd h.1 (by omega)
        have hnx : Hid (∀ z, (∀ x, evX W V 8 a = some x → z = x) → (enO (evX W V 8 a) = 0 ∧ evs W V 8 t.nd.a = (evs W V 8 (t.nd.a.drop (j + 1))).map ((X ++ [z]) ++ ·)) ∨ (enO (evX W V 8 a) = 2 ∧ evs W V 8 t.nd.a = none)) := hid fun z hz => by
          cases hx : evX W V 8 a with
          | none => exact .inr ⟨rfl, by rw [hor2, hfd, hx]; rfl⟩
          | some x => exact .inl ⟨rfl, by rw [hor2, hfd, hx, hz x hx]; show Option.map _ (Option.map _ _) = _; cases evs W V 8 (t.nd.a.drop (j + 1)) <;> simp⟩
        have hkd : Hid (∀ w1, DunI gr gw n p0 p1 (.slice kp kn kc) W fu ((fu : Int) - k) (enO (evX W V 8 a)) 0 w1 → Ch (fun k => k = gr) wr w1 → KD R N gr gw n p0 p1 (.slice kp kn kc) fu gv nv ⟨W, V, k⟩ (enO (evX W V 8 a)) 0 w1) := hid fun w1 h1 h2 => hKe.gr' hR (by omega) h2 hKe.le h1
        clear hor hor2 hfd hRg hrg hrg2 hMa hMa2 hoka ha hKe hSa0
        generalize evX W V 8 a = ra at *
        go_wp2_with (first
          | (go_at_call 49; go_must (refine hcc.out.mono ?_; rintro e w1 ⟨z, rfl, hz, hzx, hD1, hc1⟩; have hs1 := hc1.size; have ho2 := ownCh ho hc1 (fun k hk => by omega); have cx := (Arr.new w1 30 #[.int .u64 z]).cell 0; have ho3 := ownBl ho2 (ab w1 (.cells #[.int .u64 z] 30))))
          | (at_builtin; go_must (refine ap64 (by rfl) (.tmp 53) (.tmp 62) (by rfl) U.heap.size _ j X (by rfl) ho3 w1.heap.size z (by rfl) cx (by omega) (by simp; omega) ?_; intro v1 w2 ho4 hg4)))
        go_roundw
        case rel =>
          have hbB : Below U.heap.size w1 w2 := ((Below.refl _ w1).alloc (by omega) _).grown hg4 (by simp; omega) (fun k e => ownGe ho3 k e)
          exact ⟨j + 1, X ++ [z], enO ra, by go_num, by omega, by simp [hXl], ho4, (hkd.out w1 hD1 hc1).upto hR hgrU hgwU hgvU hNU hbB, (hcu.trans hc1).upto hbB, hid (hnx.out z hzx.out)⟩
        case measure => simp [intOf]; omega
      · have hor2 : en = 2 ∧ evs W V 8 t.nd.a = none := by
          rcases hor.out with h | h
          · exact absurd h.1 hen
          · exact h
        obtain ⟨rfl, hvn⟩ := hor2
        have hcc := hid (expr_off (k := ka) (nn := na2) (v := va2) (o := oa) (sv := .slice spa ma capa) (va2 := .slice (some ⟨gv, 0, none⟩) nv nv) wr hKe.run (by omega))
        have hkd : Hid (∀ w1, Below wr.heap.size wr w1 → KD R N gr gw n p0 p1 (.slice kp kn kc) fu gv nv ⟨W, V, k⟩ 2 0 w1) := hid fun w1 h1 => hKe.bl hR (by omega) h1
        replace hvn := hid hvn
        clear hor hen hfd hRg hrg hrg2 hMa hMa2 hoka ha hKe hSa0
        go_wp2_with (first
          | (go_at_call 49; go_must (refine hcc.out.mono ?_; rintro e w1 ⟨rfl, hb1⟩; have hs1 := hb1.size; have ho2 := ownBl ho hb1; have cx := (Arr.new w1 30 #[.int .u64 0]).cell 0; have ho3 := ownBl ho2 (ab w1 (.cells #[.int .u64 0] 30))))
          | (at_builtin; go_must (refine ap64 (by rfl) (.tmp 53) (.tmp 62) (by rfl) U.heap.size _ j X (by rfl) ho3 w1.heap.size 0 (by rfl) cx (by omega) (by simp; omega) ?_; intro v1 w2 ho4 hg4)))
        go_roundw
        case rel =>
          have hbB : Below U.heap.size w1 w2 := ((Below.refl _ w1).alloc (by omega) _).grown hg4 (by simp; omega) (fun k e => ownGe ho3 k e)
          exact ⟨j + 1, X ++ [0], 2, by go_num, by omega, by simp [hXl], ho4, (hkd.out w1 hb1).upto hR hgrU hgwU hgvU hNU hbB, (hcu.trans (Ch.ob hb1)).upto hbB, hid (.inr ⟨rfl, hvn.out⟩)⟩
        case measure => simp [intOf]; omega
    · obtain rfl : j = na := by omega
      obtain ⟨rfl, rfl⟩ : en = 0 ∧ X = [a, b] := by
        rcases hor.out with h | h
        · have h2 := h.2
          rw [hev.out, List.drop_eq_nil_of_le (by rw [← hlen.out]; exact Nat.le_refl _)] at h2
          replace h2 : some [a, b] = some (X ++ []) := h2
          simp at h2
          exact ⟨h.1, h2.symm⟩
        · have h2 := h.2; rw [hev.out] at h2; cases h2
      have c6 := hKe.run.ar.cell 6
      have A' := hcu.arr A hwg.1
      have k0 := A'.cell 0
      have hcP : Ch (PD gr gw gv) w wr := hcw0.trans (hcu.imp fun k hk => .inl hk)
      have hNw : N ≤ wr.heap.size := by omega
      have e1 : (t.nd.k == 1) = false := by have := hkk.out; simp; omega
      have e2 : (t.nd.k == 2) = false := by have := hkk.out; simp; omega
      have e3 : (t.nd.k == 3) = false := by have := hkk.out; simp; omega
      have e5 : (t.nd.k == 5) = false := by have := hkk.out; simp; omega
      have e6 : (t.nd.k == 6) = false := by have := hkk.out; simp; omega
      have e7 : (t.nd.k == 7) = false := by have := hkk.out; simp; omega
      have e8 : (t.nd.k == 8) = true := by have := hkk.out; simp; omega
      have hna1 : j = 2 := by simpa using hXl.symm
      subst hna1
      obtain ⟨g, c, rfl, hgU, hgl, hcl⟩ := own_pos ho (by omega)
      have x0 := hcl 0 _ rfl
      have x1 := hcl 1 _ rfl
      have k1 : wr.cell? ⟨w.heap.size, 1, none⟩ = some (.int .i64 (j0 : Int)) := A'.cell 1
      have hjn' : (j0 : Int) < nv := by omega
      have hn64 := hKe.var.n64
      have hgg : g ≠ gr ∧ g ≠ gv := by omega
      have hcc := hid (dpre_any (es := es) (N := N) wr hKe.run (hRE.out wr hKe.r) hUa)
      rw [hpr.out] at hcc
      have hkd : Hid (∀ u (en : Int), DunI gr gw n p0 p1 (.slice kp kn kc) W fu ((fu : Int) - k) en 0 u → Ch (fun k => k = gr) wr u → KD R N gr gw n p0 p1 (.slice kp kn kc) fu gv nv ⟨W, V, k⟩ en 0 u ∧ Ch (PD gr gw gv) w u) := hid fun u en h1 h2 => ⟨hKe.gr' hR hNw h2 hKe.le h1, hcP.trans (h2.imp fun k hk => .inl hk)⟩
      unfold DpP at hcc
      have hes := hid fun (u : World) (hu : R u) => (hRE.out u hu)
      clear hor hKe hcl ho hSa0 hSb0 hSc0
      go_upto_region 32 with (go_at_call 53; go_must (refine hcc.out.mono ?_; rintro e w2 ⟨hc2, ⟨en, hq, hen, rfl, hD2⟩ | ⟨hq, -⟩⟩; rotate_left; (exact absurd hq (by simp))))
      obtain ⟨hK2, hcP2⟩ := hkd.out w2 0 hD2 hc2
      obtain rfl : bs = en.bs := by simpa using hq
      have hB := ((hes.out w2 hK2.r).ok en hen).body
      have T : ∀ (q o : Nat) (y : Value), q ≠ gr → wr.cell? ⟨q, o, none⟩ = some y → w2.cell? ⟨q, o, none⟩ = some y := fun q o y h1 h2 => (World.cell?_of_block (hc2.block q (block_lt_of_cell h2) h1)).trans h2
      have k1' := T _ _ _ hwg.1 k1
      have vc := hK2.var.av.cell j0
      rw [uA_get (by rw [hK2.var.len.out]; exact hjn)] at vc
      have vf := hK2.var.av.frozen j0
      have hsm := hB.small
      have x1' := T _ _ _ hgg.1 x1
      have hpc := hid (refPiece_any w2.drew (hB.below (dw1 (Below.refl N w2))) hUb)
      have hxU : U64 (pcN en.bs b.toNat 8) := pcN_u hB.bts _
      have hfin : Hid (KQ R N gr gw n p0 p1 (.slice kp kn kc) fu gv nv ⟨0, 0, ⟨W, V.set j0 (pcN en.bs b.toNat 8), k⟩⟩ w (.returned (.tuple #[])) (w2.drew.setCell ⟨gv, j0, none⟩ (.int .u64 (pcN en.bs b.toNat 8)))) := hid ⟨rfl, ⟨⟨hK2.run.ar.drew.setOther _ hK2.n1, hK2.run.aw.drew.setOther _ hK2.n2, hK2.run.ne, hK2.run.len, hK2.run.n10, hK2.run.wU⟩, ⟨by rw [← uA_set]; exact hK2.var.av.drew.set j0 _, hid (by rw [List.length_set]; exact hK2.var.len.out), hK2.var.n64, U_set hK2.var.vU hxU⟩, hK2.n1, hK2.n2, hK2.l1, hK2.l2, hK2.l3, hR _ _ (((Ch.refl (fun k => k = gv) w2).dw.st (g := gv) (j := j0) (.int .u64 (pcN en.bs b.toNat 8)) (fun _ => rfl)).bl fun i hi => ⟨by have := hc2.size; omega, by have := hK2.l3; omega⟩) hK2.r, hK2.le, hK2.fu4⟩, (hcP2.dw).st (g := gv) (j := j0) (.int .u64 (pcN en.bs b.toNat 8)) (fun _ => .inr (.inr rfl))⟩
      have hwv := hwg.2.2
      clear hK2 hkd hcc hD2 hB hes hq hen
      generalize (pcN en.bs b.toNat 8) = xv at *
      generalize V.getD j0 0 = old at *
      go_upto_region 33 with fail
      refine rgn (fun u => u.cell? ⟨w.heap.size, 1, none⟩ = some (.int .i64 (j0 : Int)) ∧ u.cell? ⟨g, 1, none⟩ = some (.int .u64 b)) ⟨k1', x1'⟩ (fun hS => ?_)
      refine tk2 0 rfl ?_
      refine tk2 1 rfl ?_
      refine tk2 2 rfl ?_
      refine tk2 3 rfl ?_
      refine tk2 4 rfl ?_
      refine tk2 5 rfl ?_
      refine tk2 6 rfl ?_
      refine rd 7 rfl (fun K hK => ?_)
      go_simp
      refine hpc.out.mono ?_
      rintro e w3 ⟨rfl, h⟩
      replace h := h.symm
      subst h
      go_wp2_with fail
      refine hK.out _ _ hS (fun hS4 => ?_)
      clear hK K
      try simp only [Act.put, List.setIfInBounds_toArray, List.set_cons_zero, List.set_cons_succ]
      refine tk2 8 rfl ?_
      refine rd 9 rfl (fun K hK => ?_)
      go_simp
      have T5 : ∀ (q o : Nat) (y : Value), gv ≠ q → w2.cell? ⟨q, o, none⟩ = some y → (w2.drew.setCell ⟨gv, j0, none⟩ (.int .u64 xv)).cell? ⟨q, o, none⟩ = some y := fun q o y h1 h2 => (World.cell?_setCell_far _ _ _ _ h1).trans h2
      refine hK.out _ _ ⟨T5 _ _ _ hwv.symm k1', T5 _ _ _ hgg.2.symm x1'⟩ (fun hS5 => ?_)
      clear hK K
      try simp only [Act.put, List.setIfInBounds_toArray, List.set_cons_zero, List.set_cons_succ]
      refine dn ?_
      go_wp2_with fail
      go_end0
      exact hfin.out
set_option maxHeartbeats 4000000 in
theorem dst_preno {a b : Int} {j0 : Nat} (hR : RB R N) (w : World) (hN : N ≤ w.heap.size) (hK : KD R N gr gw n p0 p1 (.slice kp kn kc) fu gv nv ⟨W, V, k⟩ 0 0 w) (hM : StM N w (d + 1) cs t) (hok : okS ps nv (d + 1) t) (hps : ∀ p ∈ ps, p ≤ 64) (hkk : t.nd.k = 8) (hj : t.nd.v = j0) (hjn : j0 < nv) (hev : evs W V 8 t.nd.a = some [a, b]) (hUa : U64 a) (hUb : U64 b) (hRE : ∀ u, R u → ES N u kp kn kc es) (hpr : prW es W a = none) :
    Calls Try.prog 37 (stArgs gr gv nv cs) w (KQ R N gr gw n p0 p1 (.slice kp kn kc) fu gv nv ⟨2, 0, ⟨W, V, k⟩⟩ w) := by
  obtain ⟨hmy, hoa, hob, hoe⟩ := okS_s hok
  obtain ⟨sa, na, ca, sb, nb, cb, sc, nc, cc, hcs, hk0, hSa, hSb, hSc⟩ := hM
  rw [hj] at hcs
  subst hcs
  have hna : na ≤ 64 := by rw [hSa.len.out]; exact fewS hps hmy
  have b0 := ab w (.cells #[.int .u8 t.nd.k, .int .i64 (j0 : Int), .int .i64 t.nd.f, .int .i64 t.nd.t, .slice sa na ca, .slice sb nb cb, .slice sc nc cc] 78)
  have hK0 := hK.bl hR hN b0
  have A := Arr.new w 78 #[.int .u8 t.nd.k, .int .i64 (j0 : Int), .int .i64 t.nd.f, .int .i64 t.nd.t, .slice sa na ca, .slice sb nb cb, .slice sc nc cc]
  have hwg : w.heap.size ≠ gr ∧ w.heap.size ≠ gw ∧ w.heap.size ≠ gv := by have := hK.run.ar.lt; have := hK.run.aw.lt; have := hK.var.av.lt; omega
  have hgrU := hK0.run.ar.lt
  have hgwU := hK0.run.aw.lt
  have hgvU := hK0.var.av.lt
  have hlen := hSa.len
  have hSa0 := hSa.imp (b0.mono hN) (ExM.below (b0.mono hN) 8)
  have hSb0 := hSb.imp (b0.mono hN) (StM.below (b0.mono hN) d)
  have hSc0 := hSc.imp (b0.mono hN) (StM.below (b0.mono hN) d)
  have hcw0 : Ch (PD gr gw gv) w (w.alloc (.cells #[.int .u8 t.nd.k, .int .i64 (j0 : Int), .int .i64 t.nd.f, .int .i64 t.nd.t, .slice sa na ca, .slice sb nb cb, .slice sc nc cc] 78)) := Ch.ob b0
  have hNU : N ≤ (w.alloc (.cells #[.int .u8 t.nd.k, .int .i64 (j0 : Int), .int .i64 t.nd.f, .int .i64 t.nd.t, .slice sa na ca, .slice sb nb cb, .slice sc nc cc] 78)).heap.size := by simp; omega
  clear hSa hSb hSc hK b0
  unfold stArgs
  unfold stC
  have e4 : (t.nd.k == 4) = false := by simp; omega
  replace hkk := hid hkk
  replace hRE := hid hRE
  replace hpr := hid hpr
  replace hev := hid hev
  have k0 := A.cell 0
  go_enter Try.func37, Try.ntmps37
  go_upto_region 7 with fail
  generalize hUU : w.alloc (.cells #[.int .u8 t.nd.k, .int .i64 (j0 : Int), .int .i64 t.nd.f, .int .i64 t.nd.t, .slice sa na ca, .slice sb nb cb, .slice sc nc cc] 78) = U at *
  clear hUU k0
  have o0 : U.ownsRow U.heap.size 30 1 (.slice none 0 0) 0 (uL []) := World.ownsRow_nil _ _ _ _
  go_loopw [6, 7] (fun v i wr => ∃ (j : Nat) (X : List Int) (en : Int), i = .int .i64 (j : Int) ∧ j ≤ na ∧ X.length = j ∧ wr.ownsRow U.heap.size 30 1 v j (uL X) ∧ KD R N gr gw n p0 p1 (.slice kp kn kc) fu gv nv ⟨W, V, k⟩ en 0 wr ∧ Ch (fun k => k = gr) U wr ∧ Hid ((en = 0 ∧ evs W V 8 t.nd.a = (evs W V 8 (t.nd.a.drop j)).map (X ++ ·)) ∨ (en = 2 ∧ evs W V 8 t.nd.a = none))) (fun _ i _ => na - (intOf i).toNat)
  case atStart => exact ⟨0, [], 0, rfl, by omega, rfl, o0, hK0, Ch.refl _ _, hid (.inl ⟨rfl, by rw [List.drop_zero]; cases evs W V 8 t.nd.a <;> rfl⟩)⟩
  case round =>
    clear o0
    obtain ⟨j, X, en, rfl, hj, hXl, ho, hKe, hcu, hor⟩ := hrel
    have k4 := (hcu.arr A hwg.1).cell 4
    have hcs := hcu.size
    have hlow : Below N U wr := hcu.bl fun i hi => ⟨by omega, by have := hKe.l1; omega⟩
    by_cases hlt : j < na
    · have hlt' : (j : Int) < na := by omega
      obtain ⟨a, ha⟩ : ∃ a, t.nd.a[j]? = some a := ⟨t.nd.a[j]'(by rw [← hlen.out]; exact hlt), List.getElem?_eq_getElem _⟩
      have hfd := evs_drop (W := W) (V := V) ha
      obtain ⟨g, off, rfl, hg, hRg⟩ := hSa0.at0 (by omega)
      obtain ⟨cs, hrg, hMa⟩ := hRg j a ha
      have hrg2 := rb hrg hlow hg
      have hMa2 := ExM.below hlow 8 cs a hMa
      obtain ⟨ka, na2, va2, oa, spa, ma, capa, rfl⟩ := hMa.five
      have q0 := hrg2 0 _ rfl
      have q1 := hrg2 1 _ rfl
      have q2 := hrg2 2 _ rfl
      have q3 := hrg2 3 _ rfl
      have q4 := hrg2 4 _ rfl
      simp only [Nat.add_zero] at q0
      have hoka := hoa a (List.mem_of_getElem? ha)
      replace hg := hid hg
      by_cases hen : en = 0
      · subst hen
        have hcc := hid (dval_any hKe.n1 hKe.l1 8 wr _ a (by omega) hKe.run hKe.var hMa2 hoka)
        have hor2 : evs W V 8 t.nd.a = (evs W V 8 (t.nd.a.drop j)).map (X ++ ·) := by
          rcases hor.out with h | h
          · exact h.2
          · exact absurd h.1 (by omega)
        have hnx : Hid (∀ z, (∀ x, evX W V 8 a = some x → z = x) → (enO (evX W V 8 a) = 0 ∧ evs W V 8 t.nd.a = (evs W V 8 (t.nd.a.drop (j + 1))).map ((X ++ [z]) ++ ·)) ∨ (enO (evX W V 8 a) = 2 ∧ evs W V 8 t.nd.a = none)) := hid fun z hz => by
          cases hx : evX W V 8 a with
          | none => exact .inr ⟨rfl, by rw [hor2, hfd, hx]; rfl⟩
          | some x => exact .inl ⟨rfl, by rw [hor2, hfd, hx, hz x hx]; show Option.map _ (Option.map _ _) = _; cases evs W V 8 (t.nd.a.drop (j + 1)) <;> simp⟩
        have hkd : Hid (∀ w1, DunI gr gw n p0 p1 (.slice kp kn kc) W fu ((fu : Int) - k) (enO (evX W V 8 a)) 0 w1 → Ch (fun k => k = gr) wr w1 → KD R N gr gw n p0 p1 (.slice kp kn kc) fu gv nv ⟨W, V, k⟩ (enO (evX W V 8 a)) 0 w1) := hid fun w1 h1 h2 => hKe.gr' hR (by omega) h2 hKe.le h1
        clear hor hor2 hfd hRg hrg hrg2 hMa hMa2 hoka ha hKe hSa0
        generalize evX W V 8 a = ra at *
        go_wp2_with (first
          | (go_at_call 49; go_must (refine hcc.out.mono ?_; rintro e w1 ⟨z, rfl, hz, hzx, hD1, hc1⟩; have hs1 := hc1.size; have ho2 := ownCh ho hc1 (fun k hk => by omega); have cx := (Arr.new w1 30 #[.int .u64 z]).cell 0; have ho3 := ownBl ho2 (ab w1 (.cells #[.int .u64 z] 30))))
          | (at_builtin; go_must (refine ap64 (by rfl) (.tmp 53) (.tmp 62) (by rfl) U.heap.size _ j X (by rfl) ho3 w1.heap.size z (by rfl) cx (by omega) (by simp; omega) ?_; intro v1 w2 ho4 hg4)))
        go_roundw
        case rel =>
          have hbB : Below U.heap.size w1 w2 := ((Below.refl _ w1).alloc (by omega) _).grown hg4 (by simp; omega) (fun k e => ownGe ho3 k e)
          exact ⟨j + 1, X ++ [z], enO ra, by go_num, by omega, by simp [hXl], ho4, (hkd.out w1 hD1 hc1).upto hR hgrU hgwU hgvU hNU hbB, (hcu.trans hc1).upto hbB, hid (hnx.out z hzx.out)⟩
        case measure => simp [intOf]; omega
      · have hor2 : en = 2 ∧ evs W V 8 t.nd.a = none := by
          rcases hor.out with h | h
          · exact absurd h.1 hen
          · exact h
        obtain ⟨rfl, hvn⟩ := hor2
        have hcc := hid (expr_off (k := ka) (nn := na2) (v := va2) (o := oa) (sv := .slice spa ma capa) (va2 := .slice (some ⟨gv, 0, none⟩) nv nv) wr hKe.run (by omega))
        have hkd : Hid (∀ w1, Below wr.heap.size wr w1 → KD R N gr gw n p0 p1 (.slice kp kn kc) fu gv nv ⟨W, V, k⟩ 2 0 w1) := hid fun w1 h1 => hKe.bl hR (by omega) h1
        replace hvn := hid hvn
        clear hor hen hfd hRg hrg hrg2 hMa hMa2 hoka ha hKe hSa0
        go_wp2_with (first
          | (go_at_call 49; go_must (refine hcc.out.mono ?_; rintro e w1 ⟨rfl, hb1⟩; have hs1 := hb1.size; have ho2 := ownBl ho hb1; have cx := (Arr.new w1 30 #[.int .u64 0]).cell 0; have ho3 := ownBl ho2 (ab w1 (.cells #[.int .u64 0] 30))))
          | (at_builtin; go_must (refine ap64 (by rfl) (.tmp 53) (.tmp 62) (by rfl) U.heap.size _ j X (by rfl) ho3 w1.heap.size 0 (by rfl) cx (by omega) (by simp; omega) ?_; intro v1 w2 ho4 hg4)))
        go_roundw
        case rel =>
          have hbB : Below U.heap.size w1 w2 := ((Below.refl _ w1).alloc (by omega) _).grown hg4 (by simp; omega) (fun k e => ownGe ho3 k e)
          exact ⟨j + 1, X ++ [0], 2, by go_num, by omega, by simp [hXl], ho4, (hkd.out w1 hb1).upto hR hgrU hgwU hgvU hNU hbB, (hcu.trans (Ch.ob hb1)).upto hbB, hid (.inr ⟨rfl, hvn.out⟩)⟩
        case measure => simp [intOf]; omega
    · obtain rfl : j = na := by omega
      obtain ⟨rfl, rfl⟩ : en = 0 ∧ X = [a, b] := by
        rcases hor.out with h | h
        · have h2 := h.2
          rw [hev.out, List.drop_eq_nil_of_le (by rw [← hlen.out]; exact Nat.le_refl _)] at h2
          replace h2 : some [a, b] = some (X ++ []) := h2
          simp at h2
          exact ⟨h.1, h2.symm⟩
        · have h2 := h.2; rw [hev.out] at h2; cases h2
      have c6 := hKe.run.ar.cell 6
      have A' := hcu.arr A hwg.1
      have k0 := A'.cell 0
      have hcP : Ch (PD gr gw gv) w wr := hcw0.trans (hcu.imp fun k hk => .inl hk)
      have hNw : N ≤ wr.heap.size := by omega
      have e1 : (t.nd.k == 1) = false := by have := hkk.out; simp; omega
      have e2 : (t.nd.k == 2) = false := by have := hkk.out; simp; omega
      have e3 : (t.nd.k == 3) = false := by have := hkk.out; simp; omega
      have e5 : (t.nd.k == 5) = false := by have := hkk.out; simp; omega
      have e6 : (t.nd.k == 6) = false := by have := hkk.out; simp; omega
      have e7 : (t.nd.k == 7) = false := by have := hkk.out; simp; omega
      have e8 : (t.nd.k == 8) = true := by have := hkk.out; simp; omega
      have hna1 : j = 2 := by simpa using hXl.symm
      subst hna1
      obtain ⟨g, c, rfl, hgU, hgl, hcl⟩ := own_pos ho (by omega)
      have x0 := hcl 0 _ rfl
      have x1 := hcl 1 _ rfl
      have k1 : wr.cell? ⟨w.heap.size, 1, none⟩ = some (.int .i64 (j0 : Int)) := A'.cell 1
      have hjn' : (j0 : Int) < nv := by omega
      have hn64 := hKe.var.n64
      have hgg : g ≠ gr ∧ g ≠ gv := by omega
      have hcc := hid (dpre_any (es := es) (N := N) wr hKe.run (hRE.out wr hKe.r) hUa)
      rw [hpr.out] at hcc
      have hkd : Hid (∀ u (en : Int), DunI gr gw n p0 p1 (.slice kp kn kc) W fu ((fu : Int) - k) en 0 u → Ch (fun k => k = gr) wr u → KD R N gr gw n p0 p1 (.slice kp kn kc) fu gv nv ⟨W, V, k⟩ en 0 u ∧ Ch (PD gr gw gv) w u) := hid fun u en h1 h2 => ⟨hKe.gr' hR hNw h2 hKe.le h1, hcP.trans (h2.imp fun k hk => .inl hk)⟩
      unfold DpP at hcc
      clear hor hKe hcl ho hSa0 hSb0 hSc0
      go_wp2_with (go_at_call 53; go_must (refine hcc.out.mono ?_; rintro e w2 ⟨hc2, ⟨en, hq, -⟩ | ⟨-, rfl, hD2⟩⟩; (exact absurd hq (by simp))))
      go_end0
      obtain ⟨hK2, hcP2⟩ := hkd.out w2 _ hD2 hc2
      exact ⟨rfl, hK2, hcP2⟩
set_option maxHeartbeats 4000000 in
theorem dst_plen {a b : Int} {j0 : Nat} {bs : List Int} (hR : RB R N) (w : World) (hN : N ≤ w.heap.size) (hK : KD R N gr gw n p0 p1 (.slice kp kn kc) fu gv nv ⟨W, V, k⟩ 0 0 w) (hM : StM N w (d + 1) cs t) (hok : okS ps nv (d + 1) t) (hps : ∀ p ∈ ps, p ≤ 64) (hkk : t.nd.k = 9) (hj : t.nd.v = j0) (hjn : j0 < nv) (hev : evs W V 8 t.nd.a = some [a]) (hUa : U64 a) (hUb : U64 b) (hRE : ∀ u, R u → ES N u kp kn kc es) (hpr : prW es W a = some bs) :
    Calls Try.prog 37 (stArgs gr gv nv cs) w (KQ R N gr gw n p0 p1 (.slice kp kn kc) fu gv nv ⟨0, 0, ⟨W, V.set j0 (bs.length : Int), k⟩⟩ w) := by
  obtain ⟨hmy, hoa, hob, hoe⟩ := okS_s hok
  obtain ⟨sa, na, ca, sb, nb, cb, sc, nc, cc, hcs, hk0, hSa, hSb, hSc⟩ := hM
  rw [hj] at hcs
  subst hcs
  have hna : na ≤ 64 := by rw [hSa.len.out]; exact fewS hps hmy
  have b0 := ab w (.cells #[.int .u8 t.nd.k, .int .i64 (j0 : Int), .int .i64 t.nd.f, .int .i64 t.nd.t, .slice sa na ca, .slice sb nb cb, .slice sc nc cc] 78)
  have hK0 := hK.bl hR hN b0
  have A := Arr.new w 78 #[.int .u8 t.nd.k, .int .i64 (j0 : Int), .int .i64 t.nd.f, .int .i64 t.nd.t, .slice sa na ca, .slice sb nb cb, .slice sc nc cc]
  have hwg : w.heap.size ≠ gr ∧ w.heap.size ≠ gw ∧ w.heap.size ≠ gv := by have := hK.run.ar.lt; have := hK.run.aw.lt; have := hK.var.av.lt; omega
  have hgrU := hK0.run.ar.lt
  have hgwU := hK0.run.aw.lt
  have hgvU := hK0.var.av.lt
  have hlen := hSa.len
  have hSa0 := hSa.imp (b0.mono hN) (ExM.below (b0.mono hN) 8)
  have hSb0 := hSb.imp (b0.mono hN) (StM.below (b0.mono hN) d)
  have hSc0 := hSc.imp (b0.mono hN) (StM.below (b0.mono hN) d)
  have hcw0 : Ch (PD gr gw gv) w (w.alloc (.cells #[.int .u8 t.nd.k, .int .i64 (j0 : Int), .int .i64 t.nd.f, .int .i64 t.nd.t, .slice sa na ca, .slice sb nb cb, .slice sc nc cc] 78)) := Ch.ob b0
  have hNU : N ≤ (w.alloc (.cells #[.int .u8 t.nd.k, .int .i64 (j0 : Int), .int .i64 t.nd.f, .int .i64 t.nd.t, .slice sa na ca, .slice sb nb cb, .slice sc nc cc] 78)).heap.size := by simp; omega
  clear hSa hSb hSc hK b0
  unfold stArgs
  unfold stC
  have e4 : (t.nd.k == 4) = false := by simp; omega
  replace hkk := hid hkk
  replace hRE := hid hRE
  replace hpr := hid hpr
  replace hev := hid hev
  have k0 := A.cell 0
  go_enter Try.func37, Try.ntmps37
  go_upto_region 7 with fail
  generalize hUU : w.alloc (.cells #[.int .u8 t.nd.k, .int .i64 (j0 : Int), .int .i64 t.nd.f, .int .i64 t.nd.t, .slice sa na ca, .slice sb nb cb, .slice sc nc cc] 78) = U at *
  clear hUU k0
  have o0 : U.ownsRow U.heap.size 30 1 (.slice none 0 0) 0 (uL []) := World.ownsRow_nil _ _ _ _
  go_loopw [6, 7] (fun v i wr => ∃ (j : Nat) (X : List Int) (en : Int), i = .int .i64 (j : Int) ∧ j ≤ na ∧ X.length = j ∧ wr.ownsRow U.heap.size 30 1 v j (uL X) ∧ KD R N gr gw n p0 p1 (.slice kp kn kc) fu gv nv ⟨W, V, k⟩ en 0 wr ∧ Ch (fun k => k = gr) U wr ∧ Hid ((en = 0 ∧ evs W V 8 t.nd.a = (evs W V 8 (t.nd.a.drop j)).map (X ++ ·)) ∨ (en = 2 ∧ evs W V 8 t.nd.a = none))) (fun _ i _ => na - (intOf i).toNat)
  case atStart => exact ⟨0, [], 0, rfl, by omega, rfl, o0, hK0, Ch.refl _ _, hid (.inl ⟨rfl, by rw [List.drop_zero]; cases evs W V 8 t.nd.a <;> rfl⟩)⟩
  case round =>
    clear o0
    obtain ⟨j, X, en, rfl, hj, hXl, ho, hKe, hcu, hor⟩ := hrel
    have k4 := (hcu.arr A hwg.1).cell 4
    have hcs := hcu.size
    have hlow : Below N U wr := hcu.bl fun i hi => ⟨by omega, by have := hKe.l1; omega⟩
    by_cases hlt : j < na
    · have hlt' : (j : Int) < na := by omega
      obtain ⟨a, ha⟩ : ∃ a, t.nd.a[j]? = some a := ⟨t.nd.a[j]'(by rw [← hlen.out]; exact hlt), List.getElem?_eq_getElem _⟩
      have hfd := evs_drop (W := W) (V := V) ha
      obtain ⟨g, off, rfl, hg, hRg⟩ := hSa0.at0 (by omega)
      obtain ⟨cs, hrg, hMa⟩ := hRg j a ha
      have hrg2 := rb hrg hlow hg
      have hMa2 := ExM.below hlow 8 cs a hMa
      obtain ⟨ka, na2, va2, oa, spa, ma, capa, rfl⟩ := hMa.five
      have q0 := hrg2 0 _ rfl
      have q1 := hrg2 1 _ rfl
      have q2 := hrg2 2 _ rfl
      have q3 := hrg2 3 _ rfl
      have q4 := hrg2 4 _ rfl
      simp only [Nat.add_zero] at q0
      have hoka := hoa a (List.mem_of_getElem? ha)
      replace hg := hid hg
      by_cases hen : en = 0
      · subst hen
        have hcc := hid (dval_any hKe.n1 hKe.l1 8 wr _ a (by omega) hKe.run hKe.var hMa2 hoka)
        have hor2 : evs W V 8 t.nd.a = (evs W V 8 (t.nd.a.drop j)).map (X ++ ·) := by
          rcases hor.out with h | h
          · exact h.2
          · exact absurd h.1 (by omega)
        have hnx : Hid (∀ z, (∀ x, evX W V 8 a = some x → z = x) → (enO (evX W V 8 a) = 0 ∧ evs W V 8 t.nd.a = (evs W V 8 (t.nd.a.drop (j + 1))).map ((X ++ [z]) ++ ·)) ∨ (enO (evX W V 8 a) = 2 ∧ evs W V 8 t.nd.a = none)) := hid fun z hz => by
          cases hx : evX W V 8 a with
          | none => exact .inr ⟨rfl, by rw [hor2, hfd, hx]; rfl⟩
          | some x => exact .inl ⟨rfl, by rw [hor2, hfd, hx, hz x hx]; show Option.map _ (Option.map _ _) = _; cases evs W V 8 (t.nd.a.drop (j + 1)) <;> simp⟩
        have hkd : Hid (∀ w1, DunI gr gw n p0 p1 (.slice kp kn kc) W fu ((fu : Int) - k) (enO (evX W V 8 a)) 0 w1 → Ch (fun k => k = gr) wr w1 → KD R N gr gw n p0 p1 (.slice kp kn kc) fu gv nv ⟨W, V, k⟩ (enO (evX W V 8 a)) 0 w1) := hid fun w1 h1 h2 => hKe.gr' hR (by omega) h2 hKe.le h1
        clear hor hor2 hfd hRg hrg hrg2 hMa hMa2 hoka ha hKe hSa0
        generalize evX W V 8 a = ra at *
        go_wp2_with (first
          | (go_at_call 49; go_must (refine hcc.out.mono ?_; rintro e w1 ⟨z, rfl, hz, hzx, hD1, hc1⟩; have hs1 := hc1.size; have ho2 := ownCh ho hc1 (fun k hk => by omega); have cx := (Arr.new w1 30 #[.int .u64 z]).cell 0; have ho3 := ownBl ho2 (ab w1 (.cells #[.int .u64 z] 30))))
          | (at_builtin; go_must (refine ap64 (by rfl) (.tmp 53) (.tmp 62) (by rfl) U.heap.size _ j X (by rfl) ho3 w1.heap.size z (by rfl) cx (by omega) (by simp; omega) ?_; intro v1 w2 ho4 hg4)))
        go_roundw
        case rel =>
          have hbB : Below U.heap.size w1 w2 := ((Below.refl _ w1).alloc (by omega) _).grown hg4 (by simp; omega) (fun k e => ownGe ho3 k e)
          exact ⟨j + 1, X ++ [z], enO ra, by go_num, by omega, by simp [hXl], ho4, (hkd.out w1 hD1 hc1).upto hR hgrU hgwU hgvU hNU hbB, (hcu.trans hc1).upto hbB, hid (hnx.out z hzx.out)⟩
        case measure => simp [intOf]; omega
      · have hor2 : en = 2 ∧ evs W V 8 t.nd.a = none := by
          rcases hor.out with h | h
          · exact absurd h.1 hen
          · exact h
        obtain ⟨rfl, hvn⟩ := hor2
        have hcc := hid (expr_off (k := ka) (nn := na2) (v := va2) (o := oa) (sv := .slice spa ma capa) (va2 := .slice (some ⟨gv, 0, none⟩) nv nv) wr hKe.run (by omega))
        have hkd : Hid (∀ w1, Below wr.heap.size wr w1 → KD R N gr gw n p0 p1 (.slice kp kn kc) fu gv nv ⟨W, V, k⟩ 2 0 w1) := hid fun w1 h1 => hKe.bl hR (by omega) h1
        replace hvn := hid hvn
        clear hor hen hfd hRg hrg hrg2 hMa hMa2 hoka ha hKe hSa0
        go_wp2_with (first
          | (go_at_call 49; go_must (refine hcc.out.mono ?_; rintro e w1 ⟨rfl, hb1⟩; have hs1 := hb1.size; have ho2 := ownBl ho hb1; have cx := (Arr.new w1 30 #[.int .u64 0]).cell 0; have ho3 := ownBl ho2 (ab w1 (.cells #[.int .u64 0] 30))))
          | (at_builtin; go_must (refine ap64 (by rfl) (.tmp 53) (.tmp 62) (by rfl) U.heap.size _ j X (by rfl) ho3 w1.heap.size 0 (by rfl) cx (by omega) (by simp; omega) ?_; intro v1 w2 ho4 hg4)))
        go_roundw
        case rel =>
          have hbB : Below U.heap.size w1 w2 := ((Below.refl _ w1).alloc (by omega) _).grown hg4 (by simp; omega) (fun k e => ownGe ho3 k e)
          exact ⟨j + 1, X ++ [0], 2, by go_num, by omega, by simp [hXl], ho4, (hkd.out w1 hb1).upto hR hgrU hgwU hgvU hNU hbB, (hcu.trans (Ch.ob hb1)).upto hbB, hid (.inr ⟨rfl, hvn.out⟩)⟩
        case measure => simp [intOf]; omega
    · obtain rfl : j = na := by omega
      obtain ⟨rfl, rfl⟩ : en = 0 ∧ X = [a] := by
        rcases hor.out with h | h
        · have h2 := h.2
          rw [hev.out, List.drop_eq_nil_of_le (by rw [← hlen.out]; exact Nat.le_refl _)] at h2
          replace h2 : some [a] = some (X ++ []) := h2
          simp at h2
          exact ⟨h.1, h2.symm⟩
        · have h2 := h.2; rw [hev.out] at h2; cases h2
      have c6 := hKe.run.ar.cell 6
      have A' := hcu.arr A hwg.1
      have k0 := A'.cell 0
      have hcP : Ch (PD gr gw gv) w wr := hcw0.trans (hcu.imp fun k hk => .inl hk)
      have hNw : N ≤ wr.heap.size := by omega
      have e1 : (t.nd.k == 1) = false := by have := hkk.out; simp; omega
      have e2 : (t.nd.k == 2) = false := by have := hkk.out; simp; omega
      have e3 : (t.nd.k == 3) = false := by have := hkk.out; simp; omega
      have e5 : (t.nd.k == 5) = false := by have := hkk.out; simp; omega
      have e6 : (t.nd.k == 6) = false := by have := hkk.out; simp; omega
      have e7 : (t.nd.k == 7) = false := by have := hkk.out; simp; omega
      have e8 : (t.nd.k == 8) = false := by have := hkk.out; simp; omega
      have e9 : (t.nd.k == 9) = true := by have := hkk.out; simp; omega
      have hna1 : j = 1 := by simpa using hXl.symm
      subst hna1
      obtain ⟨g, c, rfl, hgU, hgl, hcl⟩ := own_pos ho (by omega)
      have x0 := hcl 0 _ rfl
      have k1 : wr.cell? ⟨w.heap.size, 1, none⟩ = some (.int .i64 (j0 : Int)) := A'.cell 1
      have hjn' : (j0 : Int) < nv := by omega
      have hn64 := hKe.var.n64
      have hgg : g ≠ gr ∧ g ≠ gv := by omega
      have hcc := hid (dpre_any (es := es) (N := N) wr hKe.run (hRE.out wr hKe.r) hUa)
      rw [hpr.out] at hcc
      have hkd : Hid (∀ u (en : Int), DunI gr gw n p0 p1 (.slice kp kn kc) W fu ((fu : Int) - k) en 0 u → Ch (fun k => k = gr) wr u → KD R N gr gw n p0 p1 (.slice kp kn kc) fu gv nv ⟨W, V, k⟩ en 0 u ∧ Ch (PD gr gw gv) w u) := hid fun u en h1 h2 => ⟨hKe.gr' hR hNw h2 hKe.le h1, hcP.trans (h2.imp fun k hk => .inl hk)⟩
      unfold DpP at hcc
      have hes := hid fun (u : World) (hu : R u) => (hRE.out u hu)
      clear hor hKe hcl ho hSa0 hSb0 hSc0
      go_upto_region 36 with (go_at_call 53; go_must (refine hcc.out.mono ?_; rintro e w2 ⟨hc2, ⟨en, hq, hen, rfl, hD2⟩ | ⟨hq, -⟩⟩; rotate_left; (exact absurd hq (by simp))))
      obtain ⟨hK2, hcP2⟩ := hkd.out w2 0 hD2 hc2
      obtain rfl : bs = en.bs := by simpa using hq
      have hB := ((hes.out w2 hK2.r).ok en hen).body
      have T : ∀ (q o : Nat) (y : Value), q ≠ gr → wr.cell? ⟨q, o, none⟩ = some y → w2.cell? ⟨q, o, none⟩ = some y := fun q o y h1 h2 => (World.cell?_of_block (hc2.block q (block_lt_of_cell h2) h1)).trans h2
      have k1' := T _ _ _ hwg.1 k1
      have vc := hK2.var.av.cell j0
      rw [uA_get (by rw [hK2.var.len.out]; exact hjn)] at vc
      have vf := hK2.var.av.frozen j0
      have hsm := hB.small
      have hwx : IntKind.u64.wrap (en.n : Int) = (en.bs.length : Int) := by rw [wrap64_of (by omega) (by omega), hB.len.out]
      have hxU : U64 (en.bs.length : Int) := by rw [← hB.len.out]; unfold U64; omega
      have hfin : Hid (KQ R N gr gw n p0 p1 (.slice kp kn kc) fu gv nv ⟨0, 0, ⟨W, V.set j0 (en.bs.length : Int), k⟩⟩ w (.returned (.tuple #[])) (w2.setCell ⟨gv, j0, none⟩ (.int .u64 (en.bs.length : Int)))) := hid ⟨rfl, ⟨⟨hK2.run.ar.setOther _ hK2.n1, hK2.run.aw.setOther _ hK2.n2, hK2.run.ne, hK2.run.len, hK2.run.n10, hK2.run.wU⟩, ⟨by rw [← uA_set]; exact hK2.var.av.set j0 _, hid (by rw [List.length_set]; exact hK2.var.len.out), hK2.var.n64, U_set hK2.var.vU hxU⟩, hK2.n1, hK2.n2, hK2.l1, hK2.l2, hK2.l3, hR _ _ (((Ch.refl (fun k => k = gv) w2).st (g := gv) (j := j0) (.int .u64 (en.bs.length : Int)) (fun _ => rfl)).bl fun i hi => ⟨by have := hc2.size; omega, by have := hK2.l3; omega⟩) hK2.r, hK2.le, hK2.fu4⟩, (hcP2).st (g := gv) (j := j0) (.int .u64 (en.bs.length : Int)) (fun _ => .inr (.inr rfl))⟩
      have hwv := hwg.2.2
      clear hK2 hkd hcc hD2 hB hes hq hen
      generalize (en.bs.length : Int) = xv at *
      generalize V.getD j0 0 = old at *
      go_wp2_with fail
      go_end0
      exact hfin.out
set_option maxHeartbeats 4000000 in
theorem dst_plenno {a b : Int} {j0 : Nat} (hR : RB R N) (w : World) (hN : N ≤ w.heap.size) (hK : KD R N gr gw n p0 p1 (.slice kp kn kc) fu gv nv ⟨W, V, k⟩ 0 0 w) (hM : StM N w (d + 1) cs t) (hok : okS ps nv (d + 1) t) (hps : ∀ p ∈ ps, p ≤ 64) (hkk : t.nd.k = 9) (hj : t.nd.v = j0) (hjn : j0 < nv) (hev : evs W V 8 t.nd.a = some [a]) (hUa : U64 a) (hUb : U64 b) (hRE : ∀ u, R u → ES N u kp kn kc es) (hpr : prW es W a = none) :
    Calls Try.prog 37 (stArgs gr gv nv cs) w (KQ R N gr gw n p0 p1 (.slice kp kn kc) fu gv nv ⟨2, 0, ⟨W, V, k⟩⟩ w) := by
  obtain ⟨hmy, hoa, hob, hoe⟩ := okS_s hok
  obtain ⟨sa, na, ca, sb, nb, cb, sc, nc, cc, hcs, hk0, hSa, hSb, hSc⟩ := hM
  rw [hj] at hcs
  subst hcs
  have hna : na ≤ 64 := by rw [hSa.len.out]; exact fewS hps hmy
  have b0 := ab w (.cells #[.int .u8 t.nd.k, .int .i64 (j0 : Int), .int .i64 t.nd.f, .int .i64 t.nd.t, .slice sa na ca, .slice sb nb cb, .slice sc nc cc] 78)
  have hK0 := hK.bl hR hN b0
  have A := Arr.new w 78 #[.int .u8 t.nd.k, .int .i64 (j0 : Int), .int .i64 t.nd.f, .int .i64 t.nd.t, .slice sa na ca, .slice sb nb cb, .slice sc nc cc]
  have hwg : w.heap.size ≠ gr ∧ w.heap.size ≠ gw ∧ w.heap.size ≠ gv := by have := hK.run.ar.lt; have := hK.run.aw.lt; have := hK.var.av.lt; omega
  have hgrU := hK0.run.ar.lt
  have hgwU := hK0.run.aw.lt
  have hgvU := hK0.var.av.lt
  have hlen := hSa.len
  have hSa0 := hSa.imp (b0.mono hN) (ExM.below (b0.mono hN) 8)
  have hSb0 := hSb.imp (b0.mono hN) (StM.below (b0.mono hN) d)
  have hSc0 := hSc.imp (b0.mono hN) (StM.below (b0.mono hN) d)
  have hcw0 : Ch (PD gr gw gv) w (w.alloc (.cells #[.int .u8 t.nd.k, .int .i64 (j0 : Int), .int .i64 t.nd.f, .int .i64 t.nd.t, .slice sa na ca, .slice sb nb cb, .slice sc nc cc] 78)) := Ch.ob b0
  have hNU : N ≤ (w.alloc (.cells #[.int .u8 t.nd.k, .int .i64 (j0 : Int), .int .i64 t.nd.f, .int .i64 t.nd.t, .slice sa na ca, .slice sb nb cb, .slice sc nc cc] 78)).heap.size := by simp; omega
  clear hSa hSb hSc hK b0
  unfold stArgs
  unfold stC
  have e4 : (t.nd.k == 4) = false := by simp; omega
  replace hkk := hid hkk
  replace hRE := hid hRE
  replace hpr := hid hpr
  replace hev := hid hev
  have k0 := A.cell 0
  go_enter Try.func37, Try.ntmps37
  go_upto_region 7 with fail
  generalize hUU : w.alloc (.cells #[.int .u8 t.nd.k, .int .i64 (j0 : Int), .int .i64 t.nd.f, .int .i64 t.nd.t, .slice sa na ca, .slice sb nb cb, .slice sc nc cc] 78) = U at *
  clear hUU k0
  have o0 : U.ownsRow U.heap.size 30 1 (.slice none 0 0) 0 (uL []) := World.ownsRow_nil _ _ _ _
  go_loopw [6, 7] (fun v i wr => ∃ (j : Nat) (X : List Int) (en : Int), i = .int .i64 (j : Int) ∧ j ≤ na ∧ X.length = j ∧ wr.ownsRow U.heap.size 30 1 v j (uL X) ∧ KD R N gr gw n p0 p1 (.slice kp kn kc) fu gv nv ⟨W, V, k⟩ en 0 wr ∧ Ch (fun k => k = gr) U wr ∧ Hid ((en = 0 ∧ evs W V 8 t.nd.a = (evs W V 8 (t.nd.a.drop j)).map (X ++ ·)) ∨ (en = 2 ∧ evs W V 8 t.nd.a = none))) (fun _ i _ => na - (intOf i).toNat)
  case atStart => exact ⟨0, [], 0, rfl, by omega, rfl, o0, hK0, Ch.refl _ _, hid (.inl ⟨rfl, by rw [List.drop_zero]; cases evs W V 8 t.nd.a <;> rfl⟩)⟩
  case round =>
    clear o0
    obtain ⟨j, X, en, rfl, hj, hXl, ho, hKe, hcu, hor⟩ := hrel
    have k4 := (hcu.arr A hwg.1).cell 4
    have hcs := hcu.size
    have hlow : Below N U wr := hcu.bl fun i hi => ⟨by omega, by have := hKe.l1; omega⟩
    by_cases hlt : j < na
    · have hlt' : (j : Int) < na := by omega
      obtain ⟨a, ha⟩ : ∃ a, t.nd.a[j]? = some a := ⟨t.nd.a[j]'(by rw [← hlen.out]; exact hlt), List.getElem?_eq_getElem _⟩
      have hfd := evs_drop (W := W) (V := V) ha
      obtain ⟨g, off, rfl, hg, hRg⟩ := hSa0.at0 (by omega)
      obtain ⟨cs, hrg, hMa⟩ := hRg j a ha
      have hrg2 := rb hrg hlow hg
      have hMa2 := ExM.below hlow 8 cs a hMa
      obtain ⟨ka, na2, va2, oa, spa, ma, capa, rfl⟩ := hMa.five
      have q0 := hrg2 0 _ rfl
      have q1 := hrg2 1 _ rfl
      have q2 := hrg2 2 _ rfl
      have q3 := hrg2 3 _ rfl
      have q4 := hrg2 4 _ rfl
      simp only [Nat.add_zero] at q0
      have hoka := hoa a (List.mem_of_getElem? ha)
      replace hg := hid hg
      by_cases hen : en = 0
      · subst hen
        have hcc := hid (dval_any hKe.n1 hKe.l1 8 wr _ a (by omega) hKe.run hKe.var hMa2 hoka)
        have hor2 : evs W V 8 t.nd.a = (evs W V 8 (t.nd.a.drop j)).map (X ++ ·) := by
          rcases hor.out with h | h
          · exact h.2
          · exact absurd h.1 (by omega)
        have hnx : Hid (∀ z, (∀ x, evX W V 8 a = some x → z = x) → (enO (evX W V 8 a) = 0 ∧ evs W V 8 t.nd.a = (evs W V 8 (t.nd.a.drop (j + 1))).map ((X ++ [z]) ++ ·)) ∨ (enO (evX W V 8 a) = 2 ∧ evs W V 8 t.nd.a = none)) := hid fun z hz => by
          cases hx : evX W V 8 a with
          | none => exact .inr ⟨rfl, by rw [hor2, hfd, hx]; rfl⟩
          | some x => exact .inl ⟨rfl, by rw [hor2, hfd, hx, hz x hx]; show Option.map _ (Option.map _ _) = _; cases evs W V 8 (t.nd.a.drop (j + 1)) <;> simp⟩
        have hkd : Hid (∀ w1, DunI gr gw n p0 p1 (.slice kp kn kc) W fu ((fu : Int) - k) (enO (evX W V 8 a)) 0 w1 → Ch (fun k => k = gr) wr w1 → KD R N gr gw n p0 p1 (.slice kp kn kc) fu gv nv ⟨W, V, k⟩ (enO (evX W V 8 a)) 0 w1) := hid fun w1 h1 h2 => hKe.gr' hR (by omega) h2 hKe.le h1
        clear hor hor2 hfd hRg hrg hrg2 hMa hMa2 hoka ha hKe hSa0
        generalize evX W V 8 a = ra at *
        go_wp2_with (first
          | (go_at_call 49; go_must (refine hcc.out.mono ?_; rintro e w1 ⟨z, rfl, hz, hzx, hD1, hc1⟩; have hs1 := hc1.size; have ho2 := ownCh ho hc1 (fun k hk => by omega); have cx := (Arr.new w1 30 #[.int .u64 z]).cell 0; have ho3 := ownBl ho2 (ab w1 (.cells #[.int .u64 z] 30))))
          | (at_builtin; go_must (refine ap64 (by rfl) (.tmp 53) (.tmp 62) (by rfl) U.heap.size _ j X (by rfl) ho3 w1.heap.size z (by rfl) cx (by omega) (by simp; omega) ?_; intro v1 w2 ho4 hg4)))
        go_roundw
        case rel =>
          have hbB : Below U.heap.size w1 w2 := ((Below.refl _ w1).alloc (by omega) _).grown hg4 (by simp; omega) (fun k e => ownGe ho3 k e)
          exact ⟨j + 1, X ++ [z], enO ra, by go_num, by omega, by simp [hXl], ho4, (hkd.out w1 hD1 hc1).upto hR hgrU hgwU hgvU hNU hbB, (hcu.trans hc1).upto hbB, hid (hnx.out z hzx.out)⟩
        case measure => simp [intOf]; omega
      · have hor2 : en = 2 ∧ evs W V 8 t.nd.a = none := by
          rcases hor.out with h | h
          · exact absurd h.1 hen
          · exact h
        obtain ⟨rfl, hvn⟩ := hor2
        have hcc := hid (expr_off (k := ka) (nn := na2) (v := va2) (o := oa) (sv := .slice spa ma capa) (va2 := .slice (some ⟨gv, 0, none⟩) nv nv) wr hKe.run (by omega))
        have hkd : Hid (∀ w1, Below wr.heap.size wr w1 → KD R N gr gw n p0 p1 (.slice kp kn kc) fu gv nv ⟨W, V, k⟩ 2 0 w1) := hid fun w1 h1 => hKe.bl hR (by omega) h1
        replace hvn := hid hvn
        clear hor hen hfd hRg hrg hrg2 hMa hMa2 hoka ha hKe hSa0
        go_wp2_with (first
          | (go_at_call 49; go_must (refine hcc.out.mono ?_; rintro e w1 ⟨rfl, hb1⟩; have hs1 := hb1.size; have ho2 := ownBl ho hb1; have cx := (Arr.new w1 30 #[.int .u64 0]).cell 0; have ho3 := ownBl ho2 (ab w1 (.cells #[.int .u64 0] 30))))
          | (at_builtin; go_must (refine ap64 (by rfl) (.tmp 53) (.tmp 62) (by rfl) U.heap.size _ j X (by rfl) ho3 w1.heap.size 0 (by rfl) cx (by omega) (by simp; omega) ?_; intro v1 w2 ho4 hg4)))
        go_roundw
        case rel =>
          have hbB : Below U.heap.size w1 w2 := ((Below.refl _ w1).alloc (by omega) _).grown hg4 (by simp; omega) (fun k e => ownGe ho3 k e)
          exact ⟨j + 1, X ++ [0], 2, by go_num, by omega, by simp [hXl], ho4, (hkd.out w1 hb1).upto hR hgrU hgwU hgvU hNU hbB, (hcu.trans (Ch.ob hb1)).upto hbB, hid (.inr ⟨rfl, hvn.out⟩)⟩
        case measure => simp [intOf]; omega
    · obtain rfl : j = na := by omega
      obtain ⟨rfl, rfl⟩ : en = 0 ∧ X = [a] := by
        rcases hor.out with h | h
        · have h2 := h.2
          rw [hev.out, List.drop_eq_nil_of_le (by rw [← hlen.out]; exact Nat.le_refl _)] at h2
          replace h2 : some [a] = some (X ++ []) := h2
          simp at h2
          exact ⟨h.1, h2.symm⟩
        · have h2 := h.2; rw [hev.out] at h2; cases h2
      have c6 := hKe.run.ar.cell 6
      have A' := hcu.arr A hwg.1
      have k0 := A'.cell 0
      have hcP : Ch (PD gr gw gv) w wr := hcw0.trans (hcu.imp fun k hk => .inl hk)
      have hNw : N ≤ wr.heap.size := by omega
      have e1 : (t.nd.k == 1) = false := by have := hkk.out; simp; omega
      have e2 : (t.nd.k == 2) = false := by have := hkk.out; simp; omega
      have e3 : (t.nd.k == 3) = false := by have := hkk.out; simp; omega
      have e5 : (t.nd.k == 5) = false := by have := hkk.out; simp; omega
      have e6 : (t.nd.k == 6) = false := by have := hkk.out; simp; omega
      have e7 : (t.nd.k == 7) = false := by have := hkk.out; simp; omega
      have e8 : (t.nd.k == 8) = false := by have := hkk.out; simp; omega
      have e9 : (t.nd.k == 9) = true := by have := hkk.out; simp; omega
      have hna1 : j = 1 := by simpa using hXl.symm
      subst hna1
      obtain ⟨g, c, rfl, hgU, hgl, hcl⟩ := own_pos ho (by omega)
      have x0 := hcl 0 _ rfl
      have k1 : wr.cell? ⟨w.heap.size, 1, none⟩ = some (.int .i64 (j0 : Int)) := A'.cell 1
      have hjn' : (j0 : Int) < nv := by omega
      have hn64 := hKe.var.n64
      have hgg : g ≠ gr ∧ g ≠ gv := by omega
      have hcc := hid (dpre_any (es := es) (N := N) wr hKe.run (hRE.out wr hKe.r) hUa)
      rw [hpr.out] at hcc
      have hkd : Hid (∀ u (en : Int), DunI gr gw n p0 p1 (.slice kp kn kc) W fu ((fu : Int) - k) en 0 u → Ch (fun k => k = gr) wr u → KD R N gr gw n p0 p1 (.slice kp kn kc) fu gv nv ⟨W, V, k⟩ en 0 u ∧ Ch (PD gr gw gv) w u) := hid fun u en h1 h2 => ⟨hKe.gr' hR hNw h2 hKe.le h1, hcP.trans (h2.imp fun k hk => .inl hk)⟩
      unfold DpP at hcc
      clear hor hKe hcl ho hSa0 hSb0 hSc0
      go_wp2_with (go_at_call 53; go_must (refine hcc.out.mono ?_; rintro e w2 ⟨hc2, ⟨en, hq, -⟩ | ⟨-, rfl, hD2⟩⟩; (exact absurd hq (by simp))))
      go_end0
      obtain ⟨hK2, hcP2⟩ := hkd.out w2 _ hD2 hc2
      exact ⟨rfl, hK2, hcP2⟩
end Go.Proofs.Ytmljihggooaboaa
