/- Ph, Pi. -/
import Derived.Test.YtmljihggooaboaaW38
import Derived.Test.YtmljihggooaboaaW21
import Derived.Test.YtmljihggooaboaaW39
import Derived.Handy
import Derived.BigQuiet
import Derived.BigRegion
import Derived.Laws.MakeOwn
import Derived.Laws.CopyOwn
import Derived.Test.YtmljihggooaboaaW15
/- Layer interp: a call as a statement of the document's run, and a preimage. -/
namespace Go.Proofs.Ytmljihggooaboaa
open Go.RowKit
set_option maxRecDepth 100000
set_option linter.unusedVariables false
set_option linter.unusedSimpArgs false

variable {R : World → Prop} {N gr gw n : Nat} {p1 kv : Value} {fp : Option Addr} {fm fc : Nat} {fu gv nv : Nat} {W V : List Int} {d k : Nat} {t : StT (d + 1)} {cs : List Value} {ps : List Int}
set_option maxHeartbeats 4000000 in
theorem dst_call {L : List Int} {B : RR} {f : FuT} {fs : List FuT} {nf j0 jf : Nat} (hR : RB R N) (w : World) (hN : N ≤ w.heap.size) (hK : KD R N gr gw n (.slice fp fm fc) p1 kv fu gv nv ⟨W, V, k⟩ 0 0 w) (hM : StM N w (d + 1) cs t) (hok : okS ps nv (d + 1) t) (hps : ∀ p ∈ ps, p ≤ 64) (hkk : t.nd.k = 6) (hj : t.nd.v = j0) (hjn : j0 < nv) (hfj : t.nd.f = jf) (hev : evs W V 8 t.nd.a = some L) (hLU : ∀ x ∈ L, U64 x) (hRF : ∀ u, R u → RS N u 3 (FuM N u) fp fm fc fs) (hf : fs[jf]? = some f) (hnf : f.v = nf) (hn64 : nf ≤ 64) (hLn : L.length ≤ nf) (hxU : U64 (fvB B)) (hB : ∀ (gv' : Nat) (u : World) (sp : Option Addr) (m cap : Nat), N ≤ u.heap.size → KD R N gr gw n (.slice fp fm fc) p1 kv fu gv' nf ⟨W, L ++ List.replicate (nf - L.length) 0, k⟩ 0 0 u → RS N u 7 (StM N u 8) sp m cap f.b → Calls Try.prog 28 #[.pointer (some ⟨gr, 0, none⟩), .slice sp m cap, .slice (some ⟨gv', 0, none⟩) nf nf] u (KQ R N gr gw n (.slice fp fm fc) p1 kv fu gv' nf B u)) :
    Calls Try.prog 37 (stArgs gr gv nv cs) w (KQ R N gr gw n (.slice fp fm fc) p1 kv fu gv nv (back ⟨W, V, k⟩ t.nd.v B) w) := by
  rw [hj]
  obtain ⟨hmy, hoa, hob, hoe⟩ := okS_s hok
  obtain ⟨sa, na, ca, sb, nb, cb, sc, nc, cc, hcs, hk0, hSa, hSb, hSc⟩ := hM
  rw [hj, hfj] at hcs
  subst hcs
  have hna : na ≤ 64 := by rw [hSa.len.out]; exact fewS hps hmy
  have b0 := ab w (.cells #[.int .u8 t.nd.k, .int .i64 (j0 : Int), .int .i64 (jf : Int), .int .i64 t.nd.t, .slice sa na ca, .slice sb nb cb, .slice sc nc cc] 78)
  have hK0 := hK.bl hR hN b0
  have A := Arr.new w 78 #[.int .u8 t.nd.k, .int .i64 (j0 : Int), .int .i64 (jf : Int), .int .i64 t.nd.t, .slice sa na ca, .slice sb nb cb, .slice sc nc cc]
  have hwg : w.heap.size ≠ gr ∧ w.heap.size ≠ gw ∧ w.heap.size ≠ gv := by have := hK.run.ar.lt; have := hK.run.aw.lt; have := hK.var.av.lt; omega
  have hgrU := hK0.run.ar.lt
  have hgwU := hK0.run.aw.lt
  have hgvU := hK0.var.av.lt
  have hlen := hSa.len
  have hSa0 := hSa.imp (b0.mono hN) (ExM.below (b0.mono hN) 8)
  have hSb0 := hSb.imp (b0.mono hN) (StM.below (b0.mono hN) d)
  have hSc0 := hSc.imp (b0.mono hN) (StM.below (b0.mono hN) d)
  have hcw0 : Ch (PD gr gw gv) w (w.alloc (.cells #[.int .u8 t.nd.k, .int .i64 (j0 : Int), .int .i64 (jf : Int), .int .i64 t.nd.t, .slice sa na ca, .slice sb nb cb, .slice sc nc cc] 78)) := Ch.ob b0
  have hNU : N ≤ (w.alloc (.cells #[.int .u8 t.nd.k, .int .i64 (j0 : Int), .int .i64 (jf : Int), .int .i64 t.nd.t, .slice sa na ca, .slice sb nb cb, .slice sc nc cc] 78)).heap.size := by simp; omega
  clear hSa hSb hSc hK b0
  unfold stArgs
  unfold stC
  have e4 : (t.nd.k == 4) = false := by simp; omega
  replace hkk := hid hkk
  replace hLU := hid hLU
  replace hRF := hid hRF
  replace hf := hid hf
  replace hnf := hid hnf
  replace hLn := hid hLn
  replace hB := hid hB
  replace hev := hid hev
  have k0 := A.cell 0
  go_enter Try.func37, Try.ntmps37
  go_upto_region 7 with fail
  generalize hUU : w.alloc (.cells #[.int .u8 t.nd.k, .int .i64 (j0 : Int), .int .i64 (jf : Int), .int .i64 t.nd.t, .slice sa na ca, .slice sb nb cb, .slice sc nc cc] 78) = U at *
  clear hUU k0
  have o0 : U.ownsRow U.heap.size 30 1 (.slice none 0 0) 0 (uL []) := World.ownsRow_nil _ _ _ _
  go_loopw [6, 7] (fun v i wr => ∃ (j : Nat) (X : List Int) (en : Int), i = .int .i64 (j : Int) ∧ j ≤ na ∧ X.length = j ∧ wr.ownsRow U.heap.size 30 1 v j (uL X) ∧ KD R N gr gw n (.slice fp fm fc) p1 kv fu gv nv ⟨W, V, k⟩ en 0 wr ∧ Ch (fun k => k = gr) U wr ∧ Hid ((en = 0 ∧ evs W V 8 t.nd.a = (evs W V 8 (t.nd.a.drop j)).map (X ++ ·)) ∨ (en = 2 ∧ evs W V 8 t.nd.a = none))) (fun _ i _ => na - (intOf i).toNat)
  case atStart => exact ⟨0, [], 0, rfl, by omega, rfl, o0, hK0, Ch.refl _ _, hid (.inl ⟨rfl, by rw [List.drop_zero]; cases evs W V 8 t.nd.a <;> rfl⟩)⟩
  case round =>
    clear o0
    obtain ⟨j, X, en, rfl, hj, hXl, ho, hKe, hcu, hor⟩ := hrel
    have k4 := (hcu.arr A hwg.1).cell 4
    have hcs := hcu.size
    have hlow : Below N U wr := hcu.bl fun i hi => ⟨by omega, by have := hKe.l1; omega⟩
    by_cases hlt : j < na
    · have hlt' : (j : Int) < na := by omega
      obtain ⟨a, ha⟩ : ∃ a, t.nd.a[j]? = some a := ⟨t.nd.a[j]'(by rw [← hlen.out]; exact hlt), List.getElem?_eq_getElem _⟩
      have hfd := evs_drop (W := W) (V := V) ha
      obtain ⟨g, off, rfl, hg, hRg⟩ := hSa0.at0 (by omega)
      obtain ⟨cs, hrg, hMa⟩ := hRg j a ha
      have hrg2 := rb hrg hlow hg
      have hMa2 := ExM.below hlow 8 cs a hMa
      obtain ⟨ka, na2, va2, oa, spa, ma, capa, rfl⟩ := hMa.five
      have q0 := hrg2 0 _ rfl
      have q1 := hrg2 1 _ rfl
      have q2 := hrg2 2 _ rfl
      have q3 := hrg2 3 _ rfl
      have q4 := hrg2 4 _ rfl
      simp only [Nat.add_zero] at q0
      have hoka := hoa a (List.mem_of_getElem? ha)
      replace hg := hid hg
      by_cases hen : en = 0
      · subst hen
        have hcc := hid (dval_any hKe.n1 hKe.l1 8 wr _ a (by omega) hKe.run hKe.var hMa2 hoka)
        have hor2 : evs W V 8 t.nd.a = (evs W V 8 (t.nd.a.drop j)).map (X ++ ·) := by
          rcases hor.out with h | h
          · exact h.2
          · exact absurd h.1 (by omega)
        have hnx : Hid (∀ z, (∀ x, evX W V 8 a = some x → z = x) → (enO (evX W V 8 a) = 0 ∧ evs W V 8 t.nd.a = (evs W V 8 (t.nd.a.drop (j + 1))).map ((X ++ [z]) ++ ·)) ∨ (enO (evX W V 8 a) = 2 ∧ evs W V 8 t.nd.a = none)) := hid fun z hz => by
          cases hx : evX W V 8 a with
          | none => exact .inr ⟨rfl, by rw [hor2, hfd, hx]; rfl⟩
          | some x => exact .inl ⟨rfl, by rw [hor2, hfd, hx, hz x hx]; show Option.map _ (Option.map _ _) = _; cases evs W V 8 (t.nd.a.drop (j + 1)) <;> simp⟩
        have hkd : Hid (∀ w1, DunI gr gw n (.slice fp fm fc) p1 kv W fu ((fu : Int) - k) (enO (evX W V 8 a)) 0 w1 → Ch (fun k => k = gr) wr w1 → KD R N gr gw n (.slice fp fm fc) p1 kv fu gv nv ⟨W, V, k⟩ (enO (evX W V 8 a)) 0 w1) := hid fun w1 h1 h2 => hKe.gr' hR (by omega) h2 hKe.le h1
        clear hor hor2 hfd hRg hrg hrg2 hMa hMa2 hoka ha hKe hSa0
        generalize evX W V 8 a = ra at *
        go_wp2_with (first
          | (go_at_call 49; go_must (refine hcc.out.mono ?_; rintro e w1 ⟨z, rfl, hz, hzx, hD1, hc1⟩; have hs1 := hc1.size; have ho2 := ownCh ho hc1 (fun k hk => by omega); have cx := (Arr.new w1 30 #[.int .u64 z]).cell 0; have ho3 := ownBl ho2 (ab w1 (.cells #[.int .u64 z] 30))))
          | (at_builtin; go_must (refine ap64 (by rfl) (.tmp 53) (.tmp 62) (by rfl) U.heap.size _ j X (by rfl) ho3 w1.heap.size z (by rfl) cx (by omega) (by simp; omega) ?_; intro v1 w2 ho4 hg4)))
        go_roundw
        case rel =>
          have hbB : Below U.heap.size w1 w2 := ((Below.refl _ w1).alloc (by omega) _).grown hg4 (by simp; omega) (fun k e => ownGe ho3 k e)
          exact ⟨j + 1, X ++ [z], enO ra, by go_num, by omega, by simp [hXl], ho4, (hkd.out w1 hD1 hc1).upto hR hgrU hgwU hgvU hNU hbB, (hcu.trans hc1).upto hbB, hid (hnx.out z hzx.out)⟩
        case measure => simp [intOf]; omega
      · have hor2 : en = 2 ∧ evs W V 8 t.nd.a = none := by
          rcases hor.out with h | h
          · exact absurd h.1 hen
          · exact h
        obtain ⟨rfl, hvn⟩ := hor2
        have hcc := hid (expr_off (k := ka) (nn := na2) (v := va2) (o := oa) (sv := .slice spa ma capa) (va2 := .slice (some ⟨gv, 0, none⟩) nv nv) wr hKe.run (by omega))
        have hkd : Hid (∀ w1, Below wr.heap.size wr w1 → KD R N gr gw n (.slice fp fm fc) p1 kv fu gv nv ⟨W, V, k⟩ 2 0 w1) := hid fun w1 h1 => hKe.bl hR (by omega) h1
        replace hvn := hid hvn
        clear hor hen hfd hRg hrg hrg2 hMa hMa2 hoka ha hKe hSa0
        go_wp2_with (first
          | (go_at_call 49; go_must (refine hcc.out.mono ?_; rintro e w1 ⟨rfl, hb1⟩; have hs1 := hb1.size; have ho2 := ownBl ho hb1; have cx := (Arr.new w1 30 #[.int .u64 0]).cell 0; have ho3 := ownBl ho2 (ab w1 (.cells #[.int .u64 0] 30))))
          | (at_builtin; go_must (refine ap64 (by rfl) (.tmp 53) (.tmp 62) (by rfl) U.heap.size _ j X (by rfl) ho3 w1.heap.size 0 (by rfl) cx (by omega) (by simp; omega) ?_; intro v1 w2 ho4 hg4)))
        go_roundw
        case rel =>
          have hbB : Below U.heap.size w1 w2 := ((Below.refl _ w1).alloc (by omega) _).grown hg4 (by simp; omega) (fun k e => ownGe ho3 k e)
          exact ⟨j + 1, X ++ [0], 2, by go_num, by omega, by simp [hXl], ho4, (hkd.out w1 hb1).upto hR hgrU hgwU hgvU hNU hbB, (hcu.trans (Ch.ob hb1)).upto hbB, hid (.inr ⟨rfl, hvn.out⟩)⟩
        case measure => simp [intOf]; omega
    · obtain rfl : j = na := by omega
      obtain ⟨rfl, rfl⟩ : en = 0 ∧ X = L := by
        rcases hor.out with h | h
        · have h2 := h.2
          rw [hev.out, List.drop_eq_nil_of_le (by rw [← hlen.out]; exact Nat.le_refl _)] at h2
          replace h2 : some L = some (X ++ []) := h2
          simp at h2
          exact ⟨h.1, h2.symm⟩
        · have h2 := h.2; rw [hev.out] at h2; cases h2
      have c6 := hKe.run.ar.cell 6
      have A' := hcu.arr A hwg.1
      have k0 := A'.cell 0
      have hcP : Ch (PD gr gw gv) w wr := hcw0.trans (hcu.imp fun k hk => .inl hk)
      have hNw : N ≤ wr.heap.size := by omega
      have e1 : (t.nd.k == 1) = false := by have := hkk.out; simp; omega
      have e2 : (t.nd.k == 2) = false := by have := hkk.out; simp; omega
      have e3 : (t.nd.k == 3) = false := by have := hkk.out; simp; omega
      have e5 : (t.nd.k == 5) = false := by have := hkk.out; simp; omega
      have e6 : (t.nd.k == 6) = true := by have := hkk.out; simp; omega
      have ho' : wr.ownsRow U.heap.size 30 1 _ j (by64 X) := ho
      obtain ⟨sx, cx, rfl, hAG, -⟩ := own_ag ho'
      have hcc := hid (dcall (ca := cx) hR wr hNw hKe.run hKe.l1 hKe.l2 hKe.r hKe.le hKe.fu4 (hRF.out wr hKe.r) hf.out hnf.out hn64 hAG hLn.out hLU.out hB.out)
      have k1 : wr.cell? ⟨w.heap.size, 1, none⟩ = some (.int .i64 (j0 : Int)) := A'.cell 1
      have k2 : wr.cell? ⟨w.heap.size, 2, none⟩ = some (.int .i64 (jf : Int)) := A'.cell 2
      have hjn' : (j0 : Int) < nv := by omega
      have hn64v := hKe.var.n64
      have hgm : ∀ q, q ≠ gr → q ≠ gw → ¬ (q = gr ∨ q = gw) := fun q a b => by rintro (h | h); exact a h; exact b h
      have hkd : Hid (∀ u (en : Int), DunI gr gw n (.slice fp fm fc) p1 kv B.s.W fu ((fu : Int) - B.s.lf) en 0 u → Ch (fun k => k = gr ∨ k = gw) wr u → B.s.lf ≤ fu → KD R N gr gw n (.slice fp fm fc) p1 kv fu gv nv ⟨B.s.W, V, B.s.lf⟩ en 0 u ∧ Ch (PD gr gw gv) w u ∧ u.cell? ⟨w.heap.size, 1, none⟩ = some (.int .i64 (j0 : Int))) := hid fun u en h1 h2 h3 => ⟨⟨h1, ⟨h2.arr hKe.var.av (hgm _ hKe.n1.symm hKe.n2.symm), hKe.var.len, hKe.var.n64, hKe.var.vU⟩, hKe.n1, hKe.n2, hKe.l1, hKe.l2, hKe.l3, hR _ _ (h2.bl fun i hi => ⟨by omega, hgm _ (by have := hKe.l1; omega) (by have := hKe.l2; omega)⟩) hKe.r, h3, hKe.fu4⟩, hcP.trans (h2.imp fun k hk => by rcases hk with h | h; exact .inl h; exact .inr (.inl h)), (h2.arr A' (hgm _ hwg.1 hwg.2.1)).cell 1⟩
      unfold CQ at hcc
      clear hor hKe ho ho' hSa0 hSb0 hSc0 hAG hB hRF hf hnf hLU hLn
      by_cases hB1 : B.k ≤ 1
      · rw [if_pos hB1, if_pos hB1] at hcc
        have hbk : back ⟨W, V, k⟩ (j0 : Int) B = ⟨0, 0, ⟨B.s.W, V.set j0 (fvB B), B.s.lf⟩⟩ := by
          unfold back fvB
          by_cases h0 : B.k = 0
          · rw [if_pos h0, if_neg (by omega)]; simp
          · rw [if_neg h0, if_pos (by omega), if_pos (by omega)]; simp
        replace hbk := hid hbk
        clear hB1
        go_upto_region 27 with (go_at_call 19; go_must (refine hcc.out.mono ?_; rintro e w2 ⟨rfl, hD2, hc2, hl2⟩; have d6 := hD2.ar.cell 6))
        obtain ⟨hK2, hcP2, k1'⟩ := hkd.out w2 0 hD2 hc2 hl2
        have vc := hK2.var.av.cell j0
        rw [uA_get (by rw [hK2.var.len.out]; exact hjn)] at vc
        have vf := hK2.var.av.frozen j0
        have hfin : Hid (KQ R N gr gw n (.slice fp fm fc) p1 kv fu gv nv ⟨0, 0, ⟨B.s.W, V.set j0 (fvB B), B.s.lf⟩⟩ w (.returned (.tuple #[])) (w2.setCell ⟨gv, j0, none⟩ (.int .u64 (fvB B)))) := hid ⟨rfl, ⟨⟨hK2.run.ar.setOther _ hK2.n1, hK2.run.aw.setOther _ hK2.n2, hK2.run.ne, hK2.run.len, hK2.run.n10, hK2.run.wU⟩, ⟨by rw [← uA_set]; exact hK2.var.av.set j0 _, hid (by rw [List.length_set]; exact hK2.var.len.out), hK2.var.n64, U_set hK2.var.vU hxU⟩, hK2.n1, hK2.n2, hK2.l1, hK2.l2, hK2.l3, hR _ _ (((Ch.refl (fun k => k = gv) w2).st (g := gv) (j := j0) (.int .u64 (fvB B)) (fun _ => rfl)).bl fun i hi => ⟨by have := hc2.size; omega, by have := hK2.l3; omega⟩) hK2.r, hK2.le, hK2.fu4⟩, hcP2.st (g := gv) (j := j0) (.int .u64 (fvB B)) (fun _ => .inr (.inr rfl))⟩
        clear hK2 hkd hcc hD2
        generalize V.getD j0 0 = old at *
        go_wp2_with fail
        go_end0
        rw [hbk.out]
        exact hfin.out
      · rw [if_neg hB1, if_neg hB1] at hcc
        have e6 : ((B.k : Int) == 0) = false := by simp; omega
        have hbk : back ⟨W, V, k⟩ (j0 : Int) B = ⟨B.k, 0, ⟨B.s.W, V, B.s.lf⟩⟩ := by
          unfold back
          rw [if_neg (by omega), if_neg (by omega)]
        have hfv : fvB (⟨B.k, 0, ⟨B.s.W, V, B.s.lf⟩⟩ : RR) = 0 := fvB_n (by show B.k ≠ 1; omega)
        replace hbk := hid hbk
        replace hfv := hid hfv
        clear hB1
        go_wp2_with (go_at_call 19; go_must (refine hcc.out.mono ?_; rintro e w2 ⟨rfl, hD2, hc2, hl2⟩; have d6 := hD2.ar.cell 6))
        go_end0
        obtain ⟨hK2, hcP2, k1'⟩ := hkd.out w2 _ hD2 hc2 hl2
        rw [hbk.out]
        exact ⟨rfl, by rw [hfv.out]; exact hK2, hcP2⟩
end Go.Proofs.Ytmljihggooaboaa
/- Layer interp: the preimage at an address, by the document. -/
namespace Go.Proofs.Ytmljihggooaboaa
open Go.RowKit
set_option maxRecDepth 100000
set_option linter.unusedVariables false
set_option linter.unusedSimpArgs false

/-- What the document's pre answers. -/
def DpP (es : List En) (r : Option (List Int)) (gr gw n : Nat) (p0 p1 kv : Value) (W : List Int) (fu st va : Int) (w : World) (e : Ending) (w' : World) : Prop :=
  Ch (fun k => k = gr) w w' ∧ ((∃ en, r = some en.bs ∧ en ∈ es ∧ e = .returned (.tuple #[.slice en.sp en.n en.cap, .bool true]) ∧ DunI gr gw n p0 p1 kv W fu st 0 va w') ∨ (r = none ∧ e = .returned (.tuple #[.slice none 0 0, .bool false]) ∧ DunI gr gw n p0 p1 kv W fu st 2 va w'))
variable {gr gw n : Nat} {p0 p1 : Value} {W : List Int} {fu st va : Int} {es : List En} {N : Nat} {kp : Option Addr} {kn kc : Nat}
set_option maxHeartbeats 1000000 in
theorem dpre_no {a : Int} (w : World) (hI : DunI gr gw n p0 p1 (.slice kp kn kc) W fu st 0 va w) (ha : U64 a) (hno : ¬ a + 4 ≤ n) :
    Calls Try.prog 53 #[.pointer (some ⟨gr, 0, none⟩), .int .u64 a] w (DpP es (prW es W a) gr gw n p0 p1 (.slice kp kn kc) W fu st va w) := by
  have hp : prW es W a = none := by unfold prW; rw [hI.len.out, if_pos hno]
  rw [hp]
  have c6 := hI.ar.cell 6
  have hhs := dhas_any (x := a) (y := 4) (c := 4) w hI ha rfl (by omega)
  rw [decide_eq_false (show ¬ (4 = 0 ∨ a + (4 : Nat) ≤ n) by omega)] at hhs
  have htr := trap_any w hI
  clear hI hp
  go_enter Try.func53, Try.ntmps53
  go_wp2_with (first
    | (go_at_call 50; go_must (refine hhs.mono ?_; rintro e w2 ⟨rfl, h⟩; replace h := h.symm; subst h))
    | (go_at_call 51; go_must (refine htr.mono ?_; rintro e w3 ⟨rfl, hD3, hc3⟩)))
  go_ret2
  exact ⟨hc3, .inr ⟨rfl, rfl, hD3⟩⟩
set_option maxHeartbeats 4000000 in
theorem dpre_ok {a : Int} {ka : Nat} (w : World) (hI : DunI gr gw n p0 p1 (.slice kp kn kc) W fu st 0 va w) (hE : ES N w kp kn kc es) (ha : a = (ka : Int)) (hno : ka + 4 ≤ n) :
    Calls Try.prog 53 #[.pointer (some ⟨gr, 0, none⟩), .int .u64 a] w (DpP es (prW es W a) gr gw n p0 p1 (.slice kp kn kc) W fu st va w) := by
  subst ha
  have hn10 := hI.n10
  have hp : prW es W (ka : Int) = (pre es (fmL (fun t => W.getD (ka + t) 0))).map En.bs := by unfold prW; rw [hI.len.out, if_neg (by omega), Int.toNat_natCast]
  rw [hp]
  have c2 : w.cell? ⟨gr, 2, none⟩ = some (.slice kp kn kc) := hI.ar.cell 2
  have c3 : w.cell? ⟨gr, 3, none⟩ = some (.slice (some ⟨gw, 0, none⟩) n n) := hI.ar.cell 3
  have c6 := hI.ar.cell 6
  have cw : ∀ t, t < 4 → w.cell? ⟨gw, ka + t, none⟩ = some (.int .u64 (W.getD (ka + t) 0)) := fun t ht => (hI.aw.cell _).trans (uA_get (by rw [hI.len.out]; omega))
  have x0 : w.cell? ⟨gw, ka, none⟩ = some (.int .u64 (W.getD (ka + 0) 0)) := cw 0 (by omega)
  have x1 := cw 1 (by omega)
  have x2 := cw 2 (by omega)
  have x3 := cw 3 (by omega)
  have hhs := dhas_any (x := (ka : Int)) (y := 4) (c := 4) w hI (by unfold U64; omega) rfl (by omega)
  rw [decide_eq_true (show (4 = 0 ∨ (ka : Int) + (4 : Nat) ≤ n) by omega)] at hhs
  have a1 : IntKind.u64.wrap ((ka : Int) + 1) = (ka : Int) + 1 := wrap64_of (by omega) (by omega)
  have a2 : IntKind.u64.wrap ((ka : Int) + 2) = (ka : Int) + 2 := wrap64_of (by omega) (by omega)
  have a3 : IntKind.u64.wrap ((ka : Int) + 3) = (ka : Int) + 3 := wrap64_of (by omega) (by omega)
  have l0 : (ka : Int) < n := by omega
  have l1 : (ka : Int) + 1 < n := by omega
  have b1 : (0 : Int) ≤ (ka : Int) + 1 := by omega
  have t1 : ((ka : Int) + 1).toNat = ka + 1 := by omega
  have l2 : (ka : Int) + 2 < n := by omega
  have b2 : (0 : Int) ≤ (ka : Int) + 2 := by omega
  have t2 : ((ka : Int) + 2).toNat = ka + 2 := by omega
  have l3 : (ka : Int) + 3 < n := by omega
  have b3 : (0 : Int) ≤ (ka : Int) + 3 := by omega
  have t3 : ((ka : Int) + 3).toNat = ka + 3 := by omega
  have hgl := hI.ar.lt
  have hwl := hI.aw.lt
  obtain ⟨F, hF⟩ : ∃ F, F = fmL (fun t => W.getD (ka + t) 0) := ⟨_, rfl⟩
  have hFl : F.length = 32 := by rw [hF]; exact fmL_len _
  have hfr := fun (u : World) => refFrom_any #[.int .u64 (W.getD (ka + 0) 0), .int .u64 (W.getD (ka + 1) 0), .int .u64 (W.getD (ka + 2) 0), .int .u64 (W.getD (ka + 3) 0)] (fun t => W.getD (ka + t) 0) u (four_get (fun t => W.getD (ka + t) 0))
  rw [fmL_h8, ← hF] at hfr
  rw [← hF]
  have hpr := hid fun (u : World) (hb : Below w.heap.size w u) => refPre_any kp kn kc es F _ u (hE.here.below hb) hFl
  have hDD := hid fun (u : World) (hb : Below w.heap.size w u) => hI.bl hb
  have htr := hid fun (u : World) (hb : Below w.heap.size w u) => trap_any u (hI.bl hb)
  replace hFl := hid hFl
  replace hfr := hid hfr
  clear hI hF hp cw hE
  generalize W.getD (ka + 0) 0 = y0 at *
  generalize W.getD (ka + 1) 0 = y1 at *
  generalize W.getD (ka + 2) 0 = y2 at *
  generalize W.getD (ka + 3) 0 = y3 at *
  go_enter Try.func53, Try.ntmps53
  go_upto_region 6 with (go_at_call 50; go_must (refine hhs.mono ?_; rintro e w2 ⟨rfl, h⟩; replace h := h.symm; subst h))
  refine rgn (fun u => u.cell? ⟨gr, 2, none⟩ = some (.slice kp kn kc) ∧ u.cell? ⟨gr, 3, none⟩ = some (.slice (some ⟨gw, 0, none⟩) n n) ∧ u.cell? ⟨gw, ka, none⟩ = some (.int .u64 y0) ∧ u.cell? ⟨gw, ka + 1, none⟩ = some (.int .u64 y1) ∧ u.cell? ⟨gw, ka + 2, none⟩ = some (.int .u64 y2) ∧ u.cell? ⟨gw, ka + 3, none⟩ = some (.int .u64 y3)) ⟨c2, c3, x0, x1, x2, x3⟩ (fun hS => ?_)
  refine tk7 0 rfl ?_
  refine tk7 1 rfl ?_
  refine tk7 2 rfl ?_
  refine tk7 3 rfl ?_
  refine tk7 4 rfl ?_
  refine tk7 5 rfl ?_
  refine tk7 6 rfl ?_
  refine tk7 7 rfl ?_
  refine tk7 8 rfl ?_
  refine tk7 9 rfl ?_
  refine tk7 10 rfl ?_
  refine tk7 11 rfl ?_
  refine tk7 12 rfl ?_
  refine tk7 13 rfl ?_
  refine tk7 14 rfl ?_
  refine tk7 15 rfl ?_
  refine tk7 16 rfl ?_
  refine tk7 17 rfl ?_
  refine tk7 18 rfl ?_
  refine tk7 19 rfl ?_
  refine tk7 20 rfl ?_
  refine tk7 21 rfl ?_
  refine tk7 22 rfl ?_
  refine tk7 23 rfl ?_
  refine tk7 24 rfl ?_
  refine tk7 25 rfl ?_
  refine tk7 26 rfl ?_
  refine tk7 27 rfl ?_
  refine tk7 28 rfl ?_
  refine tk7 29 rfl ?_
  refine tk7 30 rfl ?_
  refine tk7 31 rfl ?_
  refine tk7 32 rfl ?_
  refine tk7 33 rfl ?_
  refine tk7 34 rfl ?_
  refine tk7 35 rfl ?_
  refine rd 36 rfl (fun K hK => ?_)
  go_simp
  refine (hfr.out _).mono ?_
  rintro e w5 ⟨rfl, hb5⟩
  have hb6 : Below w.heap.size w w5 := ((Below.refl _ w).drew).trans hb5
  have T : ∀ (q o : Nat) (y : Value), q < w.heap.size → w.cell? ⟨q, o, none⟩ = some y → w5.cell? ⟨q, o, none⟩ = some y := fun q o y h1 h2 => (hb6.cell (p := ⟨q, o, none⟩) h1).trans h2
  have S5 := And.intro (T _ _ _ hgl c2) (And.intro (T _ _ _ hgl c3) (And.intro (T _ _ _ hwl x0) (And.intro (T _ _ _ hwl x1) (And.intro (T _ _ _ hwl x2) (T _ _ _ hwl x3)))))
  go_wp2_with fail
  refine hK.out _ _ S5 (fun hS5 => ?_)
  clear hK K
  try simp only [Act.put, List.setIfInBounds_toArray, List.set_cons_zero, List.set_cons_succ]
  refine rd 37 rfl (fun K hK => ?_)
  go_simp
  refine (hpr.out _ hb6).mono ?_
  rintro e w6 ⟨hb7, ⟨en, hp, hen, rfl⟩ | ⟨hp, rfl⟩⟩
  · have hb8 := hb6.trans (hb7.mono hb6.size)
    have T6 : ∀ (q o : Nat) (y : Value), q < w.heap.size → w.cell? ⟨q, o, none⟩ = some y → w6.cell? ⟨q, o, none⟩ = some y := fun q o y h1 h2 => (hb8.cell (p := ⟨q, o, none⟩) h1).trans h2
    have S6 := And.intro (T6 _ _ _ hgl c2) (And.intro (T6 _ _ _ hgl c3) (And.intro (T6 _ _ _ hwl x0) (And.intro (T6 _ _ _ hwl x1) (And.intro (T6 _ _ _ hwl x2) (T6 _ _ _ hwl x3)))))
    have hfin : Hid (DpP es ((pre es F).map En.bs) gr gw n p0 p1 (.slice kp kn kc) W fu st va w (.returned (.tuple #[.slice en.sp en.n en.cap, .bool true])) w6) := hid ⟨Ch.ob hb8, .inl ⟨en, by rw [hp]; rfl, hen, rfl, hDD.out _ hb8⟩⟩
    clear hp hen
    go_wp2_with fail
    refine hK.out _ _ S6 (fun hS6 => ?_)
    clear hK K
    try simp only [Act.put, List.setIfInBounds_toArray, List.set_cons_zero, List.set_cons_succ]
    refine tk7 38 rfl ?_
    refine tk7 39 rfl ?_
    refine tk7 40 rfl ?_
    refine tk7 41 rfl ?_
    refine tk7 42 rfl ?_
    refine dn ?_
    go_wp2_with fail
    go_ret2
    exact hfin.out
  · have hb8 := hb6.trans (hb7.mono hb6.size)
    have T6 : ∀ (q o : Nat) (y : Value), q < w.heap.size → w.cell? ⟨q, o, none⟩ = some y → w6.cell? ⟨q, o, none⟩ = some y := fun q o y h1 h2 => (hb8.cell (p := ⟨q, o, none⟩) h1).trans h2
    have S6 := And.intro (T6 _ _ _ hgl c2) (And.intro (T6 _ _ _ hgl c3) (And.intro (T6 _ _ _ hwl x0) (And.intro (T6 _ _ _ hwl x1) (And.intro (T6 _ _ _ hwl x2) (T6 _ _ _ hwl x3)))))
    have htr2 := hid (htr.out _ hb8)
    have hfin : Hid (∀ u, DunI gr gw n p0 p1 (.slice kp kn kc) W fu st 2 va u → Ch (fun k => k = gr) w6 u → DpP es ((pre es F).map En.bs) gr gw n p0 p1 (.slice kp kn kc) W fu st va w (.returned (.tuple #[.slice none 0 0, .bool false])) u) := hid fun u h1 h2 => ⟨(Ch.ob hb8).trans h2, .inr ⟨by rw [hp]; rfl, rfl, h1⟩⟩
    clear hp
    go_wp2_with fail
    refine hK.out _ _ S6 (fun hS6 => ?_)
    clear hK K
    try simp only [Act.put, List.setIfInBounds_toArray, List.set_cons_zero, List.set_cons_succ]
    refine tk7 38 rfl ?_
    refine tk7 39 rfl ?_
    refine tk7 40 rfl ?_
    refine tk7 41 rfl ?_
    refine tk7 42 rfl ?_
    refine dn ?_
    go_wp2_with (go_at_call 51; go_must (refine htr2.out.mono ?_; rintro e w7 ⟨rfl, hD7, hc7⟩))
    go_ret2
    exact hfin.out w7 hD7 hc7
theorem dpre_any {a : Int} (w : World) (hI : DunI gr gw n p0 p1 (.slice kp kn kc) W fu st 0 va w) (hE : ES N w kp kn kc es) (ha : U64 a) :
    Calls Try.prog 53 #[.pointer (some ⟨gr, 0, none⟩), .int .u64 a] w (DpP es (prW es W a) gr gw n p0 p1 (.slice kp kn kc) W fu st va w) := by
  have h0 := ha.1
  by_cases hno : a + 4 ≤ n
  · exact dpre_ok (ka := a.toNat) w hI hE (by omega) (by omega)
  · exact dpre_no w hI ha hno
end Go.Proofs.Ytmljihggooaboaa
