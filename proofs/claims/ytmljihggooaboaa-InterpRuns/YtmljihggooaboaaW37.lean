/- Layer interp: the document's statements that store, choose, return. -/
import Derived.Test.YtmljihggooaboaaW36
import Derived.Handy
import Derived.BigQuiet
import Derived.BigRegion
namespace Go.Proofs.Ytmljihggooaboaa
open Go.RowKit
set_option maxRecDepth 100000
set_option linter.unusedVariables false
set_option linter.unusedSimpArgs false

variable {R : World → Prop} {N gr gw n : Nat} {p0 p1 kv : Value} {fu gv nv : Nat} {W V : List Int} {d k : Nat} {t : StT (d + 1)} {cs : List Value} {ps : List Int}
set_option maxHeartbeats 4000000 in
theorem dst_store {x : Int} {q : Nat} (hR : RB R N) (w : World) (hN : N ≤ w.heap.size) (hK : KD R N gr gw n p0 p1 kv fu gv nv ⟨W, V, k⟩ 0 0 w) (hM : StM N w (d + 1) cs t) (hok : okS ps nv (d + 1) t) (hps : ∀ p ∈ ps, p ≤ 64) (hkk : t.nd.k = 2) (hev : evs W V 8 t.nd.a = some [(q : Int), x]) (hxU : U64 x) (hq : q < n) :
    Calls Try.prog 37 (stArgs gr gv nv cs) w (KQ R N gr gw n p0 p1 kv fu gv nv ⟨0, 0, ⟨W.set q x, V, k⟩⟩ w) := by
  obtain ⟨hmy, hoa, hob, hoe⟩ := okS_s hok
  obtain ⟨sa, na, ca, sb, nb, cb, sc, nc, cc, hcs, hk0, hSa, hSb, hSc⟩ := hM
  subst hcs
  have hna : na ≤ 64 := by rw [hSa.len.out]; exact fewS hps hmy
  have b0 := ab w (.cells #[.int .u8 t.nd.k, .int .i64 t.nd.v, .int .i64 t.nd.f, .int .i64 t.nd.t, .slice sa na ca, .slice sb nb cb, .slice sc nc cc] 78)
  have hK0 := hK.bl hR hN b0
  have A := Arr.new w 78 #[.int .u8 t.nd.k, .int .i64 t.nd.v, .int .i64 t.nd.f, .int .i64 t.nd.t, .slice sa na ca, .slice sb nb cb, .slice sc nc cc]
  have hwg : w.heap.size ≠ gr ∧ w.heap.size ≠ gw ∧ w.heap.size ≠ gv := by have := hK.run.ar.lt; have := hK.run.aw.lt; have := hK.var.av.lt; omega
  have hgrU := hK0.run.ar.lt
  have hgwU := hK0.run.aw.lt
  have hgvU := hK0.var.av.lt
  have hlen := hSa.len
  have hSa0 := hSa.imp (b0.mono hN) (ExM.below (b0.mono hN) 8)
  have hSb0 := hSb.imp (b0.mono hN) (StM.below (b0.mono hN) d)
  have hSc0 := hSc.imp (b0.mono hN) (StM.below (b0.mono hN) d)
  have hcw0 : Ch (PD gr gw gv) w (w.alloc (.cells #[.int .u8 t.nd.k, .int .i64 t.nd.v, .int .i64 t.nd.f, .int .i64 t.nd.t, .slice sa na ca, .slice sb nb cb, .slice sc nc cc] 78)) := Ch.ob b0
  have hNU : N ≤ (w.alloc (.cells #[.int .u8 t.nd.k, .int .i64 t.nd.v, .int .i64 t.nd.f, .int .i64 t.nd.t, .slice sa na ca, .slice sb nb cb, .slice sc nc cc] 78)).heap.size := by simp; omega
  clear hSa hSb hSc hK b0
  unfold stArgs
  unfold stC
  have e4 : (t.nd.k == 4) = false := by simp; omega
  replace hkk := hid hkk
  replace hev := hid hev
  have k0 := A.cell 0
  go_enter Try.func37, Try.ntmps37
  go_upto_region 7 with fail
  generalize hUU : w.alloc (.cells #[.int .u8 t.nd.k, .int .i64 t.nd.v, .int .i64 t.nd.f, .int .i64 t.nd.t, .slice sa na ca, .slice sb nb cb, .slice sc nc cc] 78) = U at *
  clear hUU k0
  have o0 : U.ownsRow U.heap.size 30 1 (.slice none 0 0) 0 (uL []) := World.ownsRow_nil _ _ _ _
  go_loopw [6, 7] (fun v i wr => ∃ (j : Nat) (X : List Int) (en : Int), i = .int .i64 (j : Int) ∧ j ≤ na ∧ X.length = j ∧ wr.ownsRow U.heap.size 30 1 v j (uL X) ∧ KD R N gr gw n p0 p1 kv fu gv nv ⟨W, V, k⟩ en 0 wr ∧ Ch (fun k => k = gr) U wr ∧ Hid ((en = 0 ∧ evs W V 8 t.nd.a = (evs W V 8 (t.nd.a.drop j)).map (X ++ ·)) ∨ (en = 2 ∧ evs W V 8 t.nd.a = none))) (fun _ i _ => na - (intOf i).toNat)
  case atStart => exact ⟨0, [], 0, rfl, by omega, rfl, o0, hK0, Ch.refl _ _, hid (.inl ⟨rfl, by rw [List.drop_zero]; cases evs W V 8 t.nd.a <;> rfl⟩)⟩
  case round =>
    clear o0
    obtain ⟨j, X, en, rfl, hj, hXl, ho, hKe, hcu, hor⟩ := hrel
    have k4 := (hcu.arr A hwg.1).cell 4
    have hcs := hcu.size
    have hlow : Below N U wr := hcu.bl fun i hi => ⟨by omega, by have := hKe.l1; omega⟩
    by_cases hlt : j < na
    · have hlt' : (j : Int) < na := by omega
      obtain ⟨a, ha⟩ : ∃ a, t.nd.a[j]? = some a := ⟨t.nd.a[j]'(by rw [← hlen.out]; exact hlt), List.getElem?_eq_getElem _⟩
      have hfd := evs_drop (W := W) (V := V) ha
      obtain ⟨g, off, rfl, hg, hRg⟩ := hSa0.at0 (by omega)
      obtain ⟨cs, hrg, hMa⟩ := hRg j a ha
      have hrg2 := rb hrg hlow hg
      have hMa2 := ExM.below hlow 8 cs a hMa
      obtain ⟨ka, na2, va2, oa, spa, ma, capa, rfl⟩ := hMa.five
      have q0 := hrg2 0 _ rfl
      have q1 := hrg2 1 _ rfl
      have q2 := hrg2 2 _ rfl
      have q3 := hrg2 3 _ rfl
      have q4 := hrg2 4 _ rfl
      simp only [Nat.add_zero] at q0
      have hoka := hoa a (List.mem_of_getElem? ha)
      replace hg := hid hg
      by_cases hen : en = 0
      · subst hen
        have hcc := hid (dval_any hKe.n1 hKe.l1 8 wr _ a (by omega) hKe.run hKe.var hMa2 hoka)
        have hor2 : evs W V 8 t.nd.a = (evs W V 8 (t.nd.a.drop j)).map (X ++ ·) := by
          rcases hor.out with h | h
          · exact h.2
          · exact absurd h.1 (by omega)
        have hnx : Hid (∀ z, (∀ x, evX W V 8 a = some x → z = x) → (enO (evX W V 8 a) = 0 ∧ evs W V 8 t.nd.a = (evs W V 8 (t.nd.a.drop (j + 1))).map ((X ++ [z]) ++ ·)) ∨ (enO (evX W V 8 a) = 2 ∧ evs W V 8 t.nd.a = none)) := hid fun z hz => by
          cases hx : evX W V 8 a with
          | none => exact .inr ⟨rfl, by rw [hor2, hfd, hx]; rfl⟩
          | some x => exact .inl ⟨rfl, by rw [hor2, hfd, hx, hz x hx]; show Option.map _ (Option.map _ _) = _; cases evs W V 8 (t.nd.a.drop (j + 1)) <;> simp⟩
        have hkd : Hid (∀ w1, DunI gr gw n p0 p1 kv W fu ((fu : Int) - k) (enO (evX W V 8 a)) 0 w1 → Ch (fun k => k = gr) wr w1 → KD R N gr gw n p0 p1 kv fu gv nv ⟨W, V, k⟩ (enO (evX W V 8 a)) 0 w1) := hid fun w1 h1 h2 => hKe.gr' hR (by omega) h2 hKe.le h1
        clear hor hor2 hfd hRg hrg hrg2 hMa hMa2 hoka ha hKe hSa0
        generalize evX W V 8 a = ra at *
        go_wp2_with (first
          | (go_at_call 49; go_must (refine hcc.out.mono ?_; rintro e w1 ⟨z, rfl, hz, hzx, hD1, hc1⟩; have hs1 := hc1.size; have ho2 := ownCh ho hc1 (fun k hk => by omega); have cx := (Arr.new w1 30 #[.int .u64 z]).cell 0; have ho3 := ownBl ho2 (ab w1 (.cells #[.int .u64 z] 30))))
          | (at_builtin; go_must (refine ap64 (by rfl) (.tmp 53) (.tmp 62) (by rfl) U.heap.size _ j X (by rfl) ho3 w1.heap.size z (by rfl) cx (by omega) (by simp; omega) ?_; intro v1 w2 ho4 hg4)))
        go_roundw
        case rel =>
          have hbB : Below U.heap.size w1 w2 := ((Below.refl _ w1).alloc (by omega) _).grown hg4 (by simp; omega) (fun k e => ownGe ho3 k e)
          exact ⟨j + 1, X ++ [z], enO ra, by go_num, by omega, by simp [hXl], ho4, (hkd.out w1 hD1 hc1).upto hR hgrU hgwU hgvU hNU hbB, (hcu.trans hc1).upto hbB, hid (hnx.out z hzx.out)⟩
        case measure => simp [intOf]; omega
      · have hor2 : en = 2 ∧ evs W V 8 t.nd.a = none := by
          rcases hor.out with h | h
          · exact absurd h.1 hen
          · exact h
        obtain ⟨rfl, hvn⟩ := hor2
        have hcc := hid (expr_off (k := ka) (nn := na2) (v := va2) (o := oa) (sv := .slice spa ma capa) (va2 := .slice (some ⟨gv, 0, none⟩) nv nv) wr hKe.run (by omega))
        have hkd : Hid (∀ w1, Below wr.heap.size wr w1 → KD R N gr gw n p0 p1 kv fu gv nv ⟨W, V, k⟩ 2 0 w1) := hid fun w1 h1 => hKe.bl hR (by omega) h1
        replace hvn := hid hvn
        clear hor hen hfd hRg hrg hrg2 hMa hMa2 hoka ha hKe hSa0
        go_wp2_with (first
          | (go_at_call 49; go_must (refine hcc.out.mono ?_; rintro e w1 ⟨rfl, hb1⟩; have hs1 := hb1.size; have ho2 := ownBl ho hb1; have cx := (Arr.new w1 30 #[.int .u64 0]).cell 0; have ho3 := ownBl ho2 (ab w1 (.cells #[.int .u64 0] 30))))
          | (at_builtin; go_must (refine ap64 (by rfl) (.tmp 53) (.tmp 62) (by rfl) U.heap.size _ j X (by rfl) ho3 w1.heap.size 0 (by rfl) cx (by omega) (by simp; omega) ?_; intro v1 w2 ho4 hg4)))
        go_roundw
        case rel =>
          have hbB : Below U.heap.size w1 w2 := ((Below.refl _ w1).alloc (by omega) _).grown hg4 (by simp; omega) (fun k e => ownGe ho3 k e)
          exact ⟨j + 1, X ++ [0], 2, by go_num, by omega, by simp [hXl], ho4, (hkd.out w1 hb1).upto hR hgrU hgwU hgvU hNU hbB, (hcu.trans (Ch.ob hb1)).upto hbB, hid (.inr ⟨rfl, hvn.out⟩)⟩
        case measure => simp [intOf]; omega
    · obtain rfl : j = na := by omega
      obtain ⟨rfl, rfl⟩ : en = 0 ∧ X = [(q : Int), x] := by
        rcases hor.out with h | h
        · have h2 := h.2
          rw [hev.out, List.drop_eq_nil_of_le (by rw [← hlen.out]; exact Nat.le_refl _)] at h2
          replace h2 : some [(q : Int), x] = some (X ++ []) := h2
          simp at h2
          exact ⟨h.1, h2.symm⟩
        · have h2 := h.2; rw [hev.out] at h2; cases h2
      have c6 := hKe.run.ar.cell 6
      have A' := hcu.arr A hwg.1
      have k0 := A'.cell 0
      have hcP : Ch (PD gr gw gv) w wr := hcw0.trans (hcu.imp fun k hk => .inl hk)
      have hNw : N ≤ wr.heap.size := by omega
      have e1 : (t.nd.k == 1) = false := by have := hkk.out; simp; omega
      have e2 : (t.nd.k == 2) = true := by have := hkk.out; simp; omega
      have hna1 : j = 2 := by simpa using hXl.symm
      subst hna1
      obtain ⟨g, c, rfl, hgU, hgl, hcl⟩ := own_pos ho (by omega)
      have x0 := hcl 0 _ rfl
      have x1 := hcl 1 x rfl
      have hq' : (q : Int) < n := by omega
      have hn10 := hKe.run.n10
      have hhs := dhas_any (x := (q : Int)) (y := 1) (c := 1) wr hKe.run (by unfold U64; omega) rfl (by omega)
      rw [decide_eq_true (show (1 = 0 ∨ (q : Int) + (1 : Nat) ≤ n) by omega)] at hhs
      have c3 := hKe.run.ar.cell 3
      have vc := (hKe.run.aw.cell q).trans (uA_get (by rw [hKe.run.len.out]; exact hq))
      have vf := hKe.run.aw.frozen q
      have hgw : g ≠ gw ∧ gr ≠ gw := ⟨by omega, hKe.run.ne⟩
      have hfin : Hid (KQ R N gr gw n p0 p1 kv fu gv nv ⟨0, 0, ⟨W.set q x, V, k⟩⟩ w (.returned (.tuple #[])) (wr.setCell ⟨gw, q, none⟩ (.int .u64 x)).drew) := hid ⟨rfl, ⟨⟨(hKe.run.ar.setOther _ hKe.run.ne).drew, by rw [← uA_set]; exact (hKe.run.aw.set q _).drew, hKe.run.ne, hid (by rw [List.length_set]; exact hKe.run.len.out), hKe.run.n10, U_set hKe.run.wU hxU⟩, ⟨(hKe.var.av.setOther _ (fun e => hKe.n2 e.symm)).drew, hKe.var.len, hKe.var.n64, hKe.var.vU⟩, hKe.n1, hKe.n2, hKe.l1, hKe.l2, hKe.l3, hR _ _ (((Ch.refl (fun k => k = gw) wr).st (g := gw) (j := q) (.int .u64 x) (fun _ => rfl)).dw.bl fun i hi => ⟨by omega, by have := hKe.l2; omega⟩) hKe.r, hKe.le, hKe.fu4⟩, (hcP.st (g := gw) (j := q) (.int .u64 x) (fun _ => .inr (.inl rfl))).dw⟩
      clear hor hKe hcl ho hSa0 hSb0 hSc0
      generalize W.getD q 0 = old at *
      go_upto_region 17 with (go_at_call 50; go_must (refine hhs.mono ?_; rintro e w2 ⟨rfl, h⟩; replace h := h.symm; subst h))
      go_region
      go_wp2_with fail
      go_end0
      exact hfin.out
set_option maxHeartbeats 4000000 in
theorem dst_stno {q x : Int} (hR : RB R N) (w : World) (hN : N ≤ w.heap.size) (hK : KD R N gr gw n p0 p1 kv fu gv nv ⟨W, V, k⟩ 0 0 w) (hM : StM N w (d + 1) cs t) (hok : okS ps nv (d + 1) t) (hps : ∀ p ∈ ps, p ≤ 64) (hkk : t.nd.k = 2) (hev : evs W V 8 t.nd.a = some [q, x]) (hqU : U64 q) (hq : ¬ q < n) :
    Calls Try.prog 37 (stArgs gr gv nv cs) w (KQ R N gr gw n p0 p1 kv fu gv nv ⟨2, 0, ⟨W, V, k⟩⟩ w) := by
  obtain ⟨hmy, hoa, hob, hoe⟩ := okS_s hok
  obtain ⟨sa, na, ca, sb, nb, cb, sc, nc, cc, hcs, hk0, hSa, hSb, hSc⟩ := hM
  subst hcs
  have hna : na ≤ 64 := by rw [hSa.len.out]; exact fewS hps hmy
  have b0 := ab w (.cells #[.int .u8 t.nd.k, .int .i64 t.nd.v, .int .i64 t.nd.f, .int .i64 t.nd.t, .slice sa na ca, .slice sb nb cb, .slice sc nc cc] 78)
  have hK0 := hK.bl hR hN b0
  have A := Arr.new w 78 #[.int .u8 t.nd.k, .int .i64 t.nd.v, .int .i64 t.nd.f, .int .i64 t.nd.t, .slice sa na ca, .slice sb nb cb, .slice sc nc cc]
  have hwg : w.heap.size ≠ gr ∧ w.heap.size ≠ gw ∧ w.heap.size ≠ gv := by have := hK.run.ar.lt; have := hK.run.aw.lt; have := hK.var.av.lt; omega
  have hgrU := hK0.run.ar.lt
  have hgwU := hK0.run.aw.lt
  have hgvU := hK0.var.av.lt
  have hlen := hSa.len
  have hSa0 := hSa.imp (b0.mono hN) (ExM.below (b0.mono hN) 8)
  have hSb0 := hSb.imp (b0.mono hN) (StM.below (b0.mono hN) d)
  have hSc0 := hSc.imp (b0.mono hN) (StM.below (b0.mono hN) d)
  have hcw0 : Ch (PD gr gw gv) w (w.alloc (.cells #[.int .u8 t.nd.k, .int .i64 t.nd.v, .int .i64 t.nd.f, .int .i64 t.nd.t, .slice sa na ca, .slice sb nb cb, .slice sc nc cc] 78)) := Ch.ob b0
  have hNU : N ≤ (w.alloc (.cells #[.int .u8 t.nd.k, .int .i64 t.nd.v, .int .i64 t.nd.f, .int .i64 t.nd.t, .slice sa na ca, .slice sb nb cb, .slice sc nc cc] 78)).heap.size := by simp; omega
  clear hSa hSb hSc hK b0
  unfold stArgs
  unfold stC
  have e4 : (t.nd.k == 4) = false := by simp; omega
  replace hkk := hid hkk
  replace hev := hid hev
  have k0 := A.cell 0
  go_enter Try.func37, Try.ntmps37
  go_upto_region 7 with fail
  generalize hUU : w.alloc (.cells #[.int .u8 t.nd.k, .int .i64 t.nd.v, .int .i64 t.nd.f, .int .i64 t.nd.t, .slice sa na ca, .slice sb nb cb, .slice sc nc cc] 78) = U at *
  clear hUU k0
  have o0 : U.ownsRow U.heap.size 30 1 (.slice none 0 0) 0 (uL []) := World.ownsRow_nil _ _ _ _
  go_loopw [6, 7] (fun v i wr => ∃ (j : Nat) (X : List Int) (en : Int), i = .int .i64 (j : Int) ∧ j ≤ na ∧ X.length = j ∧ wr.ownsRow U.heap.size 30 1 v j (uL X) ∧ KD R N gr gw n p0 p1 kv fu gv nv ⟨W, V, k⟩ en 0 wr ∧ Ch (fun k => k = gr) U wr ∧ Hid ((en = 0 ∧ evs W V 8 t.nd.a = (evs W V 8 (t.nd.a.drop j)).map (X ++ ·)) ∨ (en = 2 ∧ evs W V 8 t.nd.a = none))) (fun _ i _ => na - (intOf i).toNat)
  case atStart => exact ⟨0, [], 0, rfl, by omega, rfl, o0, hK0, Ch.refl _ _, hid (.inl ⟨rfl, by rw [List.drop_zero]; cases evs W V 8 t.nd.a <;> rfl⟩)⟩
  case round =>
    clear o0
    obtain ⟨j, X, en, rfl, hj, hXl, ho, hKe, hcu, hor⟩ := hrel
    have k4 := (hcu.arr A hwg.1).cell 4
    have hcs := hcu.size
    have hlow : Below N U wr := hcu.bl fun i hi => ⟨by omega, by have := hKe.l1; omega⟩
    by_cases hlt : j < na
    · have hlt' : (j : Int) < na := by omega
      obtain ⟨a, ha⟩ : ∃ a, t.nd.a[j]? = some a := ⟨t.nd.a[j]'(by rw [← hlen.out]; exact hlt), List.getElem?_eq_getElem _⟩
      have hfd := evs_drop (W := W) (V := V) ha
      obtain ⟨g, off, rfl, hg, hRg⟩ := hSa0.at0 (by omega)
      obtain ⟨cs, hrg, hMa⟩ := hRg j a ha
      have hrg2 := rb hrg hlow hg
      have hMa2 := ExM.below hlow 8 cs a hMa
      obtain ⟨ka, na2, va2, oa, spa, ma, capa, rfl⟩ := hMa.five
      have q0 := hrg2 0 _ rfl
      have q1 := hrg2 1 _ rfl
      have q2 := hrg2 2 _ rfl
      have q3 := hrg2 3 _ rfl
      have q4 := hrg2 4 _ rfl
      simp only [Nat.add_zero] at q0
      have hoka := hoa a (List.mem_of_getElem? ha)
      replace hg := hid hg
      by_cases hen : en = 0
      · subst hen
        have hcc := hid (dval_any hKe.n1 hKe.l1 8 wr _ a (by omega) hKe.run hKe.var hMa2 hoka)
        have hor2 : evs W V 8 t.nd.a = (evs W V 8 (t.nd.a.drop j)).map (X ++ ·) := by
          rcases hor.out with h | h
          · exact h.2
          · exact absurd h.1 (by omega)
        have hnx : Hid (∀ z, (∀ x, evX W V 8 a = some x → z = x) → (enO (evX W V 8 a) = 0 ∧ evs W V 8 t.nd.a = (evs W V 8 (t.nd.a.drop (j + 1))).map ((X ++ [z]) ++ ·)) ∨ (enO (evX W V 8 a) = 2 ∧ evs W V 8 t.nd.a = none)) := hid fun z hz => by
          cases hx : evX W V 8 a with
          | none => exact .inr ⟨rfl, by rw [hor2, hfd, hx]; rfl⟩
          | some x => exact .inl ⟨rfl, by rw [hor2, hfd, hx, hz x hx]; show Option.map _ (Option.map _ _) = _; cases evs W V 8 (t.nd.a.drop (j + 1)) <;> simp⟩
        have hkd : Hid (∀ w1, DunI gr gw n p0 p1 kv W fu ((fu : Int) - k) (enO (evX W V 8 a)) 0 w1 → Ch (fun k => k = gr) wr w1 → KD R N gr gw n p0 p1 kv fu gv nv ⟨W, V, k⟩ (enO (evX W V 8 a)) 0 w1) := hid fun w1 h1 h2 => hKe.gr' hR (by omega) h2 hKe.le h1
        clear hor hor2 hfd hRg hrg hrg2 hMa hMa2 hoka ha hKe hSa0
        generalize evX W V 8 a = ra at *
        go_wp2_with (first
          | (go_at_call 49; go_must (refine hcc.out.mono ?_; rintro e w1 ⟨z, rfl, hz, hzx, hD1, hc1⟩; have hs1 := hc1.size; have ho2 := ownCh ho hc1 (fun k hk => by omega); have cx := (Arr.new w1 30 #[.int .u64 z]).cell 0; have ho3 := ownBl ho2 (ab w1 (.cells #[.int .u64 z] 30))))
          | (at_builtin; go_must (refine ap64 (by rfl) (.tmp 53) (.tmp 62) (by rfl) U.heap.size _ j X (by rfl) ho3 w1.heap.size z (by rfl) cx (by omega) (by simp; omega) ?_; intro v1 w2 ho4 hg4)))
        go_roundw
        case rel =>
          have hbB : Below U.heap.size w1 w2 := ((Below.refl _ w1).alloc (by omega) _).grown hg4 (by simp; omega) (fun k e => ownGe ho3 k e)
          exact ⟨j + 1, X ++ [z], enO ra, by go_num, by omega, by simp [hXl], ho4, (hkd.out w1 hD1 hc1).upto hR hgrU hgwU hgvU hNU hbB, (hcu.trans hc1).upto hbB, hid (hnx.out z hzx.out)⟩
        case measure => simp [intOf]; omega
      · have hor2 : en = 2 ∧ evs W V 8 t.nd.a = none := by
          rcases hor.out with h | h
          · exact absurd h.1 hen
          · exact h
        obtain ⟨rfl, hvn⟩ := hor2
        have hcc := hid (expr_off (k := ka) (nn := na2) (v := va2) (o := oa) (sv := .slice spa ma capa) (va2 := .slice (some ⟨gv, 0, none⟩) nv nv) wr hKe.run (by omega))
        have hkd : Hid (∀ w1, Below wr.heap.size wr w1 → KD R N gr gw n p0 p1 kv fu gv nv ⟨W, V, k⟩ 2 0 w1) := hid fun w1 h1 => hKe.bl hR (by omega) h1
        replace hvn := hid hvn
        clear hor hen hfd hRg hrg hrg2 hMa hMa2 hoka ha hKe hSa0
        go_wp2_with (first
          | (go_at_call 49; go_must (refine hcc.out.mono ?_; rintro e w1 ⟨rfl, hb1⟩; have hs1 := hb1.size; have ho2 := ownBl ho hb1; have cx := (Arr.new w1 30 #[.int .u64 0]).cell 0; have ho3 := ownBl ho2 (ab w1 (.cells #[.int .u64 0] 30))))
          | (at_builtin; go_must (refine ap64 (by rfl) (.tmp 53) (.tmp 62) (by rfl) U.heap.size _ j X (by rfl) ho3 w1.heap.size 0 (by rfl) cx (by omega) (by simp; omega) ?_; intro v1 w2 ho4 hg4)))
        go_roundw
        case rel =>
          have hbB : Below U.heap.size w1 w2 := ((Below.refl _ w1).alloc (by omega) _).grown hg4 (by simp; omega) (fun k e => ownGe ho3 k e)
          exact ⟨j + 1, X ++ [0], 2, by go_num, by omega, by simp [hXl], ho4, (hkd.out w1 hb1).upto hR hgrU hgwU hgvU hNU hbB, (hcu.trans (Ch.ob hb1)).upto hbB, hid (.inr ⟨rfl, hvn.out⟩)⟩
        case measure => simp [intOf]; omega
    · obtain rfl : j = na := by omega
      obtain ⟨rfl, rfl⟩ : en = 0 ∧ X = [q, x] := by
        rcases hor.out with h | h
        · have h2 := h.2
          rw [hev.out, List.drop_eq_nil_of_le (by rw [← hlen.out]; exact Nat.le_refl _)] at h2
          replace h2 : some [q, x] = some (X ++ []) := h2
          simp at h2
          exact ⟨h.1, h2.symm⟩
        · have h2 := h.2; rw [hev.out] at h2; cases h2
      have c6 := hKe.run.ar.cell 6
      have A' := hcu.arr A hwg.1
      have k0 := A'.cell 0
      have hcP : Ch (PD gr gw gv) w wr := hcw0.trans (hcu.imp fun k hk => .inl hk)
      have hNw : N ≤ wr.heap.size := by omega
      have e1 : (t.nd.k == 1) = false := by have := hkk.out; simp; omega
      have e2 : (t.nd.k == 2) = true := by have := hkk.out; simp; omega
      have hna1 : j = 2 := by simpa using hXl.symm
      subst hna1
      obtain ⟨g, c, rfl, hgU, hgl, hcl⟩ := own_pos ho (by omega)
      have x0 := hcl 0 _ rfl
      have hhs := dhas_any (x := q) (y := 1) (c := 1) wr hKe.run hqU rfl (by omega)
      rw [decide_eq_false (show ¬ (1 = 0 ∨ q + (1 : Nat) ≤ n) by omega)] at hhs
      have htr := trap_any wr hKe.run
      have hfin : Hid (∀ w1, DunI gr gw n p0 p1 kv W fu ((fu : Int) - k) 2 0 w1 → Ch (fun k => k = gr) wr w1 → KQ R N gr gw n p0 p1 kv fu gv nv ⟨2, 0, ⟨W, V, k⟩⟩ w (.returned (.tuple #[])) w1) := hid fun w1 h1 h2 => ⟨rfl, hKe.gr' hR hNw h2 hKe.le h1, hcP.trans (h2.imp fun k hk => .inl hk)⟩
      clear hor hKe hcl ho hSa0 hSb0 hSc0
      go_wp2_with (first
        | (go_at_call 50; go_must (refine hhs.mono ?_; rintro e w2 ⟨rfl, h⟩; replace h := h.symm; subst h))
        | (go_at_call 51; go_must (refine htr.mono ?_; rintro e w3 ⟨rfl, hD3, hc3⟩)))
      go_end0
      exact hfin.out w3 hD3 hc3
set_option maxHeartbeats 4000000 in
theorem dst_ret {x : Int} (hR : RB R N) (w : World) (hN : N ≤ w.heap.size) (hK : KD R N gr gw n p0 p1 kv fu gv nv ⟨W, V, k⟩ 0 0 w) (hM : StM N w (d + 1) cs t) (hok : okS ps nv (d + 1) t) (hps : ∀ p ∈ ps, p ≤ 64) (hkk : t.nd.k = 5) (hev : evs W V 8 t.nd.a = some [x]) :
    Calls Try.prog 37 (stArgs gr gv nv cs) w (KQ R N gr gw n p0 p1 kv fu gv nv ⟨1, x, ⟨W, V, k⟩⟩ w) := by
  obtain ⟨hmy, hoa, hob, hoe⟩ := okS_s hok
  obtain ⟨sa, na, ca, sb, nb, cb, sc, nc, cc, hcs, hk0, hSa, hSb, hSc⟩ := hM
  subst hcs
  have hna : na ≤ 64 := by rw [hSa.len.out]; exact fewS hps hmy
  have b0 := ab w (.cells #[.int .u8 t.nd.k, .int .i64 t.nd.v, .int .i64 t.nd.f, .int .i64 t.nd.t, .slice sa na ca, .slice sb nb cb, .slice sc nc cc] 78)
  have hK0 := hK.bl hR hN b0
  have A := Arr.new w 78 #[.int .u8 t.nd.k, .int .i64 t.nd.v, .int .i64 t.nd.f, .int .i64 t.nd.t, .slice sa na ca, .slice sb nb cb, .slice sc nc cc]
  have hwg : w.heap.size ≠ gr ∧ w.heap.size ≠ gw ∧ w.heap.size ≠ gv := by have := hK.run.ar.lt; have := hK.run.aw.lt; have := hK.var.av.lt; omega
  have hgrU := hK0.run.ar.lt
  have hgwU := hK0.run.aw.lt
  have hgvU := hK0.var.av.lt
  have hlen := hSa.len
  have hSa0 := hSa.imp (b0.mono hN) (ExM.below (b0.mono hN) 8)
  have hSb0 := hSb.imp (b0.mono hN) (StM.below (b0.mono hN) d)
  have hSc0 := hSc.imp (b0.mono hN) (StM.below (b0.mono hN) d)
  have hcw0 : Ch (PD gr gw gv) w (w.alloc (.cells #[.int .u8 t.nd.k, .int .i64 t.nd.v, .int .i64 t.nd.f, .int .i64 t.nd.t, .slice sa na ca, .slice sb nb cb, .slice sc nc cc] 78)) := Ch.ob b0
  have hNU : N ≤ (w.alloc (.cells #[.int .u8 t.nd.k, .int .i64 t.nd.v, .int .i64 t.nd.f, .int .i64 t.nd.t, .slice sa na ca, .slice sb nb cb, .slice sc nc cc] 78)).heap.size := by simp; omega
  clear hSa hSb hSc hK b0
  unfold stArgs
  unfold stC
  have e4 : (t.nd.k == 4) = false := by simp; omega
  replace hkk := hid hkk
  replace hev := hid hev
  have k0 := A.cell 0
  go_enter Try.func37, Try.ntmps37
  go_upto_region 7 with fail
  generalize hUU : w.alloc (.cells #[.int .u8 t.nd.k, .int .i64 t.nd.v, .int .i64 t.nd.f, .int .i64 t.nd.t, .slice sa na ca, .slice sb nb cb, .slice sc nc cc] 78) = U at *
  clear hUU k0
  have o0 : U.ownsRow U.heap.size 30 1 (.slice none 0 0) 0 (uL []) := World.ownsRow_nil _ _ _ _
  go_loopw [6, 7] (fun v i wr => ∃ (j : Nat) (X : List Int) (en : Int), i = .int .i64 (j : Int) ∧ j ≤ na ∧ X.length = j ∧ wr.ownsRow U.heap.size 30 1 v j (uL X) ∧ KD R N gr gw n p0 p1 kv fu gv nv ⟨W, V, k⟩ en 0 wr ∧ Ch (fun k => k = gr) U wr ∧ Hid ((en = 0 ∧ evs W V 8 t.nd.a = (evs W V 8 (t.nd.a.drop j)).map (X ++ ·)) ∨ (en = 2 ∧ evs W V 8 t.nd.a = none))) (fun _ i _ => na - (intOf i).toNat)
  case atStart => exact ⟨0, [], 0, rfl, by omega, rfl, o0, hK0, Ch.refl _ _, hid (.inl ⟨rfl, by rw [List.drop_zero]; cases evs W V 8 t.nd.a <;> rfl⟩)⟩
  case round =>
    clear o0
    obtain ⟨j, X, en, rfl, hj, hXl, ho, hKe, hcu, hor⟩ := hrel
    have k4 := (hcu.arr A hwg.1).cell 4
    have hcs := hcu.size
    have hlow : Below N U wr := hcu.bl fun i hi => ⟨by omega, by have := hKe.l1; omega⟩
    by_cases hlt : j < na
    · have hlt' : (j : Int) < na := by omega
      obtain ⟨a, ha⟩ : ∃ a, t.nd.a[j]? = some a := ⟨t.nd.a[j]'(by rw [← hlen.out]; exact hlt), List.getElem?_eq_getElem _⟩
      have hfd := evs_drop (W := W) (V := V) ha
      obtain ⟨g, off, rfl, hg, hRg⟩ := hSa0.at0 (by omega)
      obtain ⟨cs, hrg, hMa⟩ := hRg j a ha
      have hrg2 := rb hrg hlow hg
      have hMa2 := ExM.below hlow 8 cs a hMa
      obtain ⟨ka, na2, va2, oa, spa, ma, capa, rfl⟩ := hMa.five
      have q0 := hrg2 0 _ rfl
      have q1 := hrg2 1 _ rfl
      have q2 := hrg2 2 _ rfl
      have q3 := hrg2 3 _ rfl
      have q4 := hrg2 4 _ rfl
      simp only [Nat.add_zero] at q0
      have hoka := hoa a (List.mem_of_getElem? ha)
      replace hg := hid hg
      by_cases hen : en = 0
      · subst hen
        have hcc := hid (dval_any hKe.n1 hKe.l1 8 wr _ a (by omega) hKe.run hKe.var hMa2 hoka)
        have hor2 : evs W V 8 t.nd.a = (evs W V 8 (t.nd.a.drop j)).map (X ++ ·) := by
          rcases hor.out with h | h
          · exact h.2
          · exact absurd h.1 (by omega)
        have hnx : Hid (∀ z, (∀ x, evX W V 8 a = some x → z = x) → (enO (evX W V 8 a) = 0 ∧ evs W V 8 t.nd.a = (evs W V 8 (t.nd.a.drop (j + 1))).map ((X ++ [z]) ++ ·)) ∨ (enO (evX W V 8 a) = 2 ∧ evs W V 8 t.nd.a = none)) := hid fun z hz => by
          cases hx : evX W V 8 a with
          | none => exact .inr ⟨rfl, by rw [hor2, hfd, hx]; rfl⟩
          | some x => exact .inl ⟨rfl, by rw [hor2, hfd, hx, hz x hx]; show Option.map _ (Option.map _ _) = _; cases evs W V 8 (t.nd.a.drop (j + 1)) <;> simp⟩
        have hkd : Hid (∀ w1, DunI gr gw n p0 p1 kv W fu ((fu : Int) - k) (enO (evX W V 8 a)) 0 w1 → Ch (fun k => k = gr) wr w1 → KD R N gr gw n p0 p1 kv fu gv nv ⟨W, V, k⟩ (enO (evX W V 8 a)) 0 w1) := hid fun w1 h1 h2 => hKe.gr' hR (by omega) h2 hKe.le h1
        clear hor hor2 hfd hRg hrg hrg2 hMa hMa2 hoka ha hKe hSa0
        generalize evX W V 8 a = ra at *
        go_wp2_with (first
          | (go_at_call 49; go_must (refine hcc.out.mono ?_; rintro e w1 ⟨z, rfl, hz, hzx, hD1, hc1⟩; have hs1 := hc1.size; have ho2 := ownCh ho hc1 (fun k hk => by omega); have cx := (Arr.new w1 30 #[.int .u64 z]).cell 0; have ho3 := ownBl ho2 (ab w1 (.cells #[.int .u64 z] 30))))
          | (at_builtin; go_must (refine ap64 (by rfl) (.tmp 53) (.tmp 62) (by rfl) U.heap.size _ j X (by rfl) ho3 w1.heap.size z (by rfl) cx (by omega) (by simp; omega) ?_; intro v1 w2 ho4 hg4)))
        go_roundw
        case rel =>
          have hbB : Below U.heap.size w1 w2 := ((Below.refl _ w1).alloc (by omega) _).grown hg4 (by simp; omega) (fun k e => ownGe ho3 k e)
          exact ⟨j + 1, X ++ [z], enO ra, by go_num, by omega, by simp [hXl], ho4, (hkd.out w1 hD1 hc1).upto hR hgrU hgwU hgvU hNU hbB, (hcu.trans hc1).upto hbB, hid (hnx.out z hzx.out)⟩
        case measure => simp [intOf]; omega
      · have hor2 : en = 2 ∧ evs W V 8 t.nd.a = none := by
          rcases hor.out with h | h
          · exact absurd h.1 hen
          · exact h
        obtain ⟨rfl, hvn⟩ := hor2
        have hcc := hid (expr_off (k := ka) (nn := na2) (v := va2) (o := oa) (sv := .slice spa ma capa) (va2 := .slice (some ⟨gv, 0, none⟩) nv nv) wr hKe.run (by omega))
        have hkd : Hid (∀ w1, Below wr.heap.size wr w1 → KD R N gr gw n p0 p1 kv fu gv nv ⟨W, V, k⟩ 2 0 w1) := hid fun w1 h1 => hKe.bl hR (by omega) h1
        replace hvn := hid hvn
        clear hor hen hfd hRg hrg hrg2 hMa hMa2 hoka ha hKe hSa0
        go_wp2_with (first
          | (go_at_call 49; go_must (refine hcc.out.mono ?_; rintro e w1 ⟨rfl, hb1⟩; have hs1 := hb1.size; have ho2 := ownBl ho hb1; have cx := (Arr.new w1 30 #[.int .u64 0]).cell 0; have ho3 := ownBl ho2 (ab w1 (.cells #[.int .u64 0] 30))))
          | (at_builtin; go_must (refine ap64 (by rfl) (.tmp 53) (.tmp 62) (by rfl) U.heap.size _ j X (by rfl) ho3 w1.heap.size 0 (by rfl) cx (by omega) (by simp; omega) ?_; intro v1 w2 ho4 hg4)))
        go_roundw
        case rel =>
          have hbB : Below U.heap.size w1 w2 := ((Below.refl _ w1).alloc (by omega) _).grown hg4 (by simp; omega) (fun k e => ownGe ho3 k e)
          exact ⟨j + 1, X ++ [0], 2, by go_num, by omega, by simp [hXl], ho4, (hkd.out w1 hb1).upto hR hgrU hgwU hgvU hNU hbB, (hcu.trans (Ch.ob hb1)).upto hbB, hid (.inr ⟨rfl, hvn.out⟩)⟩
        case measure => simp [intOf]; omega
    · obtain rfl : j = na := by omega
      obtain ⟨rfl, rfl⟩ : en = 0 ∧ X = [x] := by
        rcases hor.out with h | h
        · have h2 := h.2
          rw [hev.out, List.drop_eq_nil_of_le (by rw [← hlen.out]; exact Nat.le_refl _)] at h2
          replace h2 : some [x] = some (X ++ []) := h2
          simp at h2
          exact ⟨h.1, h2.symm⟩
        · have h2 := h.2; rw [hev.out] at h2; cases h2
      have c6 := hKe.run.ar.cell 6
      have A' := hcu.arr A hwg.1
      have k0 := A'.cell 0
      have hcP : Ch (PD gr gw gv) w wr := hcw0.trans (hcu.imp fun k hk => .inl hk)
      have hNw : N ≤ wr.heap.size := by omega
      have e1 : (t.nd.k == 1) = false := by have := hkk.out; simp; omega
      have e2 : (t.nd.k == 2) = false := by have := hkk.out; simp; omega
      have e3 : (t.nd.k == 3) = false := by have := hkk.out; simp; omega
      have e5 : (t.nd.k == 5) = true := by have := hkk.out; simp; omega
      have hna1 : j = 1 := by simpa using hXl.symm
      subst hna1
      obtain ⟨g, c, rfl, hgU, hgl, hcl⟩ := own_pos ho (by omega)
      have x0 := hcl 0 _ rfl
      have d7 := hKe.run.ar.cell 7
      have f7 := hKe.run.ar.frozen 7
      have H7 := hKe.run.va' x
      have d6 := H7.ar.cell 6
      have f6 := H7.ar.frozen 6
      have H6 := H7.en' 1
      have hc7 := ((Ch.refl (fun k => k = gr) wr).st (g := gr) (j := 7) (.int .u64 x) (fun _ => rfl)).st (g := gr) (j := 6) (.int .i64 1) (fun _ => rfl)
      have hfin : Hid (KQ R N gr gw n p0 p1 kv fu gv nv ⟨1, x, ⟨W, V, k⟩⟩ w (.returned (.tuple #[])) ((wr.setCell ⟨gr, 7, none⟩ (.int .u64 x)).setCell ⟨gr, 6, none⟩ (.int .i64 1))) := hid ⟨rfl, hKe.gr' hR hNw hc7 hKe.le H6, hcP.trans (hc7.imp fun k hk => .inl hk)⟩
      clear H6 H7 hc7
      clear hor hKe hcl ho hSa0 hSb0 hSc0
      go_wp2_with fail
      go_end0
      exact hfin.out
set_option maxHeartbeats 4000000 in
theorem dst_else {x : Int} {B : RR} (hR : RB R N) (w : World) (hN : N ≤ w.heap.size) (hK : KD R N gr gw n p0 p1 kv fu gv nv ⟨W, V, k⟩ 0 0 w) (hM : StM N w (d + 1) cs t) (hok : okS ps nv (d + 1) t) (hps : ∀ p ∈ ps, p ≤ 64) (hkk : t.nd.k = 3) (hev : evs W V 8 t.nd.a = some [x]) (hx0 : x = 0) (hB : ∀ (u : World) (sp : Option Addr) (m cap : Nat), N ≤ u.heap.size → KD R N gr gw n p0 p1 kv fu gv nv ⟨W, V, k⟩ 0 0 u → RS N u 7 (StM N u d) sp m cap (if x = 0 then t.nd.el else t.nd.th) → Calls Try.prog 28 #[.pointer (some ⟨gr, 0, none⟩), .slice sp m cap, .slice (some ⟨gv, 0, none⟩) nv nv] u (KQ R N gr gw n p0 p1 kv fu gv nv B u)) :
    Calls Try.prog 37 (stArgs gr gv nv cs) w (KQ R N gr gw n p0 p1 kv fu gv nv B w) := by
  obtain ⟨hmy, hoa, hob, hoe⟩ := okS_s hok
  obtain ⟨sa, na, ca, sb, nb, cb, sc, nc, cc, hcs, hk0, hSa, hSb, hSc⟩ := hM
  subst hcs
  have hna : na ≤ 64 := by rw [hSa.len.out]; exact fewS hps hmy
  have b0 := ab w (.cells #[.int .u8 t.nd.k, .int .i64 t.nd.v, .int .i64 t.nd.f, .int .i64 t.nd.t, .slice sa na ca, .slice sb nb cb, .slice sc nc cc] 78)
  have hK0 := hK.bl hR hN b0
  have A := Arr.new w 78 #[.int .u8 t.nd.k, .int .i64 t.nd.v, .int .i64 t.nd.f, .int .i64 t.nd.t, .slice sa na ca, .slice sb nb cb, .slice sc nc cc]
  have hwg : w.heap.size ≠ gr ∧ w.heap.size ≠ gw ∧ w.heap.size ≠ gv := by have := hK.run.ar.lt; have := hK.run.aw.lt; have := hK.var.av.lt; omega
  have hgrU := hK0.run.ar.lt
  have hgwU := hK0.run.aw.lt
  have hgvU := hK0.var.av.lt
  have hlen := hSa.len
  have hSa0 := hSa.imp (b0.mono hN) (ExM.below (b0.mono hN) 8)
  have hSb0 := hSb.imp (b0.mono hN) (StM.below (b0.mono hN) d)
  have hSc0 := hSc.imp (b0.mono hN) (StM.below (b0.mono hN) d)
  have hcw0 : Ch (PD gr gw gv) w (w.alloc (.cells #[.int .u8 t.nd.k, .int .i64 t.nd.v, .int .i64 t.nd.f, .int .i64 t.nd.t, .slice sa na ca, .slice sb nb cb, .slice sc nc cc] 78)) := Ch.ob b0
  have hNU : N ≤ (w.alloc (.cells #[.int .u8 t.nd.k, .int .i64 t.nd.v, .int .i64 t.nd.f, .int .i64 t.nd.t, .slice sa na ca, .slice sb nb cb, .slice sc nc cc] 78)).heap.size := by simp; omega
  clear hSa hSb hSc hK b0
  unfold stArgs
  unfold stC
  have e4 : (t.nd.k == 4) = false := by simp; omega
  replace hkk := hid hkk
  replace hB := hid hB
  replace hx0 := hid hx0
  replace hev := hid hev
  have k0 := A.cell 0
  go_enter Try.func37, Try.ntmps37
  go_upto_region 7 with fail
  generalize hUU : w.alloc (.cells #[.int .u8 t.nd.k, .int .i64 t.nd.v, .int .i64 t.nd.f, .int .i64 t.nd.t, .slice sa na ca, .slice sb nb cb, .slice sc nc cc] 78) = U at *
  clear hUU k0
  have o0 : U.ownsRow U.heap.size 30 1 (.slice none 0 0) 0 (uL []) := World.ownsRow_nil _ _ _ _
  go_loopw [6, 7] (fun v i wr => ∃ (j : Nat) (X : List Int) (en : Int), i = .int .i64 (j : Int) ∧ j ≤ na ∧ X.length = j ∧ wr.ownsRow U.heap.size 30 1 v j (uL X) ∧ KD R N gr gw n p0 p1 kv fu gv nv ⟨W, V, k⟩ en 0 wr ∧ Ch (fun k => k = gr) U wr ∧ Hid ((en = 0 ∧ evs W V 8 t.nd.a = (evs W V 8 (t.nd.a.drop j)).map (X ++ ·)) ∨ (en = 2 ∧ evs W V 8 t.nd.a = none))) (fun _ i _ => na - (intOf i).toNat)
  case atStart => exact ⟨0, [], 0, rfl, by omega, rfl, o0, hK0, Ch.refl _ _, hid (.inl ⟨rfl, by rw [List.drop_zero]; cases evs W V 8 t.nd.a <;> rfl⟩)⟩
  case round =>
    clear o0
    obtain ⟨j, X, en, rfl, hj, hXl, ho, hKe, hcu, hor⟩ := hrel
    have k4 := (hcu.arr A hwg.1).cell 4
    have hcs := hcu.size
    have hlow : Below N U wr := hcu.bl fun i hi => ⟨by omega, by have := hKe.l1; omega⟩
    by_cases hlt : j < na
    · have hlt' : (j : Int) < na := by omega
      obtain ⟨a, ha⟩ : ∃ a, t.nd.a[j]? = some a := ⟨t.nd.a[j]'(by rw [← hlen.out]; exact hlt), List.getElem?_eq_getElem _⟩
      have hfd := evs_drop (W := W) (V := V) ha
      obtain ⟨g, off, rfl, hg, hRg⟩ := hSa0.at0 (by omega)
      obtain ⟨cs, hrg, hMa⟩ := hRg j a ha
      have hrg2 := rb hrg hlow hg
      have hMa2 := ExM.below hlow 8 cs a hMa
      obtain ⟨ka, na2, va2, oa, spa, ma, capa, rfl⟩ := hMa.five
      have q0 := hrg2 0 _ rfl
      have q1 := hrg2 1 _ rfl
      have q2 := hrg2 2 _ rfl
      have q3 := hrg2 3 _ rfl
      have q4 := hrg2 4 _ rfl
      simp only [Nat.add_zero] at q0
      have hoka := hoa a (List.mem_of_getElem? ha)
      replace hg := hid hg
      by_cases hen : en = 0
      · subst hen
        have hcc := hid (dval_any hKe.n1 hKe.l1 8 wr _ a (by omega) hKe.run hKe.var hMa2 hoka)
        have hor2 : evs W V 8 t.nd.a = (evs W V 8 (t.nd.a.drop j)).map (X ++ ·) := by
          rcases hor.out with h | h
          · exact h.2
          · exact absurd h.1 (by omega)
        have hnx : Hid (∀ z, (∀ x, evX W V 8 a = some x → z = x) → (enO (evX W V 8 a) = 0 ∧ evs W V 8 t.nd.a = (evs W V 8 (t.nd.a.drop (j + 1))).map ((X ++ [z]) ++ ·)) ∨ (enO (evX W V 8 a) = 2 ∧ evs W V 8 t.nd.a = none)) := hid fun z hz => by
          cases hx : evX W V 8 a with
          | none => exact .inr ⟨rfl, by rw [hor2, hfd, hx]; rfl⟩
          | some x => exact .inl ⟨rfl, by rw [hor2, hfd, hx, hz x hx]; show Option.map _ (Option.map _ _) = _; cases evs W V 8 (t.nd.a.drop (j + 1)) <;> simp⟩
        have hkd : Hid (∀ w1, DunI gr gw n p0 p1 kv W fu ((fu : Int) - k) (enO (evX W V 8 a)) 0 w1 → Ch (fun k => k = gr) wr w1 → KD R N gr gw n p0 p1 kv fu gv nv ⟨W, V, k⟩ (enO (evX W V 8 a)) 0 w1) := hid fun w1 h1 h2 => hKe.gr' hR (by omega) h2 hKe.le h1
        clear hor hor2 hfd hRg hrg hrg2 hMa hMa2 hoka ha hKe hSa0
        generalize evX W V 8 a = ra at *
        go_wp2_with (first
          | (go_at_call 49; go_must (refine hcc.out.mono ?_; rintro e w1 ⟨z, rfl, hz, hzx, hD1, hc1⟩; have hs1 := hc1.size; have ho2 := ownCh ho hc1 (fun k hk => by omega); have cx := (Arr.new w1 30 #[.int .u64 z]).cell 0; have ho3 := ownBl ho2 (ab w1 (.cells #[.int .u64 z] 30))))
          | (at_builtin; go_must (refine ap64 (by rfl) (.tmp 53) (.tmp 62) (by rfl) U.heap.size _ j X (by rfl) ho3 w1.heap.size z (by rfl) cx (by omega) (by simp; omega) ?_; intro v1 w2 ho4 hg4)))
        go_roundw
        case rel =>
          have hbB : Below U.heap.size w1 w2 := ((Below.refl _ w1).alloc (by omega) _).grown hg4 (by simp; omega) (fun k e => ownGe ho3 k e)
          exact ⟨j + 1, X ++ [z], enO ra, by go_num, by omega, by simp [hXl], ho4, (hkd.out w1 hD1 hc1).upto hR hgrU hgwU hgvU hNU hbB, (hcu.trans hc1).upto hbB, hid (hnx.out z hzx.out)⟩
        case measure => simp [intOf]; omega
      · have hor2 : en = 2 ∧ evs W V 8 t.nd.a = none := by
          rcases hor.out with h | h
          · exact absurd h.1 hen
          · exact h
        obtain ⟨rfl, hvn⟩ := hor2
        have hcc := hid (expr_off (k := ka) (nn := na2) (v := va2) (o := oa) (sv := .slice spa ma capa) (va2 := .slice (some ⟨gv, 0, none⟩) nv nv) wr hKe.run (by omega))
        have hkd : Hid (∀ w1, Below wr.heap.size wr w1 → KD R N gr gw n p0 p1 kv fu gv nv ⟨W, V, k⟩ 2 0 w1) := hid fun w1 h1 => hKe.bl hR (by omega) h1
        replace hvn := hid hvn
        clear hor hen hfd hRg hrg hrg2 hMa hMa2 hoka ha hKe hSa0
        go_wp2_with (first
          | (go_at_call 49; go_must (refine hcc.out.mono ?_; rintro e w1 ⟨rfl, hb1⟩; have hs1 := hb1.size; have ho2 := ownBl ho hb1; have cx := (Arr.new w1 30 #[.int .u64 0]).cell 0; have ho3 := ownBl ho2 (ab w1 (.cells #[.int .u64 0] 30))))
          | (at_builtin; go_must (refine ap64 (by rfl) (.tmp 53) (.tmp 62) (by rfl) U.heap.size _ j X (by rfl) ho3 w1.heap.size 0 (by rfl) cx (by omega) (by simp; omega) ?_; intro v1 w2 ho4 hg4)))
        go_roundw
        case rel =>
          have hbB : Below U.heap.size w1 w2 := ((Below.refl _ w1).alloc (by omega) _).grown hg4 (by simp; omega) (fun k e => ownGe ho3 k e)
          exact ⟨j + 1, X ++ [0], 2, by go_num, by omega, by simp [hXl], ho4, (hkd.out w1 hb1).upto hR hgrU hgwU hgvU hNU hbB, (hcu.trans (Ch.ob hb1)).upto hbB, hid (.inr ⟨rfl, hvn.out⟩)⟩
        case measure => simp [intOf]; omega
    · obtain rfl : j = na := by omega
      obtain ⟨rfl, rfl⟩ : en = 0 ∧ X = [x] := by
        rcases hor.out with h | h
        · have h2 := h.2
          rw [hev.out, List.drop_eq_nil_of_le (by rw [← hlen.out]; exact Nat.le_refl _)] at h2
          replace h2 : some [x] = some (X ++ []) := h2
          simp at h2
          exact ⟨h.1, h2.symm⟩
        · have h2 := h.2; rw [hev.out] at h2; cases h2
      have c6 := hKe.run.ar.cell 6
      have A' := hcu.arr A hwg.1
      have k0 := A'.cell 0
      have hcP : Ch (PD gr gw gv) w wr := hcw0.trans (hcu.imp fun k hk => .inl hk)
      have hNw : N ≤ wr.heap.size := by omega
      have e1 : (t.nd.k == 1) = false := by have := hkk.out; simp; omega
      have e2 : (t.nd.k == 2) = false := by have := hkk.out; simp; omega
      have e3 : (t.nd.k == 3) = true := by have := hkk.out; simp; omega
      have hna1 : j = 1 := by simpa using hXl.symm
      subst hna1
      obtain ⟨g, c, rfl, hgU, hgl, hcl⟩ := own_pos ho (by omega)
      have x0 := hcl 0 _ rfl
      have kk := A'.cell 6
      have hcc := hid (hB.out wr _ _ _ hNw hKe (by rw [if_pos hx0.out]; exact hSc0.imp hlow (StM.below hlow d)))
      have ex : (x != 0) = false := by simpa using hx0.out
      clear hx0 hB
      clear hor hKe hcl ho hSa0 hSb0 hSc0
      go_wp2_with (go_at_call 28; go_must (refine hcc.out.mono ?_; rintro e w2 ⟨rfl, hK2, hc2⟩))
      go_end0
      exact ⟨rfl, hK2, hcP.trans hc2⟩
set_option maxHeartbeats 4000000 in
theorem dst_then {x : Int} {B : RR} (hR : RB R N) (w : World) (hN : N ≤ w.heap.size) (hK : KD R N gr gw n p0 p1 kv fu gv nv ⟨W, V, k⟩ 0 0 w) (hM : StM N w (d + 1) cs t) (hok : okS ps nv (d + 1) t) (hps : ∀ p ∈ ps, p ≤ 64) (hkk : t.nd.k = 3) (hev : evs W V 8 t.nd.a = some [x]) (hx0 : ¬ x = 0) (hB : ∀ (u : World) (sp : Option Addr) (m cap : Nat), N ≤ u.heap.size → KD R N gr gw n p0 p1 kv fu gv nv ⟨W, V, k⟩ 0 0 u → RS N u 7 (StM N u d) sp m cap (if x = 0 then t.nd.el else t.nd.th) → Calls Try.prog 28 #[.pointer (some ⟨gr, 0, none⟩), .slice sp m cap, .slice (some ⟨gv, 0, none⟩) nv nv] u (KQ R N gr gw n p0 p1 kv fu gv nv B u)) :
    Calls Try.prog 37 (stArgs gr gv nv cs) w (KQ R N gr gw n p0 p1 kv fu gv nv B w) := by
  obtain ⟨hmy, hoa, hob, hoe⟩ := okS_s hok
  obtain ⟨sa, na, ca, sb, nb, cb, sc, nc, cc, hcs, hk0, hSa, hSb, hSc⟩ := hM
  subst hcs
  have hna : na ≤ 64 := by rw [hSa.len.out]; exact fewS hps hmy
  have b0 := ab w (.cells #[.int .u8 t.nd.k, .int .i64 t.nd.v, .int .i64 t.nd.f, .int .i64 t.nd.t, .slice sa na ca, .slice sb nb cb, .slice sc nc cc] 78)
  have hK0 := hK.bl hR hN b0
  have A := Arr.new w 78 #[.int .u8 t.nd.k, .int .i64 t.nd.v, .int .i64 t.nd.f, .int .i64 t.nd.t, .slice sa na ca, .slice sb nb cb, .slice sc nc cc]
  have hwg : w.heap.size ≠ gr ∧ w.heap.size ≠ gw ∧ w.heap.size ≠ gv := by have := hK.run.ar.lt; have := hK.run.aw.lt; have := hK.var.av.lt; omega
  have hgrU := hK0.run.ar.lt
  have hgwU := hK0.run.aw.lt
  have hgvU := hK0.var.av.lt
  have hlen := hSa.len
  have hSa0 := hSa.imp (b0.mono hN) (ExM.below (b0.mono hN) 8)
  have hSb0 := hSb.imp (b0.mono hN) (StM.below (b0.mono hN) d)
  have hSc0 := hSc.imp (b0.mono hN) (StM.below (b0.mono hN) d)
  have hcw0 : Ch (PD gr gw gv) w (w.alloc (.cells #[.int .u8 t.nd.k, .int .i64 t.nd.v, .int .i64 t.nd.f, .int .i64 t.nd.t, .slice sa na ca, .slice sb nb cb, .slice sc nc cc] 78)) := Ch.ob b0
  have hNU : N ≤ (w.alloc (.cells #[.int .u8 t.nd.k, .int .i64 t.nd.v, .int .i64 t.nd.f, .int .i64 t.nd.t, .slice sa na ca, .slice sb nb cb, .slice sc nc cc] 78)).heap.size := by simp; omega
  clear hSa hSb hSc hK b0
  unfold stArgs
  unfold stC
  have e4 : (t.nd.k == 4) = false := by simp; omega
  replace hkk := hid hkk
  replace hB := hid hB
  replace hx0 := hid hx0
  replace hev := hid hev
  have k0 := A.cell 0
  go_enter Try.func37, Try.ntmps37
  go_upto_region 7 with fail
  generalize hUU : w.alloc (.cells #[.int .u8 t.nd.k, .int .i64 t.nd.v, .int .i64 t.nd.f, .int .i64 t.nd.t, .slice sa na ca, .slice sb nb cb, .slice sc nc cc] 78) = U at *
  clear hUU k0
  have o0 : U.ownsRow U.heap.size 30 1 (.slice none 0 0) 0 (uL []) := World.ownsRow_nil _ _ _ _
  go_loopw [6, 7] (fun v i wr => ∃ (j : Nat) (X : List Int) (en : Int), i = .int .i64 (j : Int) ∧ j ≤ na ∧ X.length = j ∧ wr.ownsRow U.heap.size 30 1 v j (uL X) ∧ KD R N gr gw n p0 p1 kv fu gv nv ⟨W, V, k⟩ en 0 wr ∧ Ch (fun k => k = gr) U wr ∧ Hid ((en = 0 ∧ evs W V 8 t.nd.a = (evs W V 8 (t.nd.a.drop j)).map (X ++ ·)) ∨ (en = 2 ∧ evs W V 8 t.nd.a = none))) (fun _ i _ => na - (intOf i).toNat)
  case atStart => exact ⟨0, [], 0, rfl, by omega, rfl, o0, hK0, Ch.refl _ _, hid (.inl ⟨rfl, by rw [List.drop_zero]; cases evs W V 8 t.nd.a <;> rfl⟩)⟩
  case round =>
    clear o0
    obtain ⟨j, X, en, rfl, hj, hXl, ho, hKe, hcu, hor⟩ := hrel
    have k4 := (hcu.arr A hwg.1).cell 4
    have hcs := hcu.size
    have hlow : Below N U wr := hcu.bl fun i hi => ⟨by omega, by have := hKe.l1; omega⟩
    by_cases hlt : j < na
    · have hlt' : (j : Int) < na := by omega
      obtain ⟨a, ha⟩ : ∃ a, t.nd.a[j]? = some a := ⟨t.nd.a[j]'(by rw [← hlen.out]; exact hlt), List.getElem?_eq_getElem _⟩
      have hfd := evs_drop (W := W) (V := V) ha
      obtain ⟨g, off, rfl, hg, hRg⟩ := hSa0.at0 (by omega)
      obtain ⟨cs, hrg, hMa⟩ := hRg j a ha
      have hrg2 := rb hrg hlow hg
      have hMa2 := ExM.below hlow 8 cs a hMa
      obtain ⟨ka, na2, va2, oa, spa, ma, capa, rfl⟩ := hMa.five
      have q0 := hrg2 0 _ rfl
      have q1 := hrg2 1 _ rfl
      have q2 := hrg2 2 _ rfl
      have q3 := hrg2 3 _ rfl
      have q4 := hrg2 4 _ rfl
      simp only [Nat.add_zero] at q0
      have hoka := hoa a (List.mem_of_getElem? ha)
      replace hg := hid hg
      by_cases hen : en = 0
      · subst hen
        have hcc := hid (dval_any hKe.n1 hKe.l1 8 wr _ a (by omega) hKe.run hKe.var hMa2 hoka)
        have hor2 : evs W V 8 t.nd.a = (evs W V 8 (t.nd.a.drop j)).map (X ++ ·) := by
          rcases hor.out with h | h
          · exact h.2
          · exact absurd h.1 (by omega)
        have hnx : Hid (∀ z, (∀ x, evX W V 8 a = some x → z = x) → (enO (evX W V 8 a) = 0 ∧ evs W V 8 t.nd.a = (evs W V 8 (t.nd.a.drop (j + 1))).map ((X ++ [z]) ++ ·)) ∨ (enO (evX W V 8 a) = 2 ∧ evs W V 8 t.nd.a = none)) := hid fun z hz => by
          cases hx : evX W V 8 a with
          | none => exact .inr ⟨rfl, by rw [hor2, hfd, hx]; rfl⟩
          | some x => exact .inl ⟨rfl, by rw [hor2, hfd, hx, hz x hx]; show Option.map _ (Option.map _ _) = _; cases evs W V 8 (t.nd.a.drop (j + 1)) <;> simp⟩
        have hkd : Hid (∀ w1, DunI gr gw n p0 p1 kv W fu ((fu : Int) - k) (enO (evX W V 8 a)) 0 w1 → Ch (fun k => k = gr) wr w1 → KD R N gr gw n p0 p1 kv fu gv nv ⟨W, V, k⟩ (enO (evX W V 8 a)) 0 w1) := hid fun w1 h1 h2 => hKe.gr' hR (by omega) h2 hKe.le h1
        clear hor hor2 hfd hRg hrg hrg2 hMa hMa2 hoka ha hKe hSa0
        generalize evX W V 8 a = ra at *
        go_wp2_with (first
          | (go_at_call 49; go_must (refine hcc.out.mono ?_; rintro e w1 ⟨z, rfl, hz, hzx, hD1, hc1⟩; have hs1 := hc1.size; have ho2 := ownCh ho hc1 (fun k hk => by omega); have cx := (Arr.new w1 30 #[.int .u64 z]).cell 0; have ho3 := ownBl ho2 (ab w1 (.cells #[.int .u64 z] 30))))
          | (at_builtin; go_must (refine ap64 (by rfl) (.tmp 53) (.tmp 62) (by rfl) U.heap.size _ j X (by rfl) ho3 w1.heap.size z (by rfl) cx (by omega) (by simp; omega) ?_; intro v1 w2 ho4 hg4)))
        go_roundw
        case rel =>
          have hbB : Below U.heap.size w1 w2 := ((Below.refl _ w1).alloc (by omega) _).grown hg4 (by simp; omega) (fun k e => ownGe ho3 k e)
          exact ⟨j + 1, X ++ [z], enO ra, by go_num, by omega, by simp [hXl], ho4, (hkd.out w1 hD1 hc1).upto hR hgrU hgwU hgvU hNU hbB, (hcu.trans hc1).upto hbB, hid (hnx.out z hzx.out)⟩
        case measure => simp [intOf]; omega
      · have hor2 : en = 2 ∧ evs W V 8 t.nd.a = none := by
          rcases hor.out with h | h
          · exact absurd h.1 hen
          · exact h
        obtain ⟨rfl, hvn⟩ := hor2
        have hcc := hid (expr_off (k := ka) (nn := na2) (v := va2) (o := oa) (sv := .slice spa ma capa) (va2 := .slice (some ⟨gv, 0, none⟩) nv nv) wr hKe.run (by omega))
        have hkd : Hid (∀ w1, Below wr.heap.size wr w1 → KD R N gr gw n p0 p1 kv fu gv nv ⟨W, V, k⟩ 2 0 w1) := hid fun w1 h1 => hKe.bl hR (by omega) h1
        replace hvn := hid hvn
        clear hor hen hfd hRg hrg hrg2 hMa hMa2 hoka ha hKe hSa0
        go_wp2_with (first
          | (go_at_call 49; go_must (refine hcc.out.mono ?_; rintro e w1 ⟨rfl, hb1⟩; have hs1 := hb1.size; have ho2 := ownBl ho hb1; have cx := (Arr.new w1 30 #[.int .u64 0]).cell 0; have ho3 := ownBl ho2 (ab w1 (.cells #[.int .u64 0] 30))))
          | (at_builtin; go_must (refine ap64 (by rfl) (.tmp 53) (.tmp 62) (by rfl) U.heap.size _ j X (by rfl) ho3 w1.heap.size 0 (by rfl) cx (by omega) (by simp; omega) ?_; intro v1 w2 ho4 hg4)))
        go_roundw
        case rel =>
          have hbB : Below U.heap.size w1 w2 := ((Below.refl _ w1).alloc (by omega) _).grown hg4 (by simp; omega) (fun k e => ownGe ho3 k e)
          exact ⟨j + 1, X ++ [0], 2, by go_num, by omega, by simp [hXl], ho4, (hkd.out w1 hb1).upto hR hgrU hgwU hgvU hNU hbB, (hcu.trans (Ch.ob hb1)).upto hbB, hid (.inr ⟨rfl, hvn.out⟩)⟩
        case measure => simp [intOf]; omega
    · obtain rfl : j = na := by omega
      obtain ⟨rfl, rfl⟩ : en = 0 ∧ X = [x] := by
        rcases hor.out with h | h
        · have h2 := h.2
          rw [hev.out, List.drop_eq_nil_of_le (by rw [← hlen.out]; exact Nat.le_refl _)] at h2
          replace h2 : some [x] = some (X ++ []) := h2
          simp at h2
          exact ⟨h.1, h2.symm⟩
        · have h2 := h.2; rw [hev.out] at h2; cases h2
      have c6 := hKe.run.ar.cell 6
      have A' := hcu.arr A hwg.1
      have k0 := A'.cell 0
      have hcP : Ch (PD gr gw gv) w wr := hcw0.trans (hcu.imp fun k hk => .inl hk)
      have hNw : N ≤ wr.heap.size := by omega
      have e1 : (t.nd.k == 1) = false := by have := hkk.out; simp; omega
      have e2 : (t.nd.k == 2) = false := by have := hkk.out; simp; omega
      have e3 : (t.nd.k == 3) = true := by have := hkk.out; simp; omega
      have hna1 : j = 1 := by simpa using hXl.symm
      subst hna1
      obtain ⟨g, c, rfl, hgU, hgl, hcl⟩ := own_pos ho (by omega)
      have x0 := hcl 0 _ rfl
      have kk := A'.cell 5
      have hcc := hid (hB.out wr _ _ _ hNw hKe (by rw [if_neg hx0.out]; exact hSb0.imp hlow (StM.below hlow d)))
      have ex : (x != 0) = true := by simpa using hx0.out
      clear hx0 hB
      clear hor hKe hcl ho hSa0 hSb0 hSc0
      go_wp2_with (go_at_call 28; go_must (refine hcc.out.mono ?_; rintro e w2 ⟨rfl, hK2, hc2⟩))
      go_end0
      exact ⟨rfl, hK2, hcP.trans hc2⟩
end Go.Proofs.Ytmljihggooaboaa
