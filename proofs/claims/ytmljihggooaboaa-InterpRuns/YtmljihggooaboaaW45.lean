/- Pn, Po. -/
import Derived.Test.YtmljihggooaboaaW44
import Derived.Test.YtmljihggooaboaaW09
import Derived.Handy
import Derived.BigQuiet
import Derived.BigRegion
import Derived.Laws.MakeOwn
import Derived.Test.YtmljihggooaboaaW23
/- Layer interp: SWhile of the document's run. -/
namespace Go.Proofs.Ytmljihggooaboaa
open Go.RowKit
set_option maxRecDepth 100000
set_option linter.unusedVariables false
set_option linter.unusedSimpArgs false

/-- What fuel is left, by the world. -/
def lfD (gr fu : Nat) (w : World) : Nat := match w.cell? ⟨gr, 5, none⟩ with | some (.int .i64 st) => ((fu : Int) - st).toNat | _ => 0
theorem KD.lfD {R : World → Prop} {N gr gw n : Nat} {p0 p1 kv : Value} {fu gv nv : Nat} {s : SS} {en va : Int} {w : World} (h : KD R N gr gw n p0 p1 kv fu gv nv s en va w) : lfD gr fu w = s.lf := by
  have c : w.cell? ⟨gr, 5, none⟩ = some (.int .i64 ((fu : Int) - s.lf)) := h.run.ar.cell 5
  unfold Ytmljihggooaboaa.lfD
  rw [c]
  show ((fu : Int) - ((fu : Int) - s.lf)).toNat = s.lf
  omega
theorem evs_1 {W V : List Int} {d : Nat} {a : ExT d} : evs W V d [a] = (evX W V d a).map fun x => [x] := by
  unfold evs
  cases evX W V d a with
  | none => rfl
  | some x => rfl
variable {R : World → Prop} {N gr gw n : Nat} {p0 p1 kv : Value} {fu gv nv : Nat} {W V : List Int} {d k : Nat} {t : StT (d + 1)} {cs : List Value} {ps : List Int}
variable {E : Env}
set_option maxHeartbeats 4000000 in
theorem dst_while {G : Nat} (hR : RB R N) (w : World) (hN : N ≤ w.heap.size) (hK : KD R N gr gw n p0 p1 kv fu gv nv ⟨W, V, k⟩ 0 0 w) (hM : StM N w (d + 1) cs t) (hok : okS ps nv (d + 1) t) (hps : ∀ p ∈ ps, p ≤ 64) (hkk : t.nd.k = 4) (hG : k ≤ G) (hB : ∀ (G2 : Nat) (s : SS) (u : World) (sp : Option Addr) (m cap : Nat), G2 ≤ G → s.lf ≤ G2 → N ≤ u.heap.size → KD R N gr gw n p0 p1 kv fu gv nv s 0 0 u → RS N u 7 (StM N u d) sp m cap t.nd.th → Calls Try.prog 28 #[.pointer (some ⟨gr, 0, none⟩), .slice sp m cap, .slice (some ⟨gv, 0, none⟩) nv nv] u (KQ R N gr gw n p0 p1 kv fu gv nv (runL (stm E G2 d) t.nd.th s) u)) :
    Calls Try.prog 37 (stArgs gr gv nv cs) w (KQ R N gr gw n p0 p1 kv fu gv nv (stm E (G + 1) (d + 1) t ⟨W, V, k + 1⟩) w) := by
  obtain ⟨Q, hQ0⟩ : ∃ Q, stm E (G + 1) (d + 1) t ⟨W, V, k + 1⟩ = Q := ⟨_, rfl⟩
  rw [hQ0]
  obtain ⟨hmy, hoa, hob, hoe⟩ := okS_s hok
  obtain ⟨sa, na, ca, sb, nb, cb, sc, nc, cc, hcs, hk0, hSa, hSb, hSc⟩ := hM
  subst hcs
  have hna : na ≤ 64 := by rw [hSa.len.out]; exact fewS hps hmy
  have b0 := ab w (.cells #[.int .u8 t.nd.k, .int .i64 t.nd.v, .int .i64 t.nd.f, .int .i64 t.nd.t, .slice sa na ca, .slice sb nb cb, .slice sc nc cc] 78)
  have hK0 := hK.bl hR hN b0
  have A := Arr.new w 78 #[.int .u8 t.nd.k, .int .i64 t.nd.v, .int .i64 t.nd.f, .int .i64 t.nd.t, .slice sa na ca, .slice sb nb cb, .slice sc nc cc]
  have hwg : w.heap.size ≠ gr ∧ w.heap.size ≠ gw ∧ w.heap.size ≠ gv := by have := hK.run.ar.lt; have := hK.run.aw.lt; have := hK.var.av.lt; omega
  have hgrU := hK0.run.ar.lt
  have hgwU := hK0.run.aw.lt
  have hgvU := hK0.var.av.lt
  have hlen := hSa.len
  have hSa0 := hSa.imp (b0.mono hN) (ExM.below (b0.mono hN) 8)
  have hSb0 := hSb.imp (b0.mono hN) (StM.below (b0.mono hN) d)
  have hSc0 := hSc.imp (b0.mono hN) (StM.below (b0.mono hN) d)
  have hcw0 : Ch (PD gr gw gv) w (w.alloc (.cells #[.int .u8 t.nd.k, .int .i64 t.nd.v, .int .i64 t.nd.f, .int .i64 t.nd.t, .slice sa na ca, .slice sb nb cb, .slice sc nc cc] 78)) := Ch.ob b0
  have hNU : N ≤ (w.alloc (.cells #[.int .u8 t.nd.k, .int .i64 t.nd.v, .int .i64 t.nd.f, .int .i64 t.nd.t, .slice sa na ca, .slice sb nb cb, .slice sc nc cc] 78)).heap.size := by simp; omega
  clear hSa hSb hSc hK b0
  unfold stArgs
  unfold stC
  have hal : t.nd.a.length = 1 := by have : (t.nd.a.length : Int) = 1 := by { simp [mayS, hkk] at hmy; omega }; omega
  obtain ⟨a, ha⟩ := len1 hal
  have hna1 : na = 1 := by rw [hlen.out]; exact hal
  subst hna1
  obtain ⟨g, off, rfl, hg, hRg⟩ := hSa0.at0 (by omega)
  obtain ⟨cs, hrg, hMa⟩ := hRg 0 a (by rw [ha]; rfl)
  obtain ⟨ka, na2, va2, oa, spa, ma, capa, rfl⟩ := hMa.five
  have hoka := hoa a (by rw [ha]; simp)
  have e4 : (t.nd.k == 4) = true := by simpa using hkk
  have hk4 := hid hkk
  have hB' := hid hB
  have ha' := hid ha
  have hQ := hid hQ0
  replace hg := hid hg
  have hrg' := hid hrg
  have k0 := A.cell 0
  clear hkk hB hQ0 hal ha hRg hSa0 hSc0 hlen hrg
  go_enter Try.func37, Try.ntmps37
  go_upto_region 2 with fail
  generalize hUU : w.alloc (.cells #[.int .u8 t.nd.k, .int .i64 t.nd.v, .int .i64 t.nd.f, .int .i64 t.nd.t, .slice (some ⟨g, off, none⟩) 1 ca, .slice sb nb cb, .slice sc nc cc] 78) = U at *
  clear hUU k0
  go_loopw [] (fun wr => ∃ (G2 : Nat) (W2 V2 : List Int) (k2 : Nat), KD R N gr gw n p0 p1 kv fu gv nv ⟨W2, V2, k2⟩ 0 0 wr ∧ Ch (PD gr gw gv) U wr ∧ Hid (k2 ≤ G2 ∧ G2 ≤ G) ∧ Hid (stm E (G2 + 1) (d + 1) t ⟨W2, V2, k2 + 1⟩ = Q)) (fun wr => lfD gr fu wr)
  case atStart => exact ⟨G, W, V, k, hK0, Ch.refl _ _, hid ⟨hG, Nat.le_refl _⟩, hQ⟩
  case round =>
    obtain ⟨G2, W2, V2, k2, hKe, hcu, hgg, hq⟩ := hrel
    have A' := hcu.arr A (by rintro (e | e | e); exact hwg.1 e; exact hwg.2.1 e; exact hwg.2.2 e)
    have k4 := A'.cell 4
    have k5 := A'.cell 5
    have hcs := hcu.size
    have hNw : N ≤ wr.heap.size := by omega
    have hlow : Below N U wr := hcu.bl fun i hi => ⟨by omega, by have := hKe.l1; have := hKe.l2; have := hKe.l3; rintro (e | e | e) <;> omega⟩
    have hrg2 := rb hrg'.out hlow hg.out
    have q0 := hrg2 0 _ rfl
    have q1 := hrg2 1 _ rfl
    have q2 := hrg2 2 _ rfl
    have q3 := hrg2 3 _ rfl
    have q4 := hrg2 4 _ rfl
    simp only [Nat.add_zero, Nat.zero_mul] at q0 q1 q2 q3 q4
    have hcP : Ch (PD gr gw gv) w wr := hcw0.trans hcu
    have hcc := hid (dval_any hKe.n1 hKe.l1 8 wr _ a hNw hKe.run hKe.var (ExM.below hlow 8 _ a hMa) hoka)
    have hqq := hq.out
    cases hx : evX W2 V2 8 a with
    | none =>
      rw [stm_tr (by rw [ha'.out, evs_1, hx]; rfl)] at hqq
      rw [hx] at hcc
      have hfin : Hid (∀ u, DunI gr gw n p0 p1 kv W2 fu ((fu : Int) - k2) 2 0 u → Ch (fun k => k = gr) wr u → KQ R N gr gw n p0 p1 kv fu gv nv Q w (.returned (.tuple #[])) u) := hid fun u h1 h2 => by
        rw [← hqq]
        exact ⟨rfl, hKe.gr' hR hNw h2 hKe.le h1, hcP.trans (h2.imp fun k hk => .inl hk)⟩
      clear hx hq hqq hKe hrg2
      go_upto_region 2 with fail
      go_wp2_with (go_at_call 49; go_must (refine hcc.out.mono ?_; rintro e w1 ⟨z, rfl, hz, -, hD1, hc1⟩; replace hD1 : DunI gr gw n p0 p1 kv W2 fu ((fu : Int) - k2) 2 0 w1 := hD1; have d6 := hD1.ar.cell 6; obtain ⟨bz, hbz⟩ : ∃ bz, (z != 0) = bz := ⟨_, rfl⟩; cases bz))
      · go_end0
        exact hfin.out w1 hD1 hc1
      · go_end0
        exact hfin.out w1 hD1 hc1
    | some x =>
      rw [stm_on (by rw [ha'.out, evs_1, hx]; rfl), one_4 hk4.out] at hqq
      rw [hx] at hcc
      by_cases hx0 : x = 0
      · rw [if_pos hx0] at hqq
        have hfin : Hid (∀ u, DunI gr gw n p0 p1 kv W2 fu ((fu : Int) - k2) 0 0 u → Ch (fun k => k = gr) wr u → KQ R N gr gw n p0 p1 kv fu gv nv Q w (.returned (.tuple #[])) u) := hid fun u h1 h2 => by
          rw [← hqq]
          exact ⟨rfl, hKe.gr' hR hNw h2 hKe.le h1, hcP.trans (h2.imp fun k hk => .inl hk)⟩
        clear hx hq hqq hKe hrg2
        replace hx0 := hid hx0
        go_wp2_with (go_at_call 49; go_must (refine hcc.out.mono ?_; rintro e w1 ⟨z, rfl, hz, hzx, hD1, hc1⟩; replace hD1 : DunI gr gw n p0 p1 kv W2 fu ((fu : Int) - k2) 0 0 w1 := hD1; have ez : (z != 0) = false := (by rw [hzx.out x rfl, hx0.out]; rfl)))
        go_end0
        exact hfin.out w1 hD1 hc1
      · rw [if_neg hx0] at hqq
        obtain ⟨Bt, hBt⟩ : ∃ Bt, runL (stm E G2 d) t.nd.th ⟨W2, V2, k2⟩ = Bt := ⟨_, rfl⟩
        rw [hBt] at hqq
        have hbl := runL_lf (fun t s => stm_lf (E := E) G2 d t s) t.nd.th ⟨W2, V2, k2⟩
        rw [hBt] at hbl
        replace hbl : Hid (Bt.s.lf ≤ k2) := hid hbl
        have hbody : Hid (∀ u, DunI gr gw n p0 p1 kv W2 fu ((fu : Int) - k2) 0 0 u → Ch (fun k => k = gr) wr u → Calls Try.prog 28 #[.pointer (some ⟨gr, 0, none⟩), .slice sb nb cb, .slice (some ⟨gv, 0, none⟩) nv nv] u (KQ R N gr gw n p0 p1 kv fu gv nv Bt u) ∧ u.cell? ⟨w.heap.size, 5, none⟩ = some (.slice sb nb cb)) := hid fun u h1 h2 => by
          have hl2 : Below N U u := hlow.trans (h2.bl fun i hi => ⟨by omega, by have := hKe.l1; omega⟩)
          refine ⟨?_, (h2.arr A' hwg.1).cell 5⟩
          rw [← hBt]
          exact hB'.out G2 ⟨W2, V2, k2⟩ u _ _ _ hgg.out.2 hgg.out.1 (by have := h2.size; omega) (hKe.gr' hR hNw h2 hKe.le h1) (hSb0.imp hl2 (StM.below hl2 d))
        have hms : Hid (lfD gr fu wr = k2) := hid hKe.lfD
        have hqq' := hid hqq
        clear hx hq hqq hKe hrg2 hBt
        replace hx0 := hid hx0
        go_upto_region 4 with (first
          | (go_at_call 49; go_must (refine hcc.out.mono ?_; rintro e w1 ⟨z, rfl, hz, hzx, hD1, hc1⟩; replace hD1 : DunI gr gw n p0 p1 kv W2 fu ((fu : Int) - k2) 0 0 w1 := hD1; have ez : (z != 0) = true := (by rw [hzx.out x rfl]; simpa using hx0.out); have d6 := hD1.ar.cell 6; obtain ⟨hc28, kb5⟩ := hbody.out w1 hD1 hc1; replace hc28 := hid hc28))
          | (go_at_call 28; go_must (refine hc28.out.mono ?_; rintro e w2 ⟨rfl, hK2, hc2⟩; have f6 := hK2.run.ar.cell 6)))
        have hcP2 : Ch (PD gr gw gv) w w2 := (hcP.trans (hc1.imp fun k hk => .inl hk)).trans hc2
        have hcU2 : Ch (PD gr gw gv) U w2 := (hcu.trans (hc1.imp fun k hk => .inl hk)).trans hc2
        have hNw2 : N ≤ w2.heap.size := by have := hcU2.size; omega
        have hq2 := hqq'.out
        by_cases hBk : Bt.k = 0
        · rw [if_pos hBk] at hq2
          have hfv : fvB Bt = 0 := fvB_n (by omega)
          rw [hfv, hBk] at hK2
          replace hK2 : KD R N gr gw n p0 p1 kv fu gv nv Bt.s 0 0 w2 := hK2
          have e6 : ((Bt.k : Int) != 0) = false := by simp; omega
          obtain ⟨sb2, hsb2⟩ : ∃ s, Bt.s = s := ⟨_, rfl⟩
          rw [hsb2] at hK2 hq2 hbl
          obtain ⟨Wb, Vb, lb⟩ := sb2
          have hle := hK2.le
          replace hle : lb ≤ fu := hle
          have hf4 := hK2.fu4
          replace hbl : lb ≤ k2 := hbl.out
          cases lb with
          | zero =>
            rw [stm_sp t _ rfl] at hq2
            have hD0 : DunI gr gw n p0 p1 kv Wb fu (fu : Int) 0 0 w2 := by have := hK2.run; simpa using this
            have htk := take_no w2 hD0
            have hfin : Hid (∀ u, DunI gr gw n p0 p1 kv Wb fu (fu : Int) 3 0 u → Ch (fun k => k = gr) w2 u → KQ R N gr gw n p0 p1 kv fu gv nv Q w (.returned (.tuple #[])) u) := hid fun u h1 h2 => by
              rw [← hq2]
              exact ⟨rfl, hK2.gr' hR hNw2 h2 (lf := 0) (by omega) (show DunI gr gw n p0 p1 kv Wb fu ((fu : Int) - ((0 : Nat) : Int)) 3 0 u by simpa using h1), hcP2.trans (h2.imp fun k hk => .inl hk)⟩
            clear hq2 hqq' hK2 hBk hD0 hsb2 hfv
            go_wp2_with (go_at_call 36; go_must (refine htk.mono ?_; rintro e w3 ⟨rfl, hD3, hc3⟩))
            go_end0
            exact hfin.out w3 hD3 hc3
          | succ k3 =>
            have hD0 : DunI gr gw n p0 p1 kv Wb fu ((fu : Int) - ((k3 + 1 : Nat) : Int)) 0 0 w2 := hK2.run
            have htk := take_ok w2 hD0 (by omega) (by omega)
            rw [show (fu : Int) - ((k3 + 1 : Nat) : Int) + 1 = (fu : Int) - (k3 : Int) by omega] at htk
            obtain ⟨hg1, hg2⟩ := hgg.out
            obtain ⟨G3, rfl⟩ : ∃ G3, G2 = G3 + 1 := ⟨G2 - 1, by omega⟩
            have hnx : Hid (∀ u, DunI gr gw n p0 p1 kv Wb fu ((fu : Int) - (k3 : Int)) 0 0 u → Ch (fun k => k = gr) w2 u → KD R N gr gw n p0 p1 kv fu gv nv ⟨Wb, Vb, k3⟩ 0 0 u ∧ Ch (PD gr gw gv) U u) := hid fun u h1 h2 => ⟨hK2.gr' hR hNw2 h2 (lf := k3) (by omega) h1, hcU2.trans (h2.imp fun k hk => .inl hk)⟩
            have hq3 := hid hq2
            clear hq2 hqq' hK2 hBk hD0 hsb2 hfv
            go_wp2_with (go_at_call 36; go_must (refine htk.mono ?_; rintro e w3 ⟨rfl, hD3, hc3⟩))
            obtain ⟨hK4, hcU4⟩ := hnx.out w3 hD3 hc3
            go_roundw
            case rel => exact ⟨G3, Wb, Vb, k3, hK4, hcU4, hid ⟨by omega, by omega⟩, hq3⟩
            case measure => rw [hK4.lfD, hms.out]; show k3 < k2; omega
        · rw [if_neg hBk] at hq2
          have e6 : ((Bt.k : Int) != 0) = true := by simp; omega
          have hfin : Hid (KQ R N gr gw n p0 p1 kv fu gv nv Q w (.returned (.tuple #[])) w2) := hid (by rw [← hq2]; exact ⟨rfl, hK2, hcP2⟩)
          clear hq2 hqq' hK2 hBk
          go_wp2_with fail
          go_end0
          exact hfin.out
end Go.Proofs.Ytmljihggooaboaa
/- Layer interp: every statement of the document's run. -/
namespace Go.Proofs.Ytmljihggooaboaa
open Go.RowKit
set_option maxRecDepth 100000
set_option linter.unusedVariables false
set_option linter.unusedSimpArgs false

variable {R : World → Prop} {N gr gw n : Nat} {p1 : Value} {es : List En} {kp : Option Addr} {kn kc : Nat} {fp : Option Addr} {fm fc : Nat} {fs : List FuT} {fu : Nat}
set_option maxHeartbeats 1000000 in
theorem dstm_any (hR : RB R N) (hRF : ∀ u, R u → RS N u 3 (FuM N u) fp fm fc fs) (hRE : ∀ u, R u → ES N u kp kn kc es) (hF0 : okF fs) (hU : EnvU (EV fs es)) : ∀ (G d : Nat) (t : StT d) (W V : List Int) (k gv nv i : Nat) (w : World) (cs : List Value), k ≤ G → N ≤ w.heap.size → KD R N gr gw n (.slice fp fm fc) p1 (.slice kp kn kc) fu gv nv ⟨W, V, k⟩ 0 0 w → StM N w d cs t → okS ((fs.take i).map FuT.p) nv d t →
    Calls Try.prog 37 (stArgs gr gv nv cs) w (KQ R N gr gw n (.slice fp fm fc) p1 (.slice kp kn kc) fu gv nv (stm (EV fs es) (G + 1) d t ⟨W, V, k + 1⟩) w) := by
  intro G
  induction G using Nat.strongRecOn with
  | _ G ih =>
    intro d t W V k gv nv i w cs hl hN hK hM hok
    have hBod : ∀ (d' G' : Nat) (l : List (StT d')) (gv nv i : Nat) (s : SS) (u : World) (sp : Option Addr) (m cap : Nat), G' ≤ G → (∀ a ∈ l, okS ((fs.take i).map FuT.p) nv d' a) → s.lf ≤ G' → N ≤ u.heap.size → KD R N gr gw n (.slice fp fm fc) p1 (.slice kp kn kc) fu gv nv s 0 0 u → RS N u 7 (StM N u d') sp m cap l → Calls Try.prog 28 #[.pointer (some ⟨gr, 0, none⟩), .slice sp m cap, .slice (some ⟨gv, 0, none⟩) nv nv] u (KQ R N gr gw n (.slice fp fm fc) p1 (.slice kp kn kc) fu gv nv (runL (stm (EV fs es) G' d') l s) u) := by
      intro d' G' l gv nv i s u sp m cap hG' hol hlf hNu hKu hSu
      refine dbody hR (stm (EV fs es) G' d') (fun t s h => stm_sp t s h) s u hNu hKu hSu (fun a ha W V k u2 cs2 hk2 hN2 hK2 hM2 => ?_) (fun t s => stm_lf _ _ _ _)
      obtain ⟨G2, rfl⟩ : ∃ G2, G' = G2 + 1 := ⟨G' - 1, by omega⟩
      exact ih G2 (by omega) d' a W V k gv nv i u2 cs2 (by omega) hN2 hK2 hM2 (hol a ha)
    cases d with
    | zero => obtain ⟨_, _, h⟩ := hok; cases h
    | succ d =>
        obtain ⟨hmy, hoa, hob, hoe⟩ := okS_s hok
        have hps := hF0.ps i
        have hcu := StM.cu _ _ _ hM
        have hWn : W.length = n := hK.run.len.out
        cases hev : evs W V 8 t.nd.a with
        | none =>
          rw [stm_tr hev]
          by_cases h4 : t.nd.k = 4
          · rw [← stm_tr (E := EV fs es) (G := G) (k := k) hev]
            exact dst_while hR w hN hK hM hok hps h4 hl (fun G2 s u sp m cap g1 g2 g3 g4 g5 => hBod d G2 _ gv nv i s u sp m cap g1 hob g2 g3 g4 g5)
          · exact dst_trap hR w hN hK hM hok hps h4 hev
        | some L =>
          have hL := evs_u hK.run.wU hK.var.vU _ _ hcu.1 hoa hev
          have hln := evs_len _ _ hev
          rw [stm_on hev]
          by_cases h1 : t.nd.k = 1
          · have hv : (0 ≤ t.nd.v ∧ t.nd.v < nv) ∧ (t.nd.a.length : Int) = 1 := by simp [mayS, h1] at hmy; omega
            obtain ⟨x, rfl⟩ := len1 (show L.length = 1 by omega)
            have e1 : one (EV fs es) (runL (stm (EV fs es) G d)) (stm (EV fs es) G (d + 1) t) (runL (stm (EV fs es) G 8)) t.nd [x] ⟨W, V, k⟩ = ⟨0, 0, ⟨W, V.set t.nd.v.toNat x, k⟩⟩ := by unfold one; rw [if_pos h1]; rfl
            rw [e1]
            exact dst_set (j0 := t.nd.v.toNat) hR w hN hK hM hok hps h1 (by omega) (by omega) hev (hL x (by simp))
          by_cases h2 : t.nd.k = 2
          · have hv : (t.nd.a.length : Int) = 2 := by simp [mayS, h2] at hmy; omega
            obtain ⟨q, x, rfl⟩ := len2 (show L.length = 2 by omega)
            have hq := hL q (by simp)
            have e1 : one (EV fs es) (runL (stm (EV fs es) G d)) (stm (EV fs es) G (d + 1) t) (runL (stm (EV fs es) G 8)) t.nd [q, x] ⟨W, V, k⟩ = if q < W.length then ⟨0, 0, ⟨W.set q.toNat x, V, k⟩⟩ else ⟨2, 0, ⟨W, V, k⟩⟩ := by unfold one; rw [if_neg h1, if_pos h2]; rfl
            rw [e1]
            by_cases hqn : q < W.length
            · rw [if_pos hqn]
              have hq0 := hq.1
              have hq1 : ((q.toNat : Nat) : Int) = q := Int.toNat_of_nonneg hq0
              rw [← hq1] at hev
              exact dst_store (q := q.toNat) hR w hN hK hM hok hps h2 hev (hL x (by simp)) (by omega)
            · rw [if_neg hqn]
              exact dst_stno hR w hN hK hM hok hps h2 hev hq (by rw [← hWn]; exact hqn)
          by_cases h3 : t.nd.k = 3
          · have hv : (t.nd.a.length : Int) = 1 := by simp [mayS, h3] at hmy; omega
            obtain ⟨x, rfl⟩ := len1 (show L.length = 1 by omega)
            have e1 : one (EV fs es) (runL (stm (EV fs es) G d)) (stm (EV fs es) G (d + 1) t) (runL (stm (EV fs es) G 8)) t.nd [x] ⟨W, V, k⟩ = runL (stm (EV fs es) G d) (if x = 0 then t.nd.el else t.nd.th) ⟨W, V, k⟩ := by unfold one; rw [if_neg h1, if_neg h2, if_pos h3]; rfl
            rw [e1]
            have hib : ∀ (u : World) (sp : Option Addr) (m cap : Nat), N ≤ u.heap.size → KD R N gr gw n (.slice fp fm fc) p1 (.slice kp kn kc) fu gv nv ⟨W, V, k⟩ 0 0 u → RS N u 7 (StM N u d) sp m cap (if x = 0 then t.nd.el else t.nd.th) → Calls Try.prog 28 #[.pointer (some ⟨gr, 0, none⟩), .slice sp m cap, .slice (some ⟨gv, 0, none⟩) nv nv] u (KQ R N gr gw n (.slice fp fm fc) p1 (.slice kp kn kc) fu gv nv (runL (stm (EV fs es) G d) (if x = 0 then t.nd.el else t.nd.th) ⟨W, V, k⟩) u) := fun u sp m cap h1 h2 h3 => hBod d G _ gv nv i _ u sp m cap (Nat.le_refl _) (by split; exact hoe; exact hob) hl h1 h2 h3
            by_cases hx0 : x = 0
            · exact dst_else hR w hN hK hM hok hps h3 hev hx0 hib
            · exact dst_then hR w hN hK hM hok hps h3 hev hx0 hib
          by_cases h4 : t.nd.k = 4
          · have hv : (t.nd.a.length : Int) = 1 := by simp [mayS, h4] at hmy; omega
            obtain ⟨x, rfl⟩ := len1 (show L.length = 1 by omega)
            rw [← stm_on hev]
            exact dst_while hR w hN hK hM hok hps h4 hl (fun G2 s u sp m cap g1 g2 g3 g4 g5 => hBod d G2 _ gv nv i s u sp m cap g1 hob g2 g3 g4 g5)
          by_cases h5 : t.nd.k = 5
          · have hv : (t.nd.a.length : Int) = 1 := by simp [mayS, h5] at hmy; omega
            obtain ⟨x, rfl⟩ := len1 (show L.length = 1 by omega)
            have e1 : one (EV fs es) (runL (stm (EV fs es) G d)) (stm (EV fs es) G (d + 1) t) (runL (stm (EV fs es) G 8)) t.nd [x] ⟨W, V, k⟩ = ⟨1, x, ⟨W, V, k⟩⟩ := by unfold one; rw [if_neg h1, if_neg h2, if_neg h3, if_neg h4, if_pos h5]; rfl
            rw [e1]
            exact dst_ret hR w hN hK hM hok hps h5 hev
          by_cases h6 : t.nd.k = 6
          · have hv : (0 ≤ t.nd.v ∧ t.nd.v < nv) ∧ tkB ((fs.take i).map FuT.p) t.nd.f t.nd.a.length = true := by
              unfold mayS at hmy
              rw [if_neg (by omega), if_neg (by omega), if_neg (by omega), if_neg (by omega), if_neg (by omega), if_pos h6] at hmy
              have := of_decide_eq_true hmy
              exact ⟨this.1, this.2.1⟩
            have hk2 := of_decide_eq_true (show decide _ = true from hv.2)
            have hjf : t.nd.f.toNat < (fs.take i).length := by have := hk2.2.1; rw [List.length_map] at this; omega
            obtain ⟨f, hf⟩ : ∃ f, (fs.take i)[t.nd.f.toNat]? = some f := ⟨_, List.getElem?_eq_getElem hjf⟩
            have hf2 : fs[t.nd.f.toNat]? = some f := by
              rw [List.getElem?_take_of_lt (by have := hjf; rw [List.length_take] at this; omega)] at hf
              exact hf
            have hpv : (t.nd.a.length : Int) = f.p := by
              have := hk2.2.2
              rw [List.getD_eq_getElem?_getD, List.getElem?_map, hf] at this
              exact this
            obtain ⟨hfb, hfo⟩ := hF0 _ f hf2
            have e1 : one (EV fs es) (runL (stm (EV fs es) G d)) (stm (EV fs es) G (d + 1) t) (runL (stm (EV fs es) G 8)) t.nd L ⟨W, V, k⟩ = back ⟨W, V, k⟩ t.nd.v (runL (stm (EV fs es) G 8) f.b ⟨W, L ++ List.replicate (f.v.toNat - L.length) 0, k⟩) := by
              unfold one
              rw [if_neg h1, if_neg h2, if_neg h3, if_neg h4, if_neg h5, if_pos h6]
              show back _ _ (runL _ ((fs[t.nd.f.toNat]?).elim [] FuT.b) (fr0 _ ((fs[t.nd.f.toNat]?).elim 0 FuT.v) L)) = _
              rw [hf2]
              rfl
            rw [e1]
            have hru : RU (runL (stm (EV fs es) G 8) f.b ⟨W, L ++ List.replicate (f.v.toNat - L.length) 0, k⟩) := by
              refine runL_u _ _ (fun a ha s hs => ?_) ⟨hK.run.wU, fun x hx => ?_⟩
              · obtain ⟨g1, ps', vs', g2⟩ := hU.fs f (List.mem_of_getElem? hf2) a ha
                exact stm_u hU G 8 a s ps' vs' hs g1 g2
              · rcases List.mem_append.1 hx with h | h
                · exact hL x h
                · rw [(List.mem_replicate.1 h).2]; exact u0
            have hlf := runL_lf (fun t s => stm_lf (E := EV fs es) G 8 t s) f.b ⟨W, L ++ List.replicate (f.v.toNat - L.length) 0, k⟩
            replace hlf : _ ≤ k := hlf
            exact dst_call (j0 := t.nd.v.toNat) (jf := t.nd.f.toNat) (nf := f.v.toNat) hR w hN hK hM hok hps h6 (by omega) (by omega) (by omega) hev hL hRF hf2 (by omega) (by omega) (by omega) (by unfold fvB; split; exact hru.2; exact u0)
              (fun gv' u sp m cap g1 g2 g3 => hBod 8 G f.b gv' f.v.toNat t.nd.f.toNat _ u sp m cap (Nat.le_refl _) (fun a ha => by have := hfo a ha; rw [show f.v = ((f.v.toNat : Nat) : Int) by omega] at this; exact this) hl g1 g2 g3)
          by_cases h7 : t.nd.k = 7
          · have hv : (t.nd.a.length : Int) = 3 := by simp [mayS, h7] at hmy; omega
            obtain ⟨a, b, z, rfl⟩ := len3 (show L.length = 3 by omega)
            cases hh : hsW W t.nd.t a b z with
            | none =>
              have e1 : one (EV fs es) (runL (stm (EV fs es) G d)) (stm (EV fs es) G (d + 1) t) (runL (stm (EV fs es) G 8)) t.nd [a, b, z] ⟨W, V, k⟩ = ⟨2, 0, ⟨W, V, k⟩⟩ := by
                unfold one
                rw [if_neg h1, if_neg h2, if_neg h3, if_neg h4, if_neg h5, if_neg h6, if_pos h7]
                show (match hsW W t.nd.t a b z with | none => _ | some W => _) = _
                rw [hh]
              rw [e1]
              exact dst_hashno hR w hN hK hM hok hps h7 hev (hL a (by simp)) (hL b (by simp)) (hL z (by simp)) hh
            | some W2 =>
              have e1 : one (EV fs es) (runL (stm (EV fs es) G d)) (stm (EV fs es) G (d + 1) t) (runL (stm (EV fs es) G 8)) t.nd [a, b, z] ⟨W, V, k⟩ = ⟨0, 0, ⟨W2, V, k⟩⟩ := by
                unfold one
                rw [if_neg h1, if_neg h2, if_neg h3, if_neg h4, if_neg h5, if_neg h6, if_pos h7]
                show (match hsW W t.nd.t a b z with | none => _ | some W => _) = _
                rw [hh]
              rw [e1]
              exact dst_hash hR w hN hK hM hok hps h7 hev (hL a (by simp)) (hL b (by simp)) (hL z (by simp)) hh
          by_cases h8 : t.nd.k = 8
          · have hv : (0 ≤ t.nd.v ∧ t.nd.v < nv) ∧ (t.nd.a.length : Int) = 2 := by simp [mayS, h8] at hmy; omega
            obtain ⟨a, b, rfl⟩ := len2 (show L.length = 2 by omega)
            cases hh : prW es W a with
            | none =>
              have e1 : one (EV fs es) (runL (stm (EV fs es) G d)) (stm (EV fs es) G (d + 1) t) (runL (stm (EV fs es) G 8)) t.nd [a, b] ⟨W, V, k⟩ = ⟨2, 0, ⟨W, V, k⟩⟩ := by
                unfold one
                rw [if_neg h1, if_neg h2, if_neg h3, if_neg h4, if_neg h5, if_neg h6, if_neg h7, if_pos h8]
                show (match prW es W a with | none => _ | some b => _) = _
                rw [hh]
              rw [e1]
              exact dst_preno (j0 := t.nd.v.toNat) hR w hN hK hM hok hps h8 (by omega) (by omega) hev (hL a (by simp)) (hL b (by simp)) hRE hh
            | some bs =>
              have e1 : one (EV fs es) (runL (stm (EV fs es) G d)) (stm (EV fs es) G (d + 1) t) (runL (stm (EV fs es) G 8)) t.nd [a, b] ⟨W, V, k⟩ = ⟨0, 0, ⟨W, V.set t.nd.v.toNat (pcN bs b.toNat 8), k⟩⟩ := by
                unfold one
                rw [if_neg h1, if_neg h2, if_neg h3, if_neg h4, if_neg h5, if_neg h6, if_neg h7, if_pos h8]
                show (match prW es W a with | none => _ | some b => _) = _
                rw [hh]
                rfl
              rw [e1]
              exact dst_pre (j0 := t.nd.v.toNat) hR w hN hK hM hok hps h8 (by omega) (by omega) hev (hL a (by simp)) (hL b (by simp)) hRE hh
          have h9 : t.nd.k = 9 := by
            unfold mayS at hmy
            by_cases h9 : t.nd.k = 9
            · exact h9
            · rw [if_neg (by omega), if_neg h2, if_neg h3, if_neg h4, if_neg h5, if_neg h6, if_neg h7, if_neg h8] at hmy
              cases hmy
          have hv : (0 ≤ t.nd.v ∧ t.nd.v < nv) ∧ (t.nd.a.length : Int) = 1 := by simp [mayS, h9] at hmy; omega
          obtain ⟨a, rfl⟩ := len1 (show L.length = 1 by omega)
          cases hh : prW es W a with
          | none =>
            have e1 : one (EV fs es) (runL (stm (EV fs es) G d)) (stm (EV fs es) G (d + 1) t) (runL (stm (EV fs es) G 8)) t.nd [a] ⟨W, V, k⟩ = ⟨2, 0, ⟨W, V, k⟩⟩ := by
              unfold one
              rw [if_neg h1, if_neg h2, if_neg h3, if_neg h4, if_neg h5, if_neg h6, if_neg h7, if_neg h8]
              show (match prW es W a with | none => _ | some b => _) = _
              rw [hh]
            rw [e1]
            exact dst_plenno (j0 := t.nd.v.toNat) (b := 0) hR w hN hK hM hok hps h9 (by omega) (by omega) hev (hL a (by simp)) u0 hRE hh
          | some bs =>
            have e1 : one (EV fs es) (runL (stm (EV fs es) G d)) (stm (EV fs es) G (d + 1) t) (runL (stm (EV fs es) G 8)) t.nd [a] ⟨W, V, k⟩ = ⟨0, 0, ⟨W, V.set t.nd.v.toNat (bs.length : Int), k⟩⟩ := by
              unfold one
              rw [if_neg h1, if_neg h2, if_neg h3, if_neg h4, if_neg h5, if_neg h6, if_neg h7, if_neg h8]
              show (match prW es W a with | none => _ | some b => _) = _
              rw [hh]
              rfl
            rw [e1]
            exact dst_plen (j0 := t.nd.v.toNat) (b := 0) hR w hN hK hM hok hps h9 (by omega) (by omega) hev (hL a (by simp)) u0 hRE hh
end Go.Proofs.Ytmljihggooaboaa
