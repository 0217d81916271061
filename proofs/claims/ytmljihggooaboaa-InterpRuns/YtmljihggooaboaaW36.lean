/- Pc, Pd, Pe. -/
import Derived.Test.YtmljihggooaboaaW35
import Derived.Test.YtmljihggooaboaaW07
import Derived.Test.YtmljihggooaboaaW08
import Derived.Handy
import Derived.BigQuiet
import Derived.BigRegion
import Derived.Test.YtmljihggooaboaaW06
import Derived.Test.YtmljihggooaboaaW23
/- Layer interp: the document's statements in turn. -/
namespace Go.Proofs.Ytmljihggooaboaa
open Go.RowKit
set_option maxRecDepth 100000
set_option linter.unusedVariables false
set_option linter.unusedSimpArgs false

/-- What stays all through the document's run. -/
structure KD (R : World → Prop) (N gr gw n : Nat) (p0 p1 kv : Value) (fu gv nv : Nat) (s : SS) (en va : Int) (w : World) : Prop where
  run : DunI gr gw n p0 p1 kv s.W fu ((fu : Int) - s.lf) en va w
  var : VarI gv nv s.V w
  n1 : gr ≠ gv
  n2 : gw ≠ gv
  l1 : N ≤ gr
  l2 : N ≤ gw
  l3 : N ≤ gv
  r : R w
  le : s.lf ≤ fu
  fu4 : fu ≤ 4194304
def PD (gr gw gv k : Nat) : Prop := k = gr ∨ k = gw ∨ k = gv
def RB (R : World → Prop) (N : Nat) : Prop := ∀ u u', Below N u u' → R u → R u'
def KQ (R : World → Prop) (N gr gw n : Nat) (p0 p1 kv : Value) (fu gv nv : Nat) (r : RR) (w : World) (e : Ending) (w' : World) : Prop :=
  e = .returned (.tuple #[]) ∧ KD R N gr gw n p0 p1 kv fu gv nv r.s (r.k : Int) (fvB r) w' ∧ Ch (PD gr gw gv) w w'
variable {R : World → Prop} {N gr gw n : Nat} {p0 p1 kv : Value} {fu gv nv : Nat} {s : SS} {en va : Int}
theorem KD.low {w w' : World} (h : KD R N gr gw n p0 p1 kv fu gv nv s en va w) (hN : N ≤ w.heap.size) (hc : Ch (PD gr gw gv) w w') : Below N w w' :=
  hc.bl fun i hi => ⟨by omega, by have := h.l1; have := h.l2; have := h.l3; rintro (e | e | e) <;> omega⟩
theorem KD.bl (hR : RB R N) {w w' : World} (h : KD R N gr gw n p0 p1 kv fu gv nv s en va w) (hN : N ≤ w.heap.size) (hb : Below w.heap.size w w') : KD R N gr gw n p0 p1 kv fu gv nv s en va w' :=
  ⟨h.run.bl hb, h.var.bl hb, h.n1, h.n2, h.l1, h.l2, h.l3, hR _ _ (hb.mono hN) h.r, h.le, h.fu4⟩
/-- Another state of the run itself. -/
theorem KD.gr' (hR : RB R N) {w w' : World} (h : KD R N gr gw n p0 p1 kv fu gv nv s en va w) (hN : N ≤ w.heap.size) (hc : Ch (fun k => k = gr) w w') {lf : Nat} {en2 va2 : Int} (hl : lf ≤ fu) (hD : DunI gr gw n p0 p1 kv s.W fu ((fu : Int) - lf) en2 va2 w') : KD R N gr gw n p0 p1 kv fu gv nv ⟨s.W, s.V, lf⟩ en2 va2 w' :=
  ⟨hD, ⟨hc.arr h.var.av h.n1.symm, h.var.len, h.var.n64, h.var.vU⟩, h.n1, h.n2, h.l1, h.l2, h.l3, hR _ _ (hc.bl fun i hi => ⟨by omega, by have := h.l1; omega⟩) h.r, hl, h.fu4⟩
theorem fvB_n {r : RR} (h : r.k ≠ 1) : fvB r = 0 := by unfold fvB; rw [if_neg h]
set_option maxHeartbeats 2000000 in
theorem dbody {d : Nat} {sp : Option Addr} {m cap : Nat} {l : List (StT d)} (hR : RB R N) (F : StT d → SS → RR) (hF0 : ∀ t s, s.lf = 0 → F t s = ⟨3, 0, s⟩) (s0 : SS) (w : World) (hN : N ≤ w.heap.size) (hK : KD R N gr gw n p0 p1 kv fu gv nv s0 0 0 w) (hS : RS N w 7 (StM N w d) sp m cap l)
    (hst : ∀ t ∈ l, ∀ (W V : List Int) (k : Nat) (u : World) (cs : List Value), k + 1 ≤ s0.lf → N ≤ u.heap.size → KD R N gr gw n p0 p1 kv fu gv nv ⟨W, V, k⟩ 0 0 u → StM N u d cs t → Calls Try.prog 37 (stArgs gr gv nv cs) u (KQ R N gr gw n p0 p1 kv fu gv nv (F t ⟨W, V, k + 1⟩) u)) (hFl : ∀ t s, (F t s).s.lf ≤ s.lf) :
    Calls Try.prog 28 #[.pointer (some ⟨gr, 0, none⟩), .slice sp m cap, .slice (some ⟨gv, 0, none⟩) nv nv] w (KQ R N gr gw n p0 p1 kv fu gv nv (runL F l s0) w) := by
  have hlen := hS.len
  have hsm := hS.small
  obtain ⟨Q, hQ0⟩ : ∃ Q, runL F l s0 = Q := ⟨_, rfl⟩
  rw [hQ0]
  replace hF0 := hid hF0
  replace hst := hid hst
  replace hFl := hid hFl
  go_enter Try.func28, Try.ntmps28
  go_upto_region 1 with fail
  go_loopw [6] (fun i wr => ∃ (j : Nat) (s : SS) (en : Nat) (va : Int), i = .int .i64 (j : Int) ∧ j ≤ m ∧ KD R N gr gw n p0 p1 kv fu gv nv s (en : Int) va wr ∧ Ch (PD gr gw gv) w wr ∧ Hid (s.lf ≤ s0.lf) ∧ Hid ((en = 0 ∧ va = 0 ∧ runL F (l.drop j) s = Q) ∨ (en ≠ 0 ∧ Q.k = en ∧ Q.s = s ∧ fvB Q = va))) (fun i _ => m - (intOf i).toNat)
  case atStart => exact ⟨0, s0, 0, 0, rfl, by omega, hK, Ch.refl _ _, hid (Nat.le_refl _), hid (.inl ⟨rfl, rfl, hQ0⟩)⟩
  case round =>
    obtain ⟨j, s, en, va, rfl, hj, hKj, hc, hls, hor⟩ := hrel
    have hlow := hK.low hN hc
    have hsz := hc.size
    have c6 := hKj.run.ar.cell 6
    by_cases hen : en = 0
    rotate_left
    · have hfin : Hid (KQ R N gr gw n p0 p1 kv fu gv nv Q w (.returned (.tuple #[])) wr) := by
        rcases hor.out with h | h
        · exact absurd h.1 hen
        · refine hid ⟨rfl, ?_, hc⟩
          rw [h.2.1, h.2.2.1, h.2.2.2]
          exact hKj
      have e6 : ((en : Int) == 0) = false := by simp; omega
      by_cases hlt : j < m
      · have hlt' : (j : Int) < m := by omega
        clear hor hen hS hlow hQ0
        go_wp2_with fail
        go_end0
        exact hfin.out
      · obtain rfl : j = m := by omega
        clear hor hen hS hlow hQ0
        go_wp2_with fail
        go_end0
        exact hfin.out
    obtain ⟨rfl, hr⟩ : va = 0 ∧ runL F (l.drop j) s = Q := by
      rcases hor.out with h | h
      · exact h.2
      · exact absurd hen h.1
    subst hen
    by_cases hlt : j < m
    · have hlt' : (j : Int) < m := by omega
      obtain ⟨t, ht⟩ : ∃ t, l[j]? = some t := ⟨l[j]'(by rw [← hlen.out]; exact hlt), List.getElem?_eq_getElem _⟩
      rw [runL_drop ht] at hr
      have htm := List.mem_of_getElem? ht
      obtain ⟨W, V, lf⟩ := s
      have hle := hKj.le
      replace hle : lf ≤ fu := hle
      have hf4 := hKj.fu4
      cases lf with
      | zero =>
        rw [hF0.out t _ rfl] at hr
        rw [if_neg (by show ¬ (3 : Nat) = 0; omega)] at hr
        have hD0 : DunI gr gw n p0 p1 kv W fu (fu : Int) 0 0 wr := by have := hKj.run; simpa using this
        have htk := take_no wr hD0
        have hnx : Hid (∀ w1, DunI gr gw n p0 p1 kv W fu (fu : Int) 3 0 w1 → Ch (fun k => k = gr) wr w1 → KD R N gr gw n p0 p1 kv fu gv nv ⟨W, V, 0⟩ ((3 : Nat) : Int) 0 w1) := hid fun w1 h1 h2 => hKj.gr' hR (by omega) h2 (lf := 0) (by omega) (by simpa using h1)
        subst hr
        clear hor hS hlow hQ0 ht htm hD0 hKj
        go_wp2_with (go_at_call 36; go_must (refine htk.mono ?_; rintro e w1 ⟨rfl, hD1, hc1⟩))
        go_roundw
        case rel => exact ⟨j + 1, ⟨W, V, 0⟩, 3, 0, by go_num, by omega, hnx.out w1 hD1 hc1, hc.trans (hc1.imp fun k hk => .inl hk), hls, hid (.inr ⟨by omega, rfl, rfl, rfl⟩)⟩
        case measure => simp [intOf]; omega
      | succ k =>
        have hD0 : DunI gr gw n p0 p1 kv W fu ((fu : Int) - ((k + 1 : Nat) : Int)) 0 0 wr := hKj.run
        have htk := take_ok wr hD0 (by omega) (by omega)
        rw [show (fu : Int) - ((k + 1 : Nat) : Int) + 1 = (fu : Int) - (k : Int) by omega] at htk
        obtain ⟨g, off, rfl, hg, hRR⟩ := hS.at0 (by omega)
        obtain ⟨cs, hrg, hM⟩ := hRR j t ht
        have hM1 := StM.below hlow d cs t hM
        have hrg1 := rb hrg hlow hg
        obtain ⟨xk, xv, xf, xt, xa, ya, za, xb, yb, zb, xc, yc, zc, rfl⟩ := hM.cells
        have hstep : Hid (∀ w1, DunI gr gw n p0 p1 kv W fu ((fu : Int) - (k : Int)) 0 0 w1 → Ch (fun k => k = gr) wr w1 → KD R N gr gw n p0 p1 kv fu gv nv ⟨W, V, k⟩ 0 0 w1 ∧ Calls Try.prog 37 (stArgs gr gv nv (stC xk xv xf xt (.slice xa ya za) (.slice xb yb zb) (.slice xc yc zc))) w1 (KQ R N gr gw n p0 p1 kv fu gv nv (F t ⟨W, V, k + 1⟩) w1) ∧ w1.rangeAt g (off + j * 7) (stC xk xv xf xt (.slice xa ya za) (.slice xb yb zb) (.slice xc yc zc))) := hid fun w1 h1 h2 => by
          have hl1 : Below N wr w1 := h2.bl fun i hi => ⟨by omega, by have := hKj.l1; omega⟩
          have hK1 := hKj.gr' hR (by omega) h2 (lf := k) (by omega) h1
          exact ⟨hK1, hst.out t htm W V k w1 _ (by have := hls.out; exact this) (by have := h2.size; omega) hK1 (StM.below hl1 d _ t hM1), rb hrg1 hl1 hg⟩
        have hFl1 := hFl.out t ⟨W, V, k + 1⟩
        replace hFl1 : (F t ⟨W, V, k + 1⟩).s.lf ≤ k + 1 := hFl1
        have hls1 : Hid ((F t ⟨W, V, k + 1⟩).s.lf ≤ s0.lf) := hid (Nat.le_trans hFl1 hls.out)
        have hrr := hid hr
        have hn1 := hKj.n1
        replace hg := hid hg
        clear hor hS hlow hQ0 ht htm hD0 hKj hRR hrg hM hM1 hrg1 hr hFl1
        unfold stArgs at hstep
        unfold stC at hstep
        go_upto_region 4 with (go_at_call 36; go_must (refine htk.mono ?_; rintro e w1 ⟨rfl, hD1, hc1⟩))
        obtain ⟨hK1, hc37, hrg2⟩ := hstep.out w1 hD1 hc1
        have q0 := hrg2 0 _ rfl
        have q1 := hrg2 1 _ rfl
        have q2 := hrg2 2 _ rfl
        have q3 := hrg2 3 _ rfl
        have q4 := hrg2 4 _ rfl
        have q5 := hrg2 5 _ rfl
        have q6 := hrg2 6 _ rfl
        simp only [Nat.add_zero] at q0
        replace hc37 := hid hc37
        clear hrg2 hstep
        go_wp2_with (go_at_call 37; go_must (refine hc37.out.mono ?_; rintro e w2 ⟨rfl, hK2, hc2⟩))
        go_roundw
        case rel =>
          refine ⟨j + 1, _, _, _, by go_num, by omega, hK2, (hc.trans (hc1.imp fun k hk => .inl hk)).trans hc2, hls1, hid ?_⟩
          have hr := hrr.out
          by_cases hk : (F t ⟨W, V, k + 1⟩).k = 0
          · rw [if_pos hk] at hr
            exact .inl ⟨hk, fvB_n (by omega), hr⟩
          · rw [if_neg hk] at hr
            rw [← hr]
            exact .inr ⟨hk, rfl, rfl, rfl⟩
        case measure => simp [intOf]; omega
    · obtain rfl : j = m := by omega
      rw [List.drop_eq_nil_of_le (by rw [hlen.out]; exact Nat.le_refl _)] at hr
      replace hr : (⟨0, 0, s⟩ : RR) = Q := hr
      clear hor hS hlow hQ0
      go_wp2_with fail
      go_end0
      subst hr
      exact ⟨rfl, hKj, hc⟩
end Go.Proofs.Ytmljihggooaboaa
/- Layer interp: the document's statements. -/
namespace Go.Proofs.Ytmljihggooaboaa
open Go.RowKit
set_option maxRecDepth 100000
set_option linter.unusedVariables false
set_option linter.unusedSimpArgs false

theorem ownCh {w w' : World} {P : Nat → Prop} {b e s n : Nat} {v : Value} {xs : List Value} (h : w.ownsRow b e s v n xs) (hc : Ch P w w') (hP : ∀ k, P k → k < b) : w'.ownsRow b e s v n xs := by
  obtain ⟨hl, h' | ⟨g, cap, cur, e1, hg, hh, r⟩⟩ := h
  · exact ⟨hl, .inl h'⟩
  · exact ⟨hl, .inr ⟨g, cap, cur, e1, hg, (hc.block g (Array.getElem?_eq_some_iff.1 hh).1 (fun h => by have := hP g h; omega)).trans hh, r⟩⟩
theorem own_pos {w : World} {base n : Nat} {v : Value} {L : List Int} (h : w.ownsRow base 30 1 v n (uL L)) (h0 : 0 < n) : ∃ g c, v = .slice (some ⟨g, 0, none⟩) n c ∧ base ≤ g ∧ g < w.heap.size ∧ ∀ i x, L[i]? = some x → w.cell? ⟨g, i, none⟩ = some (.int .u64 x) := by
  obtain ⟨hl, h | ⟨g, cap, cur, rfl, hg, hh, hn, hm, hc, ht⟩⟩ := h
  · omega
  · refine ⟨g, cap, rfl, hg, (Array.getElem?_eq_some_iff.1 hh).1, fun i x hx => ?_⟩
    have hi := (List.getElem?_eq_some_iff.1 hx).1
    have hl2 : L.length = n := by unfold uL at hl; rw [List.length_map, Nat.mul_one] at hl; exact hl
    rw [cell_of_row w g i cur 30 (0, 0) hh, ← Array.getElem?_toList, ← List.getElem?_take_of_lt (show i < n * 1 by omega), ht, uL, List.getElem?_map, hx]
    rfl
theorem Ch.upto {S : Nat → Prop} {a b c : World} (h : Ch S a b) (hb : Below a.heap.size b c) : Ch S a c := ⟨hb.os.trans h.os, hb.tape.trans h.tape, hb.output.trans h.output, Nat.le_trans h.size hb.size, fun i hi hs => (hb.block i hi).trans (h.block i hi hs)⟩
theorem KD.upto {R : World → Prop} {N gr gw n : Nat} {p0 p1 kv : Value} {fu gv nv : Nat} {s : SS} {en va : Int} {B : Nat} {w w' : World} (h : KD R N gr gw n p0 p1 kv fu gv nv s en va w) (hR : RB R N) (h1 : gr < B) (h2 : gw < B) (h3 : gv < B) (hN : N ≤ B) (hb : Below B w w') : KD R N gr gw n p0 p1 kv fu gv nv s en va w' :=
  ⟨⟨h.run.ar.below hb h1, h.run.aw.below hb h2, h.run.ne, h.run.len, h.run.n10, h.run.wU⟩, ⟨h.var.av.below hb h3, h.var.len, h.var.n64, h.var.vU⟩, h.n1, h.n2, h.l1, h.l2, h.l3, hR _ _ (hb.mono hN) h.r, h.le, h.fu4⟩
variable {R : World → Prop} {N gr gw n : Nat} {p0 p1 kv : Value} {fu gv nv : Nat} {W V : List Int} {d k : Nat} {t : StT (d + 1)} {cs : List Value} {ps : List Int}
set_option maxHeartbeats 4000000 in
theorem dst_trap  (hR : RB R N) (w : World) (hN : N ≤ w.heap.size) (hK : KD R N gr gw n p0 p1 kv fu gv nv ⟨W, V, k⟩ 0 0 w) (hM : StM N w (d + 1) cs t) (hok : okS ps nv (d + 1) t) (hps : ∀ p ∈ ps, p ≤ 64) (hkk : t.nd.k ≠ 4) (hev : evs W V 8 t.nd.a = none) :
    Calls Try.prog 37 (stArgs gr gv nv cs) w (KQ R N gr gw n p0 p1 kv fu gv nv ⟨2, 0, ⟨W, V, k⟩⟩ w) := by
  obtain ⟨hmy, hoa, hob, hoe⟩ := okS_s hok
  obtain ⟨sa, na, ca, sb, nb, cb, sc, nc, cc, hcs, hk0, hSa, hSb, hSc⟩ := hM
  subst hcs
  have hna : na ≤ 64 := by rw [hSa.len.out]; exact fewS hps hmy
  have b0 := ab w (.cells #[.int .u8 t.nd.k, .int .i64 t.nd.v, .int .i64 t.nd.f, .int .i64 t.nd.t, .slice sa na ca, .slice sb nb cb, .slice sc nc cc] 78)
  have hK0 := hK.bl hR hN b0
  have A := Arr.new w 78 #[.int .u8 t.nd.k, .int .i64 t.nd.v, .int .i64 t.nd.f, .int .i64 t.nd.t, .slice sa na ca, .slice sb nb cb, .slice sc nc cc]
  have hwg : w.heap.size ≠ gr ∧ w.heap.size ≠ gw ∧ w.heap.size ≠ gv := by have := hK.run.ar.lt; have := hK.run.aw.lt; have := hK.var.av.lt; omega
  have hgrU := hK0.run.ar.lt
  have hgwU := hK0.run.aw.lt
  have hgvU := hK0.var.av.lt
  have hlen := hSa.len
  have hSa0 := hSa.imp (b0.mono hN) (ExM.below (b0.mono hN) 8)
  have hSb0 := hSb.imp (b0.mono hN) (StM.below (b0.mono hN) d)
  have hSc0 := hSc.imp (b0.mono hN) (StM.below (b0.mono hN) d)
  have hcw0 : Ch (PD gr gw gv) w (w.alloc (.cells #[.int .u8 t.nd.k, .int .i64 t.nd.v, .int .i64 t.nd.f, .int .i64 t.nd.t, .slice sa na ca, .slice sb nb cb, .slice sc nc cc] 78)) := Ch.ob b0
  have hNU : N ≤ (w.alloc (.cells #[.int .u8 t.nd.k, .int .i64 t.nd.v, .int .i64 t.nd.f, .int .i64 t.nd.t, .slice sa na ca, .slice sb nb cb, .slice sc nc cc] 78)).heap.size := by simp; omega
  clear hSa hSb hSc hK b0
  unfold stArgs
  unfold stC
  have e4 : (t.nd.k == 4) = false := by simp; omega
  replace hkk := hid hkk
  replace hev := hid hev
  have k0 := A.cell 0
  go_enter Try.func37, Try.ntmps37
  go_upto_region 7 with fail
  generalize hUU : w.alloc (.cells #[.int .u8 t.nd.k, .int .i64 t.nd.v, .int .i64 t.nd.f, .int .i64 t.nd.t, .slice sa na ca, .slice sb nb cb, .slice sc nc cc] 78) = U at *
  clear hUU k0
  have o0 : U.ownsRow U.heap.size 30 1 (.slice none 0 0) 0 (uL []) := World.ownsRow_nil _ _ _ _
  go_loopw [6, 7] (fun v i wr => ∃ (j : Nat) (X : List Int) (en : Int), i = .int .i64 (j : Int) ∧ j ≤ na ∧ X.length = j ∧ wr.ownsRow U.heap.size 30 1 v j (uL X) ∧ KD R N gr gw n p0 p1 kv fu gv nv ⟨W, V, k⟩ en 0 wr ∧ Ch (fun k => k = gr) U wr ∧ Hid ((en = 0 ∧ evs W V 8 t.nd.a = (evs W V 8 (t.nd.a.drop j)).map (X ++ ·)) ∨ (en = 2 ∧ evs W V 8 t.nd.a = none))) (fun _ i _ => na - (intOf i).toNat)
  case atStart => exact ⟨0, [], 0, rfl, by omega, rfl, o0, hK0, Ch.refl _ _, hid (.inl ⟨rfl, by rw [List.drop_zero]; cases evs W V 8 t.nd.a <;> rfl⟩)⟩
  case round =>
    clear o0
    obtain ⟨j, X, en, rfl, hj, hXl, ho, hKe, hcu, hor⟩ := hrel
    have k4 := (hcu.arr A hwg.1).cell 4
    have hcs := hcu.size
    have hlow : Below N U wr := hcu.bl fun i hi => ⟨by omega, by have := hKe.l1; omega⟩
    by_cases hlt : j < na
    · have hlt' : (j : Int) < na := by omega
      obtain ⟨a, ha⟩ : ∃ a, t.nd.a[j]? = some a := ⟨t.nd.a[j]'(by rw [← hlen.out]; exact hlt), List.getElem?_eq_getElem _⟩
      have hfd := evs_drop (W := W) (V := V) ha
      obtain ⟨g, off, rfl, hg, hRg⟩ := hSa0.at0 (by omega)
      obtain ⟨cs, hrg, hMa⟩ := hRg j a ha
      have hrg2 := rb hrg hlow hg
      have hMa2 := ExM.below hlow 8 cs a hMa
      obtain ⟨ka, na2, va2, oa, spa, ma, capa, rfl⟩ := hMa.five
      have q0 := hrg2 0 _ rfl
      have q1 := hrg2 1 _ rfl
      have q2 := hrg2 2 _ rfl
      have q3 := hrg2 3 _ rfl
      have q4 := hrg2 4 _ rfl
      simp only [Nat.add_zero] at q0
      have hoka := hoa a (List.mem_of_getElem? ha)
      replace hg := hid hg
      by_cases hen : en = 0
      · subst hen
        have hcc := hid (dval_any hKe.n1 hKe.l1 8 wr _ a (by omega) hKe.run hKe.var hMa2 hoka)
        have hor2 : evs W V 8 t.nd.a = (evs W V 8 (t.nd.a.drop j)).map (X ++ ·) := by
          rcases hor.out with h | h
          · exact h.2
          · exact absurd h.1 (by omega)
        have hnx : Hid (∀ z, (∀ x, evX W V 8 a = some x → z = x) → (enO (evX W V 8 a) = 0 ∧ evs W V 8 t.nd.a = (evs W V 8 (t.nd.a.drop (j + 1))).map ((X ++ [z]) ++ ·)) ∨ (enO (evX W V 8 a) = 2 ∧ evs W V 8 t.nd.a = none)) := hid fun z hz => by
          cases hx : evX W V 8 a with
          | none => exact .inr ⟨rfl, by rw [hor2, hfd, hx]; rfl⟩
          | some x => exact .inl ⟨rfl, by rw [hor2, hfd, hx, hz x hx]; show Option.map _ (Option.map _ _) = _; cases evs W V 8 (t.nd.a.drop (j + 1)) <;> simp⟩
        have hkd : Hid (∀ w1, DunI gr gw n p0 p1 kv W fu ((fu : Int) - k) (enO (evX W V 8 a)) 0 w1 → Ch (fun k => k = gr) wr w1 → KD R N gr gw n p0 p1 kv fu gv nv ⟨W, V, k⟩ (enO (evX W V 8 a)) 0 w1) := hid fun w1 h1 h2 => hKe.gr' hR (by omega) h2 hKe.le h1
        clear hor hor2 hfd hRg hrg hrg2 hMa hMa2 hoka ha hKe hSa0
        generalize evX W V 8 a = ra at *
        go_wp2_with (first
          | (go_at_call 49; go_must (refine hcc.out.mono ?_; rintro e w1 ⟨z, rfl, hz, hzx, hD1, hc1⟩; have hs1 := hc1.size; have ho2 := ownCh ho hc1 (fun k hk => by omega); have cx := (Arr.new w1 30 #[.int .u64 z]).cell 0; have ho3 := ownBl ho2 (ab w1 (.cells #[.int .u64 z] 30))))
          | (at_builtin; go_must (refine ap64 (by rfl) (.tmp 53) (.tmp 62) (by rfl) U.heap.size _ j X (by rfl) ho3 w1.heap.size z (by rfl) cx (by omega) (by simp; omega) ?_; intro v1 w2 ho4 hg4)))
        go_roundw
        case rel =>
          have hbB : Below U.heap.size w1 w2 := ((Below.refl _ w1).alloc (by omega) _).grown hg4 (by simp; omega) (fun k e => ownGe ho3 k e)
          exact ⟨j + 1, X ++ [z], enO ra, by go_num, by omega, by simp [hXl], ho4, (hkd.out w1 hD1 hc1).upto hR hgrU hgwU hgvU hNU hbB, (hcu.trans hc1).upto hbB, hid (hnx.out z hzx.out)⟩
        case measure => simp [intOf]; omega
      · have hor2 : en = 2 ∧ evs W V 8 t.nd.a = none := by
          rcases hor.out with h | h
          · exact absurd h.1 hen
          · exact h
        obtain ⟨rfl, hvn⟩ := hor2
        have hcc := hid (expr_off (k := ka) (nn := na2) (v := va2) (o := oa) (sv := .slice spa ma capa) (va2 := .slice (some ⟨gv, 0, none⟩) nv nv) wr hKe.run (by omega))
        have hkd : Hid (∀ w1, Below wr.heap.size wr w1 → KD R N gr gw n p0 p1 kv fu gv nv ⟨W, V, k⟩ 2 0 w1) := hid fun w1 h1 => hKe.bl hR (by omega) h1
        replace hvn := hid hvn
        clear hor hen hfd hRg hrg hrg2 hMa hMa2 hoka ha hKe hSa0
        go_wp2_with (first
          | (go_at_call 49; go_must (refine hcc.out.mono ?_; rintro e w1 ⟨rfl, hb1⟩; have hs1 := hb1.size; have ho2 := ownBl ho hb1; have cx := (Arr.new w1 30 #[.int .u64 0]).cell 0; have ho3 := ownBl ho2 (ab w1 (.cells #[.int .u64 0] 30))))
          | (at_builtin; go_must (refine ap64 (by rfl) (.tmp 53) (.tmp 62) (by rfl) U.heap.size _ j X (by rfl) ho3 w1.heap.size 0 (by rfl) cx (by omega) (by simp; omega) ?_; intro v1 w2 ho4 hg4)))
        go_roundw
        case rel =>
          have hbB : Below U.heap.size w1 w2 := ((Below.refl _ w1).alloc (by omega) _).grown hg4 (by simp; omega) (fun k e => ownGe ho3 k e)
          exact ⟨j + 1, X ++ [0], 2, by go_num, by omega, by simp [hXl], ho4, (hkd.out w1 hb1).upto hR hgrU hgwU hgvU hNU hbB, (hcu.trans (Ch.ob hb1)).upto hbB, hid (.inr ⟨rfl, hvn.out⟩)⟩
        case measure => simp [intOf]; omega
    · obtain rfl : j = na := by omega
      have hen : en = 2 := by
        rcases hor.out with h | h
        · have := h.2; rw [hev.out, List.drop_eq_nil_of_le (by rw [← hlen.out]; exact Nat.le_refl _)] at this; cases this
        · exact h.1
      subst hen
      have c6 := hKe.run.ar.cell 6
      clear hor
      go_wp2_with fail
      go_end0
      exact ⟨rfl, hKe, hcw0.trans (hcu.imp fun k hk => .inl hk)⟩
end Go.Proofs.Ytmljihggooaboaa
/- Layer interp: the document's statements that set, store, choose, return. -/
namespace Go.Proofs.Ytmljihggooaboaa
open Go.RowKit
set_option maxRecDepth 100000
set_option linter.unusedVariables false
set_option linter.unusedSimpArgs false

variable {R : World → Prop} {N gr gw n : Nat} {p0 p1 kv : Value} {fu gv nv : Nat} {W V : List Int} {d k : Nat} {t : StT (d + 1)} {cs : List Value} {ps : List Int}
set_option maxHeartbeats 4000000 in
theorem dst_set {x : Int} {j0 : Nat} (hR : RB R N) (w : World) (hN : N ≤ w.heap.size) (hK : KD R N gr gw n p0 p1 kv fu gv nv ⟨W, V, k⟩ 0 0 w) (hM : StM N w (d + 1) cs t) (hok : okS ps nv (d + 1) t) (hps : ∀ p ∈ ps, p ≤ 64) (hkk : t.nd.k = 1) (hj : t.nd.v = j0) (hjn : j0 < nv) (hev : evs W V 8 t.nd.a = some [x]) (hxU : U64 x) :
    Calls Try.prog 37 (stArgs gr gv nv cs) w (KQ R N gr gw n p0 p1 kv fu gv nv ⟨0, 0, ⟨W, V.set j0 x, k⟩⟩ w) := by
  obtain ⟨hmy, hoa, hob, hoe⟩ := okS_s hok
  obtain ⟨sa, na, ca, sb, nb, cb, sc, nc, cc, hcs, hk0, hSa, hSb, hSc⟩ := hM
  rw [hj] at hcs
  subst hcs
  have hna : na ≤ 64 := by rw [hSa.len.out]; exact fewS hps hmy
  have b0 := ab w (.cells #[.int .u8 t.nd.k, .int .i64 (j0 : Int), .int .i64 t.nd.f, .int .i64 t.nd.t, .slice sa na ca, .slice sb nb cb, .slice sc nc cc] 78)
  have hK0 := hK.bl hR hN b0
  have A := Arr.new w 78 #[.int .u8 t.nd.k, .int .i64 (j0 : Int), .int .i64 t.nd.f, .int .i64 t.nd.t, .slice sa na ca, .slice sb nb cb, .slice sc nc cc]
  have hwg : w.heap.size ≠ gr ∧ w.heap.size ≠ gw ∧ w.heap.size ≠ gv := by have := hK.run.ar.lt; have := hK.run.aw.lt; have := hK.var.av.lt; omega
  have hgrU := hK0.run.ar.lt
  have hgwU := hK0.run.aw.lt
  have hgvU := hK0.var.av.lt
  have hlen := hSa.len
  have hSa0 := hSa.imp (b0.mono hN) (ExM.below (b0.mono hN) 8)
  have hSb0 := hSb.imp (b0.mono hN) (StM.below (b0.mono hN) d)
  have hSc0 := hSc.imp (b0.mono hN) (StM.below (b0.mono hN) d)
  have hcw0 : Ch (PD gr gw gv) w (w.alloc (.cells #[.int .u8 t.nd.k, .int .i64 (j0 : Int), .int .i64 t.nd.f, .int .i64 t.nd.t, .slice sa na ca, .slice sb nb cb, .slice sc nc cc] 78)) := Ch.ob b0
  have hNU : N ≤ (w.alloc (.cells #[.int .u8 t.nd.k, .int .i64 (j0 : Int), .int .i64 t.nd.f, .int .i64 t.nd.t, .slice sa na ca, .slice sb nb cb, .slice sc nc cc] 78)).heap.size := by simp; omega
  clear hSa hSb hSc hK b0
  unfold stArgs
  unfold stC
  have e4 : (t.nd.k == 4) = false := by simp; omega
  replace hkk := hid hkk
  replace hev := hid hev
  have k0 := A.cell 0
  go_enter Try.func37, Try.ntmps37
  go_upto_region 7 with fail
  generalize hUU : w.alloc (.cells #[.int .u8 t.nd.k, .int .i64 (j0 : Int), .int .i64 t.nd.f, .int .i64 t.nd.t, .slice sa na ca, .slice sb nb cb, .slice sc nc cc] 78) = U at *
  clear hUU k0
  have o0 : U.ownsRow U.heap.size 30 1 (.slice none 0 0) 0 (uL []) := World.ownsRow_nil _ _ _ _
  go_loopw [6, 7] (fun v i wr => ∃ (j : Nat) (X : List Int) (en : Int), i = .int .i64 (j : Int) ∧ j ≤ na ∧ X.length = j ∧ wr.ownsRow U.heap.size 30 1 v j (uL X) ∧ KD R N gr gw n p0 p1 kv fu gv nv ⟨W, V, k⟩ en 0 wr ∧ Ch (fun k => k = gr) U wr ∧ Hid ((en = 0 ∧ evs W V 8 t.nd.a = (evs W V 8 (t.nd.a.drop j)).map (X ++ ·)) ∨ (en = 2 ∧ evs W V 8 t.nd.a = none))) (fun _ i _ => na - (intOf i).toNat)
  case atStart => exact ⟨0, [], 0, rfl, by omega, rfl, o0, hK0, Ch.refl _ _, hid (.inl ⟨rfl, by rw [List.drop_zero]; cases evs W V 8 t.nd.a <;> rfl⟩)⟩
  case round =>
    clear o0
    obtain ⟨j, X, en, rfl, hj, hXl, ho, hKe, hcu, hor⟩ := hrel
    have k4 := (hcu.arr A hwg.1).cell 4
    have hcs := hcu.size
    have hlow : Below N U wr := hcu.bl fun i hi => ⟨by omega, by have := hKe.l1; omega⟩
    by_cases hlt : j < na
    · have hlt' : (j : Int) < na := by omega
      obtain ⟨a, ha⟩ : ∃ a, t.nd.a[j]? = some a := ⟨t.nd.a[j]'(by rw [← hlen.out]; exact hlt), List.getElem?_eq_getElem _⟩
      have hfd := evs_drop (W := W) (V := V) ha
      obtain ⟨g, off, rfl, hg, hRg⟩ := hSa0.at0 (by omega)
      obtain ⟨cs, hrg, hMa⟩ := hRg j a ha
      have hrg2 := rb hrg hlow hg
      have hMa2 := ExM.below hlow 8 cs a hMa
      obtain ⟨ka, na2, va2, oa, spa, ma, capa, rfl⟩ := hMa.five
      have q0 := hrg2 0 _ rfl
      have q1 := hrg2 1 _ rfl
      have q2 := hrg2 2 _ rfl
      have q3 := hrg2 3 _ rfl
      have q4 := hrg2 4 _ rfl
      simp only [Nat.add_zero] at q0
      have hoka := hoa a (List.mem_of_getElem? ha)
      replace hg := hid hg
      by_cases hen : en = 0
      · subst hen
        have hcc := hid (dval_any hKe.n1 hKe.l1 8 wr _ a (by omega) hKe.run hKe.var hMa2 hoka)
        have hor2 : evs W V 8 t.nd.a = (evs W V 8 (t.nd.a.drop j)).map (X ++ ·) := by
          rcases hor.out with h | h
          · exact h.2
          · exact absurd h.1 (by omega)
        have hnx : Hid (∀ z, (∀ x, evX W V 8 a = some x → z = x) → (enO (evX W V 8 a) = 0 ∧ evs W V 8 t.nd.a = (evs W V 8 (t.nd.a.drop (j + 1))).map ((X ++ [z]) ++ ·)) ∨ (enO (evX W V 8 a) = 2 ∧ evs W V 8 t.nd.a = none)) := hid fun z hz => by
          cases hx : evX W V 8 a with
          | none => exact .inr ⟨rfl, by rw [hor2, hfd, hx]; rfl⟩
          | some x => exact .inl ⟨rfl, by rw [hor2, hfd, hx, hz x hx]; show Option.map _ (Option.map _ _) = _; cases evs W V 8 (t.nd.a.drop (j + 1)) <;> simp⟩
        have hkd : Hid (∀ w1, DunI gr gw n p0 p1 kv W fu ((fu : Int) - k) (enO (evX W V 8 a)) 0 w1 → Ch (fun k => k = gr) wr w1 → KD R N gr gw n p0 p1 kv fu gv nv ⟨W, V, k⟩ (enO (evX W V 8 a)) 0 w1) := hid fun w1 h1 h2 => hKe.gr' hR (by omega) h2 hKe.le h1
        clear hor hor2 hfd hRg hrg hrg2 hMa hMa2 hoka ha hKe hSa0
        generalize evX W V 8 a = ra at *
        go_wp2_with (first
          | (go_at_call 49; go_must (refine hcc.out.mono ?_; rintro e w1 ⟨z, rfl, hz, hzx, hD1, hc1⟩; have hs1 := hc1.size; have ho2 := ownCh ho hc1 (fun k hk => by omega); have cx := (Arr.new w1 30 #[.int .u64 z]).cell 0; have ho3 := ownBl ho2 (ab w1 (.cells #[.int .u64 z] 30))))
          | (at_builtin; go_must (refine ap64 (by rfl) (.tmp 53) (.tmp 62) (by rfl) U.heap.size _ j X (by rfl) ho3 w1.heap.size z (by rfl) cx (by omega) (by simp; omega) ?_; intro v1 w2 ho4 hg4)))
        go_roundw
        case rel =>
          have hbB : Below U.heap.size w1 w2 := ((Below.refl _ w1).alloc (by omega) _).grown hg4 (by simp; omega) (fun k e => ownGe ho3 k e)
          exact ⟨j + 1, X ++ [z], enO ra, by go_num, by omega, by simp [hXl], ho4, (hkd.out w1 hD1 hc1).upto hR hgrU hgwU hgvU hNU hbB, (hcu.trans hc1).upto hbB, hid (hnx.out z hzx.out)⟩
        case measure => simp [intOf]; omega
      · have hor2 : en = 2 ∧ evs W V 8 t.nd.a = none := by
          rcases hor.out with h | h
          · exact absurd h.1 hen
          · exact h
        obtain ⟨rfl, hvn⟩ := hor2
        have hcc := hid (expr_off (k := ka) (nn := na2) (v := va2) (o := oa) (sv := .slice spa ma capa) (va2 := .slice (some ⟨gv, 0, none⟩) nv nv) wr hKe.run (by omega))
        have hkd : Hid (∀ w1, Below wr.heap.size wr w1 → KD R N gr gw n p0 p1 kv fu gv nv ⟨W, V, k⟩ 2 0 w1) := hid fun w1 h1 => hKe.bl hR (by omega) h1
        replace hvn := hid hvn
        clear hor hen hfd hRg hrg hrg2 hMa hMa2 hoka ha hKe hSa0
        go_wp2_with (first
          | (go_at_call 49; go_must (refine hcc.out.mono ?_; rintro e w1 ⟨rfl, hb1⟩; have hs1 := hb1.size; have ho2 := ownBl ho hb1; have cx := (Arr.new w1 30 #[.int .u64 0]).cell 0; have ho3 := ownBl ho2 (ab w1 (.cells #[.int .u64 0] 30))))
          | (at_builtin; go_must (refine ap64 (by rfl) (.tmp 53) (.tmp 62) (by rfl) U.heap.size _ j X (by rfl) ho3 w1.heap.size 0 (by rfl) cx (by omega) (by simp; omega) ?_; intro v1 w2 ho4 hg4)))
        go_roundw
        case rel =>
          have hbB : Below U.heap.size w1 w2 := ((Below.refl _ w1).alloc (by omega) _).grown hg4 (by simp; omega) (fun k e => ownGe ho3 k e)
          exact ⟨j + 1, X ++ [0], 2, by go_num, by omega, by simp [hXl], ho4, (hkd.out w1 hb1).upto hR hgrU hgwU hgvU hNU hbB, (hcu.trans (Ch.ob hb1)).upto hbB, hid (.inr ⟨rfl, hvn.out⟩)⟩
        case measure => simp [intOf]; omega
    · obtain rfl : j = na := by omega
      obtain ⟨rfl, rfl⟩ : en = 0 ∧ X = [x] := by
        rcases hor.out with h | h
        · have h2 := h.2
          rw [hev.out, List.drop_eq_nil_of_le (by rw [← hlen.out]; exact Nat.le_refl _)] at h2
          replace h2 : some [x] = some (X ++ []) := h2
          simp at h2
          exact ⟨h.1, h2.symm⟩
        · have h2 := h.2; rw [hev.out] at h2; cases h2
      have c6 := hKe.run.ar.cell 6
      have A' := hcu.arr A hwg.1
      have k0 := A'.cell 0
      have hcP : Ch (PD gr gw gv) w wr := hcw0.trans (hcu.imp fun k hk => .inl hk)
      have hNw : N ≤ wr.heap.size := by omega
      have e1 : (t.nd.k == 1) = true := by have := hkk.out; simp; omega
      have hna1 : j = 1 := by simpa using hXl.symm
      subst hna1
      obtain ⟨g, c, rfl, hgU, hgl, hcl⟩ := own_pos ho (by omega)
      have x0 := hcl 0 x rfl
      have k1 : wr.cell? ⟨w.heap.size, 1, none⟩ = some (.int .i64 (j0 : Int)) := A'.cell 1
      have hjn' : (j0 : Int) < nv := by omega
      have hn64 := hKe.var.n64
      have vc := hKe.var.av.cell j0
      rw [uA_get (by rw [hKe.var.len.out]; exact hjn)] at vc
      have vf := hKe.var.av.frozen j0
      have hgv : g ≠ gv := by omega
      have hwv := hwg.2.2
      have hfin : Hid (KQ R N gr gw n p0 p1 kv fu gv nv ⟨0, 0, ⟨W, V.set j0 x, k⟩⟩ w (.returned (.tuple #[])) (wr.setCell ⟨gv, j0, none⟩ (.int .u64 x)).drew) := hid ⟨rfl, ⟨⟨(hKe.run.ar.setOther _ hKe.n1).drew, (hKe.run.aw.setOther _ hKe.n2).drew, hKe.run.ne, hKe.run.len, hKe.run.n10, hKe.run.wU⟩, ⟨by rw [← uA_set]; exact (hKe.var.av.set j0 _).drew, hid (by rw [List.length_set]; exact hKe.var.len.out), hKe.var.n64, U_set hKe.var.vU hxU⟩, hKe.n1, hKe.n2, hKe.l1, hKe.l2, hKe.l3, hR _ _ (((Ch.refl (fun k => k = gv) wr).st (g := gv) (j := j0) (.int .u64 x) (fun _ => rfl)).dw.bl fun i hi => ⟨by omega, by have := hKe.l3; omega⟩) hKe.r, hKe.le, hKe.fu4⟩, (hcP.st (g := gv) (j := j0) (.int .u64 x) (fun _ => .inr (.inr rfl))).dw⟩
      clear hor hKe hcl ho hSa0 hSb0 hSc0
      generalize V.getD j0 0 = old at *
      go_upto_region 13 with fail
      go_region
      go_wp2_with fail
      go_end0
      exact hfin.out
end Go.Proofs.Ytmljihggooaboaa
