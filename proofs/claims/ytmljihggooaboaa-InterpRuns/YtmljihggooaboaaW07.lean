/- Ik, Il, Im, In0. -/
import Derived.Test.YtmljihggooaboaaW06
import Derived.Handy
import Derived.BigQuiet
import Derived.BigRegion
import Derived.Laws.MakeOwn
import Derived.Laws.CopyOwn
import Derived.Laws.Rows
/- Layer interp: statements that set and store. -/
namespace Go.Proofs.Ytmljihggooaboaa
open Go.RowKit
set_option maxRecDepth 100000
set_option linter.unusedVariables false
set_option linter.unusedSimpArgs false

variable {N gr gw n : Nat} {p0 p1 kv mv : Value} {gv nv : Nat} {W V : List Int} {lf : Int} {d : Nat} {t : StT (d + 1)} {cs : List Value}
def stArgs (gr gv nv : Nat) (cs : List Value) : Array Value := #[.pointer (some ⟨gr, 0, none⟩), .agg cs.toArray, .slice (some ⟨gv, 0, none⟩) nv nv]
set_option maxHeartbeats 1000000 in
theorem stmt_spent (w : World) (hI : StI N gr gw n p0 p1 kv mv gv nv W V 0 w) (hM : StM N w (d + 1) cs t) :
    Calls Try.prog 35 (stArgs gr gv nv cs) w (StP N gr gw n p0 p1 kv mv gv nv ⟨3, 0, ⟨W, V, 0⟩⟩ w) := by
  obtain ⟨sa, na, ca, sb, nb, cb, sc, nc, cc, rfl, -⟩ := hM
  have b0 := ab w (.cells (stC t.nd.k t.nd.v t.nd.f t.nd.t (.slice sa na ca) (.slice sb nb cb) (.slice sc nc cc)).toArray 78)
  have hI1 := hI.bl b0
  have hbn := burn_no _ hI1.run
  clear hI
  unfold stArgs
  unfold stC at *
  go_enter Try.func35, Try.ntmps35
  go_wp2_with (go_at_call 42; go_must (refine hbn.mono ?_; rintro e w1 ⟨rfl, h⟩; replace h := h.symm; subst h))
  exact ⟨rfl, rfl, hI1, Ch.ob b0⟩
/-- Behind burn and the arguments. -/
theorem begun {k : Nat} {sa : Option Addr} {na ca : Nat} {l : List (ExT 8)} (w : World) (hN : N ≤ w.heap.size) (hI : StI N gr gw n p0 p1 kv mv gv nv W V ((k + 1 : Nat) : Int) w) (hS : RS N w 5 (ExM N w 8) sa na ca l) (hok : ∀ a ∈ l, okX nv 8 a) (hna : na ≤ 64) :
    StI N gr gw n p0 p1 kv mv gv nv W V (k : Int) (w.setCell ⟨gr, 3, none⟩ (.int .i64 (k : Int))) ∧ Calls Try.prog 43 #[.pointer (some ⟨gr, 0, none⟩), .slice sa na ca, .slice (some ⟨gv, 0, none⟩) nv nv] (w.setCell ⟨gr, 3, none⟩ (.int .i64 (k : Int))) (VsP (evs W V 8 l) (w.setCell ⟨gr, 3, none⟩ (.int .i64 (k : Int)))) := by
  have hc : Ch (fun k => k = gr ∨ k = gw ∨ k = gv) w (w.setCell ⟨gr, 3, none⟩ (.int .i64 (k : Int))) := (Ch.refl _ w).st _ (fun _ => .inl rfl)
  have hI2 : StI N gr gw n p0 p1 kv mv gv nv W V (k : Int) (w.setCell ⟨gr, 3, none⟩ (.int .i64 (k : Int))) :=
    ⟨⟨hI.run.ar.set 3 _, hI.run.aw.setOther _ (fun e => hI.run.ne e.symm), hI.run.ne, hI.run.len, hI.run.n10, hI.run.wU⟩, ⟨hI.var.av.setOther _ (fun e => hI.n1 e.symm), hI.var.len, hI.var.n64, hI.var.vU⟩, hI.n1, hI.n2, hI.l1, hI.l2, hI.l3⟩
  have hl := hI.low hN hc
  exact ⟨hI2, values_any (d := 8) _ (by have := hl.size; omega) hI2.run hI2.var (hS.imp hl (ExM.below hl 8)) hok (by omega)⟩
set_option maxHeartbeats 1000000 in
theorem stmt_trap {k : Nat} {ps : List Int} (w : World) (hN : N ≤ w.heap.size) (hI : StI N gr gw n p0 p1 kv mv gv nv W V ((k + 1 : Nat) : Int) w) (hk : k ≤ 4194304) (hM : StM N w (d + 1) cs t) (hok : okS ps nv (d + 1) t) (hps : ∀ p ∈ ps, p ≤ 64) (hev : evs W V 8 t.nd.a = none) :
    Calls Try.prog 35 (stArgs gr gv nv cs) w (StP N gr gw n p0 p1 kv mv gv nv ⟨2, 0, ⟨W, V, k⟩⟩ w) := by
  obtain ⟨hmy, hoa, -, -⟩ := okS_s hok
  obtain ⟨sa, na, ca, sb, nb, cb, sc, nc, cc, rfl, hk0, hSa, -⟩ := hM
  have b0 := ab w (.cells (stC t.nd.k t.nd.v t.nd.f t.nd.t (.slice sa na ca) (.slice sb nb cb) (.slice sc nc cc)).toArray 78)
  have hI1 := hI.bl b0
  have hbn := burn_ok _ hI1.run hk
  obtain ⟨hI2, hvs⟩ := begun (k := k) _ (by simp; omega) hI1 (hSa.imp (b0.mono hN) (ExM.below (b0.mono hN) 8)) hoa (by rw [hSa.len.out]; exact fewS hps hmy)
  have A := (Arr.new w 78 (stC t.nd.k t.nd.v t.nd.f t.nd.t (.slice sa na ca) (.slice sb nb cb) (.slice sc nc cc)).toArray).setOther (a := ⟨gr, 3, none⟩) (.int .i64 (k : Int)) (by have := hI.run.ar.lt; show w.heap.size ≠ gr; omega)
  have a4 := A.cell 4
  have hc : Ch (fun k => k = gr ∨ k = gw ∨ k = gv) w ((w.alloc (.cells (stC t.nd.k t.nd.v t.nd.f t.nd.t (.slice sa na ca) (.slice sb nb cb) (.slice sc nc cc)).toArray 78)).setCell ⟨gr, 3, none⟩ (.int .i64 (k : Int))) := (Ch.ob b0).st _ (fun _ => .inl rfl)
  rw [hev] at hvs
  clear hI hSa hoa hmy hok hI1 A
  unfold stArgs
  generalize hQ : ((w.alloc (.cells (stC t.nd.k t.nd.v t.nd.f t.nd.t (.slice sa na ca) (.slice sb nb cb) (.slice sc nc cc)).toArray 78)).setCell ⟨gr, 3, none⟩ (.int .i64 (k : Int))) = Q at *
  unfold stC at *
  go_enter Try.func35, Try.ntmps35
  go_wp2_with (first
    | (go_at_call 42; go_must (refine hbn.mono ?_; rintro e w1 ⟨rfl, h, -⟩; replace h := h.symm; subst h))
    | (go_at_call 43; go_must (refine hvs.mono ?_; rintro e w2 ⟨-, hn, hb2⟩; have hn' := hn rfl; subst hn')))
  exact ⟨rfl, rfl, hI2.bl hb2, hc.trans (Ch.ob hb2)⟩
set_option maxHeartbeats 1000000 in
theorem stmt_set {k : Nat} {ps : List Int} {x : Int} (w : World) (hN : N ≤ w.heap.size) (hI : StI N gr gw n p0 p1 kv mv gv nv W V ((k + 1 : Nat) : Int) w) (hk : k ≤ 4194304) (hM : StM N w (d + 1) cs t) (hok : okS ps nv (d + 1) t) (hps : ∀ p ∈ ps, p ≤ 64) (h1 : t.nd.k = 1) (hev : evs W V 8 t.nd.a = some [x]) (hxU : U64 x) :
    Calls Try.prog 35 (stArgs gr gv nv cs) w (StP N gr gw n p0 p1 kv mv gv nv ⟨0, 0, ⟨W, V.set t.nd.v.toNat x, k⟩⟩ w) := by
  obtain ⟨hmy, hoa, -, -⟩ := okS_s hok
  obtain ⟨sa, na, ca, sb, nb, cb, sc, nc, cc, hcs, hk0, hSa, -⟩ := hM
  have hv : 0 ≤ t.nd.v ∧ t.nd.v < nv := by simp [mayS, h1] at hmy; omega
  obtain ⟨j, hj⟩ : ∃ j : Nat, t.nd.v = j := ⟨t.nd.v.toNat, by omega⟩
  have hjn : j < nv := by omega
  have hjn' : (j : Int) < nv := by omega
  rw [h1, hj] at hcs
  rw [show t.nd.v.toNat = j by omega]
  subst hcs
  have b0 := ab w (.cells (stC 1 j t.nd.f t.nd.t (.slice sa na ca) (.slice sb nb cb) (.slice sc nc cc)).toArray 78)
  have hI1 := hI.bl b0
  have hbn := burn_ok _ hI1.run hk
  obtain ⟨hI2, hvs⟩ := begun (k := k) _ (by simp; omega) hI1 (hSa.imp (b0.mono hN) (ExM.below (b0.mono hN) 8)) hoa (by rw [hSa.len.out]; exact fewS hps hmy)
  have A := (Arr.new w 78 (stC 1 j t.nd.f t.nd.t (.slice sa na ca) (.slice sb nb cb) (.slice sc nc cc)).toArray).setOther (a := ⟨gr, 3, none⟩) (.int .i64 (k : Int)) (by have := hI.run.ar.lt; show w.heap.size ≠ gr; omega)
  have a4 := A.cell 4
  have hc : Ch (fun k => k = gr ∨ k = gw ∨ k = gv) w ((w.alloc (.cells (stC 1 j t.nd.f t.nd.t (.slice sa na ca) (.slice sb nb cb) (.slice sc nc cc)).toArray 78)).setCell ⟨gr, 3, none⟩ (.int .i64 (k : Int))) := (Ch.ob b0).st _ (fun _ => .inl rfl)
  rw [hev] at hvs
  clear hI hSa hoa hmy hok hI1 h1 hj hv hev
  unfold stArgs
  generalize hQ : ((w.alloc (.cells (stC 1 j t.nd.f t.nd.t (.slice sa na ca) (.slice sb nb cb) (.slice sc nc cc)).toArray 78)).setCell ⟨gr, 3, none⟩ (.int .i64 (k : Int))) = Q at *
  unfold stC at *
  go_enter Try.func35, Try.ntmps35
  go_upto_region 5 with (first
    | (go_at_call 42; go_must (refine hbn.mono ?_; rintro e w1 ⟨rfl, h, -⟩; replace h := h.symm; subst h))
    | (go_at_call 43; go_must (refine hvs.mono ?_; rintro e w2 ⟨hn, -, hb2⟩; obtain ⟨g, c, hn', hg, hcl, hlc, hgl⟩ := hn _ rfl; subst hn'; have A2 := A.bl hb2; have k0 := A2.cell 0; have k1 := A2.cell 1; have x0 := hcl 0 x rfl; have hI3 := hI2.bl hb2; have vc := hI3.var.av.cell j; have vf := hI3.var.av.frozen j)))
  have hgv : gv < w2.heap.size := hI3.var.av.lt
  rw [uA_get (by rw [hI3.var.len.out]; exact hjn)] at vc
  have hI4 : StI N gr gw n p0 p1 kv mv gv nv W (V.set j x) (k : Int) (w2.setCell ⟨gv, j, none⟩ (.int .u64 x)) :=
    ⟨⟨hI3.run.ar.setOther _ hI3.n1, hI3.run.aw.setOther _ hI3.n2, hI3.run.ne, hI3.run.len, hI3.run.n10, hI3.run.wU⟩, ⟨by rw [← uA_set]; exact hI3.var.av.set j _, hid (by rw [List.length_set]; exact hI3.var.len.out), hI3.var.n64, fun y hy => by
      rcases List.mem_or_eq_of_mem_set hy with h | h
      · exact hI3.var.vU y h
      · rw [h]; exact hxU⟩, hI3.n1, hI3.n2, hI3.l1, hI3.l2, hI3.l3⟩
  have hc4 : Ch (fun k => k = gr ∨ k = gw ∨ k = gv) w (w2.setCell ⟨gv, j, none⟩ (.int .u64 x)) := (hc.trans (Ch.ob hb2)).st _ (fun _ => .inr (.inr rfl))
  go_region
  go_wp2_with fail
  go_end0
  exact ⟨rfl, hI4.dw, hc4.dw⟩
set_option maxHeartbeats 1000000 in
theorem stmt_store {k : Nat} {ps : List Int} {x : Int} {q : Nat} (w : World) (hN : N ≤ w.heap.size) (hI : StI N gr gw n p0 p1 kv mv gv nv W V ((k + 1 : Nat) : Int) w) (hk : k ≤ 4194304) (hM : StM N w (d + 1) cs t) (hok : okS ps nv (d + 1) t) (hps : ∀ p ∈ ps, p ≤ 64) (h1 : t.nd.k = 2) (hev : evs W V 8 t.nd.a = some [(q : Int), x]) (hxU : U64 x) (hq : q < n) :
    Calls Try.prog 35 (stArgs gr gv nv cs) w (StP N gr gw n p0 p1 kv mv gv nv ⟨0, 0, ⟨W.set q x, V, k⟩⟩ w) := by
  obtain ⟨hmy, hoa, -, -⟩ := okS_s hok
  obtain ⟨sa, na, ca, sb, nb, cb, sc, nc, cc, hcs, hk0, hSa, -⟩ := hM
  rw [h1] at hcs
  subst hcs
  have b0 := ab w (.cells (stC 2 t.nd.v t.nd.f t.nd.t (.slice sa na ca) (.slice sb nb cb) (.slice sc nc cc)).toArray 78)
  have hI1 := hI.bl b0
  have hbn := burn_ok _ hI1.run hk
  obtain ⟨hI2, hvs⟩ := begun (k := k) _ (by simp; omega) hI1 (hSa.imp (b0.mono hN) (ExM.below (b0.mono hN) 8)) hoa (by rw [hSa.len.out]; exact fewS hps hmy)
  have A := (Arr.new w 78 (stC 2 t.nd.v t.nd.f t.nd.t (.slice sa na ca) (.slice sb nb cb) (.slice sc nc cc)).toArray).setOther (a := ⟨gr, 3, none⟩) (.int .i64 (k : Int)) (by have := hI.run.ar.lt; show w.heap.size ≠ gr; omega)
  have a4 := A.cell 4
  have hc : Ch (fun k => k = gr ∨ k = gw ∨ k = gv) w ((w.alloc (.cells (stC 2 t.nd.v t.nd.f t.nd.t (.slice sa na ca) (.slice sb nb cb) (.slice sc nc cc)).toArray 78)).setCell ⟨gr, 3, none⟩ (.int .i64 (k : Int))) := (Ch.ob b0).st _ (fun _ => .inl rfl)
  rw [hev] at hvs
  clear hI hSa hoa hmy hok hI1 h1 hev
  unfold stArgs
  generalize hQ : ((w.alloc (.cells (stC 2 t.nd.v t.nd.f t.nd.t (.slice sa na ca) (.slice sb nb cb) (.slice sc nc cc)).toArray 78)).setCell ⟨gr, 3, none⟩ (.int .i64 (k : Int))) = Q at *
  unfold stC at *
  go_enter Try.func35, Try.ntmps35
  go_upto_region 7 with (first
    | (go_at_call 42; go_must (refine hbn.mono ?_; rintro e w1 ⟨rfl, h, -⟩; replace h := h.symm; subst h))
    | (go_at_call 43; go_must (refine hvs.mono ?_; rintro e w2 ⟨hn, -, hb2⟩; obtain ⟨g, c, hn', hg, hcl, hlc, hgl⟩ := hn _ rfl; subst hn'; have A2 := A.bl hb2; have k0 := A2.cell 0; have x0 := hcl 0 _ rfl; have x1 := hcl 1 _ rfl; have hI3 := hI2.bl hb2)))
  have hwd := word_ok (x := (q : Int)) w2.drew hI3.dw.run rfl hq
  have wc : w2.cell? ⟨gw, q, none⟩ = some (.int .u64 (W.getD q 0)) := (hI3.run.aw.cell q).trans (uA_get (by rw [hI3.run.len.out]; exact hq))
  have wf := hI3.run.aw.frozen q
  have hI4 : StI N gr gw n p0 p1 kv mv gv nv (W.set q x) V (k : Int) (w2.setCell ⟨gw, q, none⟩ (.int .u64 x)) :=
    ⟨⟨hI3.run.ar.setOther _ hI3.run.ne, by rw [← uA_set]; exact hI3.run.aw.set q _, hI3.run.ne, hid (by rw [List.length_set]; exact hI3.run.len.out), hI3.run.n10, fun y hy => by
      rcases List.mem_or_eq_of_mem_set hy with h | h
      · exact hI3.run.wU y h
      · rw [h]; exact hxU⟩, ⟨hI3.var.av.setOther _ (fun e => hI3.n2 e.symm), hI3.var.len, hI3.var.n64, hI3.var.vU⟩, hI3.n1, hI3.n2, hI3.l1, hI3.l2, hI3.l3⟩
  have hc4 : Ch (fun k => k = gr ∨ k = gw ∨ k = gv) w (w2.setCell ⟨gw, q, none⟩ (.int .u64 x)) := (hc.trans (Ch.ob hb2)).st _ (fun _ => .inr (.inl rfl))
  generalize W.getD q 0 = old at *
  go_region_with (go_at_call 44; go_must (refine hwd.mono ?_; rintro e w3 ⟨rfl, h⟩; replace h := h.symm; subst h))
  all_goals
    go_wp2_with fail
    go_end0
    exact ⟨rfl, hI4.dw, hc4.dw⟩
end Go.Proofs.Ytmljihggooaboaa
/- Layer interp: statements that go on. -/
namespace Go.Proofs.Ytmljihggooaboaa
open Go.RowKit
set_option maxRecDepth 100000
set_option linter.unusedVariables false
set_option linter.unusedSimpArgs false

variable {N gr gw n : Nat} {p0 p1 kv mv : Value} {gv nv : Nat} {W V : List Int} {lf : Int} {d : Nat}
set_option maxHeartbeats 1000000 in
theorem stmts_on {sp : Option Addr} {m cap : Nat} {l : List (StT (d + 1))} (S : Nat → SS) (w : World) (hN : N ≤ w.heap.size) (hI : StI N gr gw n p0 p1 kv mv gv nv (S 0).W (S 0).V (S 0).lf w) (hS : RS N w 7 (StM N w (d + 1)) sp m cap l)
    (hst : ∀ (j : Nat) (t : StT (d + 1)) (u : World) (cs : List Value), l[j]? = some t → N ≤ u.heap.size → StI N gr gw n p0 p1 kv mv gv nv (S j).W (S j).V (S j).lf u → StM N u (d + 1) cs t → Calls Try.prog 35 (stArgs gr gv nv cs) u (StP N gr gw n p0 p1 kv mv gv nv ⟨0, 0, S (j + 1)⟩ u)) :
    Calls Try.prog 27 #[.pointer (some ⟨gr, 0, none⟩), .slice sp m cap, .slice (some ⟨gv, 0, none⟩) nv nv] w (StP N gr gw n p0 p1 kv mv gv nv ⟨0, 0, S m⟩ w) := by
  have hlen := hS.len
  have hsm := hS.small
  go_enter Try.func27, Try.ntmps27
  go_upto_region 1 with fail
  go_loopw [10] (fun i wr => ∃ j : Nat, i = .int .i64 (j : Int) ∧ j ≤ m ∧ StI N gr gw n p0 p1 kv mv gv nv (S j).W (S j).V (S j).lf wr ∧ Ch (fun k => k = gr ∨ k = gw ∨ k = gv) w wr)
    (fun i _ => m - (intOf i).toNat)
  case atStart => exact ⟨0, rfl, by omega, hI, Ch.refl _ _⟩
  case round =>
    obtain ⟨j, rfl, hj, hIj, hc⟩ := hrel
    have hlow := hI.low hN hc
    by_cases hlt : j < m
    · obtain ⟨t, ht⟩ : ∃ t, l[j]? = some t := ⟨l[j]'(by rw [← hlen.out]; exact hlt), List.getElem?_eq_getElem _⟩
      obtain ⟨g, off, rfl, hg, hR⟩ := hS.at0 (by omega)
      obtain ⟨cs, hrg, hM⟩ := hR j t ht
      have hrg2 := rb hrg hlow hg
      have hM2 := StM.below hlow (d + 1) cs t hM
      obtain ⟨xk, xv, xf, xt, xa, ya, za, xb, yb, zb, xc, yc, zc, rfl⟩ := hM.cells
      have c0 := hrg2 0 _ rfl
      have c1 := hrg2 1 _ rfl
      have c2 := hrg2 2 _ rfl
      have c3 := hrg2 3 _ rfl
      have c4 := hrg2 4 _ rfl
      have c5 := hrg2 5 _ rfl
      have c6 := hrg2 6 _ rfl
      simp only [Nat.add_zero] at c0
      have hlt' : (j : Int) < m := by omega
      have h0 : (0 : Int) ≤ j := by omega
      have hs := hlow.size
      have b1 := ab wr (.cells (stC xk xv xf xt (.slice xa ya za) (.slice xb yb zb) (.slice xc yc zc)).toArray 78)
      have hcc := hst j t _ _ ht (by have := b1.size; omega) (hIj.bl b1) (StM.below (b1.mono (by omega)) (d + 1) _ t hM2)
      have hc1 := hc.trans (Ch.ob b1)
      clear hS hR hrg hrg2 hM hM2 hst hlen ht hI hIj
      unfold stArgs at hcc
      unfold stC at *
      go_wp2_with (go_at_call 35; go_must (refine hcc.mono ?_; rintro e w1 ⟨he, hI1, hc2⟩; replace he : e = .returned (.tuple #[]) := he; subst he))
      go_roundw
      case rel => exact ⟨j + 1, by go_num, by omega, hI1, hc1.trans hc2⟩
      case measure => simp [intOf]; omega
    · obtain rfl : j = m := by omega
      clear hS hlen hst
      go_wp2_with fail
      go_end0
      exact ⟨rfl, hIj, hc⟩
end Go.Proofs.Ytmljihggooaboaa
/- Layer interp: a function that goes on to its end. -/
namespace Go.Proofs.Ytmljihggooaboaa
open Go.RowKit
set_option maxRecDepth 100000
set_option linter.unusedVariables false
set_option linter.unusedSimpArgs false

theorem tm26 (p q : Addr) (v : Value) : (#[Value.pointer (some p), Value.pointer (some q)] ++ (Array.replicate 19 undef).setIfInBounds 5 v) = #[.pointer (some p), .pointer (some q), undef, undef, undef, undef, undef, v, undef, undef, undef, undef, undef, undef, undef, undef, undef, undef, undef, undef, undef] := by kernel_rfl
theorem nilI0 (w : World) : (binOp .eql 20 .nilIface .nilIface).run Try.prog w = .ok (.bool true) w := by kernel_rfl
theorem catch_idle26 (p q : Addr) (w : World) :
    CallsD Try.prog 26 #[.pointer (some p), .pointer (some q)] .returning w fun e u' w' => e = .returned (.tuple #[]) ∧ u' = .returning ∧ w' = w := by
  have h1 := nilI0
  refine callsD_of_wpS Try.func26 rfl fun c₀ cs hu => ?_
  apply wpS_seq
  apply wpS_region
  simp [wpOpsS, go_sem, recoverD, hu, Try.ntmps26, Exit.thenS]
  refine wpS_of_wp ?_
  rw [tm26]
  go_wp2
  cases c₀
  simp_all [bodyPostS, results, Try.results26]
theorem resF {f : Func} {w : World} {tmps : Array Value} {g k : Nat} {x y : Int} (hf : f.results = #[.cell 6 30, .cell 7 29]) (hp : tmps.getD 6 undef = .pointer (some ⟨g, 0, none⟩)) (hk : tmps.getD 7 undef = .pointer (some ⟨k, 0, none⟩)) (hx : w.cell? ⟨g, 0, none⟩ = some (.int .u64 x)) (hy : w.cell? ⟨k, 0, none⟩ = some (.int .u8 y)) :
    (results f tmps).run Try.prog w = .ok (.tuple #[.int .u64 x, .int .u8 y]) w := by
  have hp' : tmps[6]?.getD undef = .pointer (some ⟨g, 0, none⟩) := by simpa using hp
  have hk' : tmps[7]?.getD undef = .pointer (some ⟨k, 0, none⟩) := by simpa using hk
  have hl1 : (loadVar 30 ⟨g, 0, none⟩).run Try.prog w = .ok (.int .u64 x) w := by simp [go_sem, hx]
  have hl2 : (loadVar 29 ⟨k, 0, none⟩).run Try.prog w = .ok (.int .u8 y) w := by simp [go_sem, hy]
  simp [results, hf, hp', hk', asAddr, hl1, hl2]
theorem s30 : (Try.prog.info? 30).map (·.size) = some 1 := by kernel_rfl
theorem made_uA (n : Nat) : madeCells #[Value.int .u64 0] n = uA (List.replicate n 0) := by
  apply Array.ext_getElem?
  intro i
  by_cases h : i < n
  · rw [uA_get (by simpa using h)]
    simp [madeCells, h, Array.getElem?_eq_getElem, Nat.mod_one]
  · rw [Array.getElem?_eq_none (by rw [size_madeCells]; omega), Array.getElem?_eq_none (by rw [uA_size]; simp; omega)]
variable {N gr gw n : Nat} {p0 p1 kv mv : Value} {W : List Int} {lf : Nat} {d : Nat}
set_option maxHeartbeats 2000000 in
theorem function_on {p v : Int} {nv : Nat} {sp : Option Addr} {m cap : Nat} {l : List (StT (d + 1))} (S : Nat → SS) (w : World) (hN : N ≤ w.heap.size) (hI : RunI gr gw n p0 p1 kv mv W lf w) (hgr : N ≤ gr) (hgw : N ≤ gw) (hv : v = nv) (hnv : nv ≤ 64) (hS0 : S 0 = ⟨W, List.replicate nv 0, lf⟩) (hS : RS N w 7 (StM N w (d + 1)) sp m cap l)
    (hst : ∀ (gv j : Nat) (t : StT (d + 1)) (u : World) (cs : List Value), l[j]? = some t → N ≤ u.heap.size → StI N gr gw n p0 p1 kv mv gv nv (S j).W (S j).V (S j).lf u → StM N u (d + 1) cs t → Calls Try.prog 35 (stArgs gr gv nv cs) u (StP N gr gw n p0 p1 kv mv gv nv ⟨0, 0, S (j + 1)⟩ u)) :
    Calls Try.prog 18 #[.pointer (some ⟨gr, 0, none⟩), .agg (fuC p v (.slice sp m cap)).toArray, .slice none 0 0] w fun e w' => e = .returned (.tuple #[.int .u64 0, .int .u8 1]) ∧ RunI gr gw n p0 p1 kv mv (S m).W (S m).lf w' ∧ Ch (fun k => k = gr ∨ k = gw) w w' := by
  subst hv
  have hmf : ∀ (fn : Fn) (first cap : Array Value) (w : World), (Instr.makeFunc fn first cap).run Try.prog w = .ok (.func fn first cap) w := fun _ _ _ _ => rfl
  have hmk := fun (u : World) => mk25 nv nv u (by omega) (by omega)
  have hgl := hI.ar.lt
  have hwl := hI.aw.lt
  have b0 : Below w.heap.size w ((((w.alloc (.cells (fuC p nv (.slice sp m cap)).toArray 52)).alloc (.cells #[.int .u64 0] 30)).alloc (.cells #[.int .u8 0] 29)).alloc (.cells (madeCells #[.int .u64 0] nv) 30)) := (((ab w _).alloc (by simp) _).alloc (by simp; omega) _).alloc (by simp; omega) _
  have A1 := (((Arr.new (w.alloc (.cells (fuC p nv (.slice sp m cap)).toArray 52)) 30 #[.int .u64 0]).alloc (.cells #[.int .u8 0] 29))).alloc (.cells (madeCells #[.int .u64 0] nv) 30)
  have A2 := (Arr.new ((w.alloc (.cells (fuC p nv (.slice sp m cap)).toArray 52)).alloc (.cells #[.int .u64 0] 30)) 29 #[.int .u8 0]).alloc (.cells (madeCells #[.int .u64 0] nv) 30)
  have A3 := Arr.new (((w.alloc (.cells (fuC p nv (.slice sp m cap)).toArray 52)).alloc (.cells #[.int .u64 0] 30)).alloc (.cells #[.int .u8 0] 29)) 30 (madeCells #[.int .u64 0] nv)
  simp only [World.size_alloc] at A1 A2 A3
  rw [made_uA] at A3
  have hI1 := hI.bl b0
  have hSt : StI N gr gw n p0 p1 kv mv (w.heap.size + 1 + 1 + 1) nv (S 0).W (S 0).V (S 0).lf ((((w.alloc (.cells (fuC p nv (.slice sp m cap)).toArray 52)).alloc (.cells #[.int .u64 0] 30)).alloc (.cells #[.int .u8 0] 29)).alloc (.cells (madeCells #[.int .u64 0] nv) 30)) := by
    rw [hS0]
    refine ⟨hI1, ⟨by rw [made_uA] at *; exact A3, hid (by simp), hnv, fun x hx => by rw [(List.mem_replicate.1 hx).2]; simp [U64]⟩, by omega, by omega, hgr, hgw, by omega⟩
  have hon := stmts_on S _ (by simp; omega) hSt (hS.imp (b0.mono hN) (StM.below (b0.mono hN) (d + 1))) (hst (w.heap.size + 1 + 1 + 1))
  clear hS hst hI1 hSt A3
  unfold fuC at *
  go_enter_defers Try.func18, Try.ntmps18
  go_wp2_with (first
    | (refine wpList_copy_nothing (by rfl) (.tmp 13) (.tmp 14) 25 25 (by rfl) 30 Try.underlying25 (by exact s30) _ _ nv nv 0 0 (by rfl) (by rfl) (Nat.zero_min nv) ?_)
    | (go_at_call 27; go_must (refine hon.mono ?_; rintro e w2 ⟨he, hI2, hc2⟩; replace he : e = .returned (.tuple #[]) := he; subst he; have A1' := hc2.arr A1 (by rintro (e | e | e) <;> omega); have A2' := hc2.arr A2 (by rintro (e | e | e) <;> omega); have c1 := A1'.cell 0; have f1 := A1'.frozen 0; have c2 := (A2'.setOther (a := ⟨w.heap.size + 1, 0, none⟩) (.int .u64 0) (by show w.heap.size + 1 + 1 ≠ w.heap.size + 1; omega)).cell 0; have f2 := (A2'.setOther (a := ⟨w.heap.size + 1, 0, none⟩) (.int .u64 0) (by show w.heap.size + 1 + 1 ≠ w.heap.size + 1; omega)).frozen 0)))
  refine leaves_cons (f := 26) (args := #[.pointer (some ⟨w.heap.size + 1, 0, none⟩), .pointer (some ⟨w.heap.size + 1 + 1, 0, none⟩)]) (by simp) (by simp [go_sem]) ?_
  refine (catch_idle26 ⟨w.heap.size + 1, 0, none⟩ ⟨w.heap.size + 1 + 1, 0, none⟩ _).mono ?_
  rintro e u' w'' ⟨rfl, rfl, rfl⟩
  have B1 := (A1'.set 0 (.int .u64 0)).setOther (a := ⟨w.heap.size + 1 + 1, 0, none⟩) (.int .u8 1) (by show w.heap.size + 1 ≠ w.heap.size + 1 + 1; omega)
  have B2 := (A2'.setOther (a := ⟨w.heap.size + 1, 0, none⟩) (.int .u64 0) (by show w.heap.size + 1 + 1 ≠ w.heap.size + 1; omega)).set 0 (.int .u8 1)
  have hR := hI2.run
  refine ⟨.tuple #[.int .u64 0, .int .u8 1], resF Try.results18 rfl rfl (B1.cell 0) (B2.cell 0), rfl, ?_, ?_⟩
  · exact ⟨(hR.ar.setOther _ (by show gr ≠ w.heap.size + 1; omega)).setOther _ (by show gr ≠ w.heap.size + 1 + 1; omega), (hR.aw.setOther _ (by show gw ≠ w.heap.size + 1; omega)).setOther _ (by show gw ≠ w.heap.size + 1 + 1; omega), hR.ne, hR.len, hR.n10, hR.wU⟩
  · have h3 : Ch (fun k => k = gr ∨ k = gw ∨ w.heap.size ≤ k) w w2 := ((Ch.ob b0).mono fun i hi h => h).trans (hc2.mono fun i hi h => by
      rcases h with h | h | h
      · exact .inl h
      · exact .inr (.inl h)
      · exact .inr (.inr (by omega)))
    have h4 := (h3.st (g := w.heap.size + 1) (j := 0) (.int .u64 0) (fun h => by omega)).st (g := w.heap.size + 1 + 1) (j := 0) (.int .u8 1) (fun h => by omega)
    exact h4.mono fun i hi h => by
      rcases h with h | h | h
      · exact .inl h
      · exact .inr h
      · omega
end Go.Proofs.Ytmljihggooaboaa
/- Layer interp: what is known, at first. -/
namespace Go.Proofs.Ytmljihggooaboaa
open Go.RowKit
set_option maxRecDepth 100000
set_option linter.unusedVariables false
set_option linter.unusedSimpArgs false

theorem newShelf_any (sk : Option Addr) (nk ck : Nat) (w : World) :
    Calls Try.prog 17 #[.slice sk nk ck] w fun e w' => ∃ gp, e = .returned (.agg #[.slice sk nk ck, .map (some gp)]) ∧ w.heap.size ≤ gp ∧ w'.heap[gp]? = some (.map #[] 0) ∧ Below w.heap.size w w' := by
  have hmm := @run_makeMap Try.prog
  go_enter Try.func17, Try.ntmps17
  go_wp2
  exact bodyPost_ret (v := .agg #[.slice sk nk ck, .map (some (w.heap.size + 1))]) (results_cell_row Try.results17 _ _ w.heap.size 62 _ (0, 0) _ rfl ((Arr.new w 62 _).alloc _) Try.underlying62 rfl (by kernel_rfl)) rfl ⟨_, rfl, by omega, by simpa using heap_alloc_new (w.alloc (.cells #[.slice sk nk ck, .map (some (w.heap.size + 1))] 62)) (.map #[] 0), (ab w _).alloc (by simp) _⟩
end Go.Proofs.Ytmljihggooaboaa
