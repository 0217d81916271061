/- Layer interp: statements that set and store. -/
import Derived.Test.YtmljihggooaboaaIk0
import Derived.Handy
import Derived.BigQuiet
import Derived.BigRegion
namespace Go.Proofs.Ytmljihggooaboaa
open Go.RowKit
set_option maxRecDepth 100000
set_option linter.unusedVariables false
set_option linter.unusedSimpArgs false

variable {N gr gw n : Nat} {p0 p1 kv mv : Value} {gv nv : Nat} {W V : List Int} {lf : Int} {d : Nat} {t : StT (d + 1)} {cs : List Value}
def stArgs (gr gv nv : Nat) (cs : List Value) : Array Value := #[.pointer (some ⟨gr, 0, none⟩), .agg cs.toArray, .slice (some ⟨gv, 0, none⟩) nv nv]
set_option maxHeartbeats 1000000 in
theorem stmt_spent (w : World) (hI : StI N gr gw n p0 p1 kv mv gv nv W V 0 w) (hM : StM N w (d + 1) cs t) :
    Calls Try.prog 35 (stArgs gr gv nv cs) w (StP N gr gw n p0 p1 kv mv gv nv ⟨3, 0, ⟨W, V, 0⟩⟩ w) := by
  obtain ⟨sa, na, ca, sb, nb, cb, sc, nc, cc, rfl, -⟩ := hM
  have b0 := ab w (.cells (stC t.nd.k t.nd.v t.nd.f t.nd.t (.slice sa na ca) (.slice sb nb cb) (.slice sc nc cc)).toArray 78)
  have hI1 := hI.bl b0
  have hbn := burn_no _ hI1.run
  clear hI
  unfold stArgs
  unfold stC at *
  go_enter Try.func35, Try.ntmps35
  go_wp2_with (go_at_call 42; go_must (refine hbn.mono ?_; rintro e w1 ⟨rfl, h⟩; replace h := h.symm; subst h))
  exact ⟨rfl, rfl, hI1, Ch.ob b0⟩
/-- Behind burn and the arguments. -/
theorem begun {k : Nat} {sa : Option Addr} {na ca : Nat} {l : List (ExT 8)} (w : World) (hN : N ≤ w.heap.size) (hI : StI N gr gw n p0 p1 kv mv gv nv W V ((k + 1 : Nat) : Int) w) (hS : RS N w 5 (ExM N w 8) sa na ca l) (hok : ∀ a ∈ l, okX nv 8 a) (hna : na ≤ 64) :
    StI N gr gw n p0 p1 kv mv gv nv W V (k : Int) (w.setCell ⟨gr, 3, none⟩ (.int .i64 (k : Int))) ∧ Calls Try.prog 43 #[.pointer (some ⟨gr, 0, none⟩), .slice sa na ca, .slice (some ⟨gv, 0, none⟩) nv nv] (w.setCell ⟨gr, 3, none⟩ (.int .i64 (k : Int))) (VsP (evs W V 8 l) (w.setCell ⟨gr, 3, none⟩ (.int .i64 (k : Int)))) := by
  have hc : Ch (fun k => k = gr ∨ k = gw ∨ k = gv) w (w.setCell ⟨gr, 3, none⟩ (.int .i64 (k : Int))) := (Ch.refl _ w).st _ (fun _ => .inl rfl)
  have hI2 : StI N gr gw n p0 p1 kv mv gv nv W V (k : Int) (w.setCell ⟨gr, 3, none⟩ (.int .i64 (k : Int))) :=
    ⟨⟨hI.run.ar.set 3 _, hI.run.aw.setOther _ (fun e => hI.run.ne e.symm), hI.run.ne, hI.run.len, hI.run.n10, hI.run.wU⟩, ⟨hI.var.av.setOther _ (fun e => hI.n1 e.symm), hI.var.len, hI.var.n64, hI.var.vU⟩, hI.n1, hI.n2, hI.l1, hI.l2, hI.l3⟩
  have hl := hI.low hN hc
  exact ⟨hI2, values_any (d := 8) _ (by have := hl.size; omega) hI2.run hI2.var (hS.imp hl (ExM.below hl 8)) hok (by omega)⟩
set_option maxHeartbeats 1000000 in
theorem stmt_trap {k : Nat} {ps : List Int} (w : World) (hN : N ≤ w.heap.size) (hI : StI N gr gw n p0 p1 kv mv gv nv W V ((k + 1 : Nat) : Int) w) (hk : k ≤ 4194304) (hM : StM N w (d + 1) cs t) (hok : okS ps nv (d + 1) t) (hps : ∀ p ∈ ps, p ≤ 64) (hev : evs W V 8 t.nd.a = none) :
    Calls Try.prog 35 (stArgs gr gv nv cs) w (StP N gr gw n p0 p1 kv mv gv nv ⟨2, 0, ⟨W, V, k⟩⟩ w) := by
  obtain ⟨hmy, hoa, -, -⟩ := okS_s hok
  obtain ⟨sa, na, ca, sb, nb, cb, sc, nc, cc, rfl, hk0, hSa, -⟩ := hM
  have b0 := ab w (.cells (stC t.nd.k t.nd.v t.nd.f t.nd.t (.slice sa na ca) (.slice sb nb cb) (.slice sc nc cc)).toArray 78)
  have hI1 := hI.bl b0
  have hbn := burn_ok _ hI1.run hk
  obtain ⟨hI2, hvs⟩ := begun (k := k) _ (by simp; omega) hI1 (hSa.imp (b0.mono hN) (ExM.below (b0.mono hN) 8)) hoa (by rw [hSa.len.out]; exact fewS hps hmy)
  have A := (Arr.new w 78 (stC t.nd.k t.nd.v t.nd.f t.nd.t (.slice sa na ca) (.slice sb nb cb) (.slice sc nc cc)).toArray).setOther (a := ⟨gr, 3, none⟩) (.int .i64 (k : Int)) (by have := hI.run.ar.lt; show w.heap.size ≠ gr; omega)
  have a4 := A.cell 4
  have hc : Ch (fun k => k = gr ∨ k = gw ∨ k = gv) w ((w.alloc (.cells (stC t.nd.k t.nd.v t.nd.f t.nd.t (.slice sa na ca) (.slice sb nb cb) (.slice sc nc cc)).toArray 78)).setCell ⟨gr, 3, none⟩ (.int .i64 (k : Int))) := (Ch.ob b0).st _ (fun _ => .inl rfl)
  rw [hev] at hvs
  clear hI hSa hoa hmy hok hI1 A
  unfold stArgs
  generalize hQ : ((w.alloc (.cells (stC t.nd.k t.nd.v t.nd.f t.nd.t (.slice sa na ca) (.slice sb nb cb) (.slice sc nc cc)).toArray 78)).setCell ⟨gr, 3, none⟩ (.int .i64 (k : Int))) = Q at *
  unfold stC at *
  go_enter Try.func35, Try.ntmps35
  go_wp2_with (first
    | (go_at_call 42; go_must (refine hbn.mono ?_; rintro e w1 ⟨rfl, h, -⟩; replace h := h.symm; subst h))
    | (go_at_call 43; go_must (refine hvs.mono ?_; rintro e w2 ⟨-, hn, hb2⟩; have hn' := hn rfl; subst hn')))
  exact ⟨rfl, rfl, hI2.bl hb2, hc.trans (Ch.ob hb2)⟩
set_option maxHeartbeats 1000000 in
theorem stmt_set {k : Nat} {ps : List Int} {x : Int} (w : World) (hN : N ≤ w.heap.size) (hI : StI N gr gw n p0 p1 kv mv gv nv W V ((k + 1 : Nat) : Int) w) (hk : k ≤ 4194304) (hM : StM N w (d + 1) cs t) (hok : okS ps nv (d + 1) t) (hps : ∀ p ∈ ps, p ≤ 64) (h1 : t.nd.k = 1) (hev : evs W V 8 t.nd.a = some [x]) (hxU : U64 x) :
    Calls Try.prog 35 (stArgs gr gv nv cs) w (StP N gr gw n p0 p1 kv mv gv nv ⟨0, 0, ⟨W, V.set t.nd.v.toNat x, k⟩⟩ w) := by
  obtain ⟨hmy, hoa, -, -⟩ := okS_s hok
  obtain ⟨sa, na, ca, sb, nb, cb, sc, nc, cc, hcs, hk0, hSa, -⟩ := hM
  have hv : 0 ≤ t.nd.v ∧ t.nd.v < nv := by simp [mayS, h1] at hmy; omega
  obtain ⟨j, hj⟩ : ∃ j : Nat, t.nd.v = j := ⟨t.nd.v.toNat, by omega⟩
  have hjn : j < nv := by omega
  have hjn' : (j : Int) < nv := by omega
  rw [h1, hj] at hcs
  rw [show t.nd.v.toNat = j by omega]
  subst hcs
  have b0 := ab w (.cells (stC 1 j t.nd.f t.nd.t (.slice sa na ca) (.slice sb nb cb) (.slice sc nc cc)).toArray 78)
  have hI1 := hI.bl b0
  have hbn := burn_ok _ hI1.run hk
  obtain ⟨hI2, hvs⟩ := begun (k := k) _ (by simp; omega) hI1 (hSa.imp (b0.mono hN) (ExM.below (b0.mono hN) 8)) hoa (by rw [hSa.len.out]; exact fewS hps hmy)
  have A := (Arr.new w 78 (stC 1 j t.nd.f t.nd.t (.slice sa na ca) (.slice sb nb cb) (.slice sc nc cc)).toArray).setOther (a := ⟨gr, 3, none⟩) (.int .i64 (k : Int)) (by have := hI.run.ar.lt; show w.heap.size ≠ gr; omega)
  have a4 := A.cell 4
  have hc : Ch (fun k => k = gr ∨ k = gw ∨ k = gv) w ((w.alloc (.cells (stC 1 j t.nd.f t.nd.t (.slice sa na ca) (.slice sb nb cb) (.slice sc nc cc)).toArray 78)).setCell ⟨gr, 3, none⟩ (.int .i64 (k : Int))) := (Ch.ob b0).st _ (fun _ => .inl rfl)
  rw [hev] at hvs
  clear hI hSa hoa hmy hok hI1 h1 hj hv hev
  unfold stArgs
  generalize hQ : ((w.alloc (.cells (stC 1 j t.nd.f t.nd.t (.slice sa na ca) (.slice sb nb cb) (.slice sc nc cc)).toArray 78)).setCell ⟨gr, 3, none⟩ (.int .i64 (k : Int))) = Q at *
  unfold stC at *
  go_enter Try.func35, Try.ntmps35
  go_upto_region 5 with (first
    | (go_at_call 42; go_must (refine hbn.mono ?_; rintro e w1 ⟨rfl, h, -⟩; replace h := h.symm; subst h))
    | (go_at_call 43; go_must (refine hvs.mono ?_; rintro e w2 ⟨hn, -, hb2⟩; obtain ⟨g, c, hn', hg, hcl, hlc, hgl⟩ := hn _ rfl; subst hn'; have A2 := A.bl hb2; have k0 := A2.cell 0; have k1 := A2.cell 1; have x0 := hcl 0 x rfl; have hI3 := hI2.bl hb2; have vc := hI3.var.av.cell j; have vf := hI3.var.av.frozen j)))
  have hgv : gv < w2.heap.size := hI3.var.av.lt
  rw [uA_get (by rw [hI3.var.len.out]; exact hjn)] at vc
  have hI4 : StI N gr gw n p0 p1 kv mv gv nv W (V.set j x) (k : Int) (w2.setCell ⟨gv, j, none⟩ (.int .u64 x)) :=
    ⟨⟨hI3.run.ar.setOther _ hI3.n1, hI3.run.aw.setOther _ hI3.n2, hI3.run.ne, hI3.run.len, hI3.run.n10, hI3.run.wU⟩, ⟨by rw [← uA_set]; exact hI3.var.av.set j _, hid (by rw [List.length_set]; exact hI3.var.len.out), hI3.var.n64, fun y hy => by
      rcases List.mem_or_eq_of_mem_set hy with h | h
      · exact hI3.var.vU y h
      · rw [h]; exact hxU⟩, hI3.n1, hI3.n2, hI3.l1, hI3.l2, hI3.l3⟩
  have hc4 : Ch (fun k => k = gr ∨ k = gw ∨ k = gv) w (w2.setCell ⟨gv, j, none⟩ (.int .u64 x)) := (hc.trans (Ch.ob hb2)).st _ (fun _ => .inr (.inr rfl))
  go_region
  go_wp2_with fail
  go_end0
  exact ⟨rfl, hI4.dw, hc4.dw⟩
set_option maxHeartbeats 1000000 in
theorem stmt_store {k : Nat} {ps : List Int} {x : Int} {q : Nat} (w : World) (hN : N ≤ w.heap.size) (hI : StI N gr gw n p0 p1 kv mv gv nv W V ((k + 1 : Nat) : Int) w) (hk : k ≤ 4194304) (hM : StM N w (d + 1) cs t) (hok : okS ps nv (d + 1) t) (hps : ∀ p ∈ ps, p ≤ 64) (h1 : t.nd.k = 2) (hev : evs W V 8 t.nd.a = some [(q : Int), x]) (hxU : U64 x) (hq : q < n) :
    Calls Try.prog 35 (stArgs gr gv nv cs) w (StP N gr gw n p0 p1 kv mv gv nv ⟨0, 0, ⟨W.set q x, V, k⟩⟩ w) := by
  obtain ⟨hmy, hoa, -, -⟩ := okS_s hok
  obtain ⟨sa, na, ca, sb, nb, cb, sc, nc, cc, hcs, hk0, hSa, -⟩ := hM
  rw [h1] at hcs
  subst hcs
  have b0 := ab w (.cells (stC 2 t.nd.v t.nd.f t.nd.t (.slice sa na ca) (.slice sb nb cb) (.slice sc nc cc)).toArray 78)
  have hI1 := hI.bl b0
  have hbn := burn_ok _ hI1.run hk
  obtain ⟨hI2, hvs⟩ := begun (k := k) _ (by simp; omega) hI1 (hSa.imp (b0.mono hN) (ExM.below (b0.mono hN) 8)) hoa (by rw [hSa.len.out]; exact fewS hps hmy)
  have A := (Arr.new w 78 (stC 2 t.nd.v t.nd.f t.nd.t (.slice sa na ca) (.slice sb nb cb) (.slice sc nc cc)).toArray).setOther (a := ⟨gr, 3, none⟩) (.int .i64 (k : Int)) (by have := hI.run.ar.lt; show w.heap.size ≠ gr; omega)
  have a4 := A.cell 4
  have hc : Ch (fun k => k = gr ∨ k = gw ∨ k = gv) w ((w.alloc (.cells (stC 2 t.nd.v t.nd.f t.nd.t (.slice sa na ca) (.slice sb nb cb) (.slice sc nc cc)).toArray 78)).setCell ⟨gr, 3, none⟩ (.int .i64 (k : Int))) := (Ch.ob b0).st _ (fun _ => .inl rfl)
  rw [hev] at hvs
  clear hI hSa hoa hmy hok hI1 h1 hev
  unfold stArgs
  generalize hQ : ((w.alloc (.cells (stC 2 t.nd.v t.nd.f t.nd.t (.slice sa na ca) (.slice sb nb cb) (.slice sc nc cc)).toArray 78)).setCell ⟨gr, 3, none⟩ (.int .i64 (k : Int))) = Q at *
  unfold stC at *
  go_enter Try.func35, Try.ntmps35
  go_upto_region 7 with (first
    | (go_at_call 42; go_must (refine hbn.mono ?_; rintro e w1 ⟨rfl, h, -⟩; replace h := h.symm; subst h))
    | (go_at_call 43; go_must (refine hvs.mono ?_; rintro e w2 ⟨hn, -, hb2⟩; obtain ⟨g, c, hn', hg, hcl, hlc, hgl⟩ := hn _ rfl; subst hn'; have A2 := A.bl hb2; have k0 := A2.cell 0; have x0 := hcl 0 _ rfl; have x1 := hcl 1 _ rfl; have hI3 := hI2.bl hb2)))
  have hwd := word_ok (x := (q : Int)) w2.drew hI3.dw.run rfl hq
  have wc : w2.cell? ⟨gw, q, none⟩ = some (.int .u64 (W.getD q 0)) := (hI3.run.aw.cell q).trans (uA_get (by rw [hI3.run.len.out]; exact hq))
  have wf := hI3.run.aw.frozen q
  have hI4 : StI N gr gw n p0 p1 kv mv gv nv (W.set q x) V (k : Int) (w2.setCell ⟨gw, q, none⟩ (.int .u64 x)) :=
    ⟨⟨hI3.run.ar.setOther _ hI3.run.ne, by rw [← uA_set]; exact hI3.run.aw.set q _, hI3.run.ne, hid (by rw [List.length_set]; exact hI3.run.len.out), hI3.run.n10, fun y hy => by
      rcases List.mem_or_eq_of_mem_set hy with h | h
      · exact hI3.run.wU y h
      · rw [h]; exact hxU⟩, ⟨hI3.var.av.setOther _ (fun e => hI3.n2 e.symm), hI3.var.len, hI3.var.n64, hI3.var.vU⟩, hI3.n1, hI3.n2, hI3.l1, hI3.l2, hI3.l3⟩
  have hc4 : Ch (fun k => k = gr ∨ k = gw ∨ k = gv) w (w2.setCell ⟨gw, q, none⟩ (.int .u64 x)) := (hc.trans (Ch.ob hb2)).st _ (fun _ => .inr (.inl rfl))
  generalize W.getD q 0 = old at *
  go_region_with (go_at_call 44; go_must (refine hwd.mono ?_; rintro e w3 ⟨rfl, h⟩; replace h := h.symm; subst h))
  all_goals
    go_wp2_with fail
    go_end0
    exact ⟨rfl, hI4.dw, hc4.dw⟩
end Go.Proofs.Ytmljihggooaboaa
