/- Ik0, Ik, Il. -/
import Derived.Test.YtmljihggooaboaaX08
import Derived.Handy
import Derived.BigQuiet
import Derived.BigRegion
import Derived.Laws.MakeOwn
/- Layer interp: a function as it runs. -/
namespace Go.Proofs.Ytmljihggooaboaa
open Go.RowKit
set_option maxRecDepth 100000
set_option linter.unusedVariables false
set_option linter.unusedSimpArgs false

/-- A function as it runs. -/
structure StI (N gr gw n : Nat) (p0 p1 kv mv : Value) (gv nv : Nat) (W V : List Int) (lf : Int) (w : World) : Prop where
  run : RunI gr gw n p0 p1 kv mv W lf w
  var : VarI gv nv V w
  n1 : gr ≠ gv
  n2 : gw ≠ gv
  l1 : N ≤ gr
  l2 : N ≤ gw
  l3 : N ≤ gv
/-- Data, variables, and what is left. -/
structure SS where
  W : List Int
  V : List Int
  lf : Nat
/-- How it went: 0 on, 1 a value is returned, 2 a trap, 3 no fuel. -/
structure RR where
  k : Nat
  x : Int
  s : SS
def RR.end (r : RR) : Ending := if r.k = 0 then .returned (.tuple #[]) else if r.k = 1 then .panicked (reI r.x) else if r.k = 2 then .panicked trI else .panicked spI
def StP (N gr gw n : Nat) (p0 p1 kv mv : Value) (gv nv : Nat) (r : RR) (w : World) (e : Ending) (w' : World) : Prop :=
  e = r.end ∧ StI N gr gw n p0 p1 kv mv gv nv r.s.W r.s.V r.s.lf w' ∧ Ch (fun k => k = gr ∨ k = gw ∨ k = gv) w w'
variable {N gr gw n : Nat} {p0 p1 kv mv : Value} {gv nv : Nat} {W V : List Int} {lf : Int}
theorem StI.bl {w w' : World} (h : StI N gr gw n p0 p1 kv mv gv nv W V lf w) (hb : Below w.heap.size w w') : StI N gr gw n p0 p1 kv mv gv nv W V lf w' := ⟨h.run.bl hb, h.var.bl hb, h.n1, h.n2, h.l1, h.l2, h.l3⟩
theorem StI.dw {w : World} (h : StI N gr gw n p0 p1 kv mv gv nv W V lf w) : StI N gr gw n p0 p1 kv mv gv nv W V lf w.drew := ⟨⟨h.run.ar.drew, h.run.aw.drew, h.run.ne, h.run.len, h.run.n10, h.run.wU⟩, ⟨h.var.av.drew, h.var.len, h.var.n64, h.var.vU⟩, h.n1, h.n2, h.l1, h.l2, h.l3⟩
theorem StI.low {w w' : World} (h : StI N gr gw n p0 p1 kv mv gv nv W V lf w) (hN : N ≤ w.heap.size) (hc : Ch (fun k => k = gr ∨ k = gw ∨ k = gv) w w') : Below N w w' :=
  hc.bl fun i hi => ⟨by omega, by have := h.l1; have := h.l2; have := h.l3; rintro (e | e | e) <;> omega⟩
/-- May it be, but for what is left? -/
def okS (ps : List Int) (vs : Int) (d : Nat) (t : StT d) : Prop := ∃ n m, stN ps vs d t n = some m
theorem okS_s {ps : List Int} {vs : Int} {d : Nat} {t : StT (d + 1)} (h : okS ps vs (d + 1) t) : mayS ps vs t.nd = true ∧ (∀ a ∈ t.nd.a, okX vs 8 a) ∧ (∀ a ∈ t.nd.th, okS ps vs d a) ∧ (∀ a ∈ t.nd.el, okS ps vs d a) := by
  obtain ⟨n, m, h⟩ := h
  unfold stN at h
  split at h
  · cases h
  · next hh =>
    cases h1 : fld (exN vs 8) (StN.a (α := StT d) t) (n - 1) with
    | none => rw [h1] at h; cases h
    | some k1 =>
      rw [h1] at h
      replace h : (fld (stN ps vs d) (StN.th (α := StT d) t) k1).bind (fld (stN ps vs d) (StN.el (α := StT d) t)) = some m := h
      cases h2 : fld (stN ps vs d) (StN.th (α := StT d) t) k1 with
      | none => rw [h2] at h; cases h
      | some k2 =>
        rw [h2] at h
        refine ⟨?_, fun a ha => fld_all _ _ _ h1 a ha, fun a ha => fld_all _ _ _ h2 a ha, fun a ha => fld_all _ _ _ h a ha⟩
        cases h3 : mayS ps vs t.nd with
        | true => rfl
        | false => exact absurd (Or.inr h3) hh
theorem fewS {α : Type} {ps : List Int} {vs : Int} {s : StN α} (hp : ∀ p ∈ ps, p ≤ 64) (h : mayS ps vs s = true) : s.a.length ≤ 64 := by
  unfold mayS at h
  by_cases h6 : s.k = 6
  · rw [if_neg (by omega), if_neg (by omega), if_neg (by omega), if_neg (by omega), if_neg (by omega), if_pos h6] at h
    have h1 := (of_decide_eq_true h).2.1
    unfold tkB at h1
    have h2 := (of_decide_eq_true h1)
    have h3 : ps.getD s.f.toNat 0 ≤ 64 := by
      rw [List.getD_eq_getElem?_getD, List.getElem?_eq_getElem (by omega)]
      exact hp _ (List.getElem_mem _)
    omega
  · repeat (split at h; (have := of_decide_eq_true h; omega))
    first | cases h | (split at h; (have := of_decide_eq_true h; omega); cases h)
end Go.Proofs.Ytmljihggooaboaa
/- Layer interp: statements that set and store. -/
namespace Go.Proofs.Ytmljihggooaboaa
open Go.RowKit
set_option maxRecDepth 100000
set_option linter.unusedVariables false
set_option linter.unusedSimpArgs false

variable {N gr gw n : Nat} {p0 p1 kv mv : Value} {gv nv : Nat} {W V : List Int} {lf : Int} {d : Nat} {t : StT (d + 1)} {cs : List Value}
def stArgs (gr gv nv : Nat) (cs : List Value) : Array Value := #[.pointer (some ⟨gr, 0, none⟩), .agg cs.toArray, .slice (some ⟨gv, 0, none⟩) nv nv]
set_option maxHeartbeats 1000000 in
theorem stmt_spent (w : World) (hI : StI N gr gw n p0 p1 kv mv gv nv W V 0 w) (hM : StM N w (d + 1) cs t) :
    Calls Try.prog 35 (stArgs gr gv nv cs) w (StP N gr gw n p0 p1 kv mv gv nv ⟨3, 0, ⟨W, V, 0⟩⟩ w) := by
  obtain ⟨sa, na, ca, sb, nb, cb, sc, nc, cc, rfl, -⟩ := hM
  have b0 := ab w (.cells (stC t.nd.k t.nd.v t.nd.f t.nd.t (.slice sa na ca) (.slice sb nb cb) (.slice sc nc cc)).toArray 78)
  have hI1 := hI.bl b0
  have hbn := burn_no _ hI1.run
  clear hI
  unfold stArgs
  unfold stC at *
  go_enter Try.func35, Try.ntmps35
  go_wp2_with (go_at_call 42; go_must (refine hbn.mono ?_; rintro e w1 ⟨rfl, h⟩; replace h := h.symm; subst h))
  exact ⟨rfl, rfl, hI1, Ch.ob b0⟩
/-- Behind burn and the arguments. -/
theorem begun {k : Nat} {sa : Option Addr} {na ca : Nat} {l : List (ExT 8)} (w : World) (hN : N ≤ w.heap.size) (hI : StI N gr gw n p0 p1 kv mv gv nv W V ((k + 1 : Nat) : Int) w) (hS : RS N w 5 (ExM N w 8) sa na ca l) (hok : ∀ a ∈ l, okX nv 8 a) (hna : na ≤ 64) :
    StI N gr gw n p0 p1 kv mv gv nv W V (k : Int) (w.setCell ⟨gr, 3, none⟩ (.int .i64 (k : Int))) ∧ Calls Try.prog 43 #[.pointer (some ⟨gr, 0, none⟩), .slice sa na ca, .slice (some ⟨gv, 0, none⟩) nv nv] (w.setCell ⟨gr, 3, none⟩ (.int .i64 (k : Int))) (VsP (evs W V 8 l) (w.setCell ⟨gr, 3, none⟩ (.int .i64 (k : Int)))) := by
  have hc : Ch (fun k => k = gr ∨ k = gw ∨ k = gv) w (w.setCell ⟨gr, 3, none⟩ (.int .i64 (k : Int))) := (Ch.refl _ w).st _ (fun _ => .inl rfl)
  have hI2 : StI N gr gw n p0 p1 kv mv gv nv W V (k : Int) (w.setCell ⟨gr, 3, none⟩ (.int .i64 (k : Int))) :=
    ⟨⟨hI.run.ar.set 3 _, hI.run.aw.setOther _ (fun e => hI.run.ne e.symm), hI.run.ne, hI.run.len, hI.run.n10, hI.run.wU⟩, ⟨hI.var.av.setOther _ (fun e => hI.n1 e.symm), hI.var.len, hI.var.n64, hI.var.vU⟩, hI.n1, hI.n2, hI.l1, hI.l2, hI.l3⟩
  have hl := hI.low hN hc
  exact ⟨hI2, values_any (d := 8) _ (by have := hl.size; omega) hI2.run hI2.var (hS.imp hl (ExM.below hl 8)) hok (by omega)⟩
set_option maxHeartbeats 1000000 in
theorem stmt_trap {k : Nat} {ps : List Int} (w : World) (hN : N ≤ w.heap.size) (hI : StI N gr gw n p0 p1 kv mv gv nv W V ((k + 1 : Nat) : Int) w) (hk : k ≤ 4194304) (hM : StM N w (d + 1) cs t) (hok : okS ps nv (d + 1) t) (hps : ∀ p ∈ ps, p ≤ 64) (hev : evs W V 8 t.nd.a = none) :
    Calls Try.prog 35 (stArgs gr gv nv cs) w (StP N gr gw n p0 p1 kv mv gv nv ⟨2, 0, ⟨W, V, k⟩⟩ w) := by
  obtain ⟨hmy, hoa, -, -⟩ := okS_s hok
  obtain ⟨sa, na, ca, sb, nb, cb, sc, nc, cc, rfl, hk0, hSa, -⟩ := hM
  have b0 := ab w (.cells (stC t.nd.k t.nd.v t.nd.f t.nd.t (.slice sa na ca) (.slice sb nb cb) (.slice sc nc cc)).toArray 78)
  have hI1 := hI.bl b0
  have hbn := burn_ok _ hI1.run hk
  obtain ⟨hI2, hvs⟩ := begun (k := k) _ (by simp; omega) hI1 (hSa.imp (b0.mono hN) (ExM.below (b0.mono hN) 8)) hoa (by rw [hSa.len.out]; exact fewS hps hmy)
  have A := (Arr.new w 78 (stC t.nd.k t.nd.v t.nd.f t.nd.t (.slice sa na ca) (.slice sb nb cb) (.slice sc nc cc)).toArray).setOther (a := ⟨gr, 3, none⟩) (.int .i64 (k : Int)) (by have := hI.run.ar.lt; show w.heap.size ≠ gr; omega)
  have a4 := A.cell 4
  have hc : Ch (fun k => k = gr ∨ k = gw ∨ k = gv) w ((w.alloc (.cells (stC t.nd.k t.nd.v t.nd.f t.nd.t (.slice sa na ca) (.slice sb nb cb) (.slice sc nc cc)).toArray 78)).setCell ⟨gr, 3, none⟩ (.int .i64 (k : Int))) := (Ch.ob b0).st _ (fun _ => .inl rfl)
  rw [hev] at hvs
  clear hI hSa hoa hmy hok hI1 A
  unfold stArgs
  generalize hQ : ((w.alloc (.cells (stC t.nd.k t.nd.v t.nd.f t.nd.t (.slice sa na ca) (.slice sb nb cb) (.slice sc nc cc)).toArray 78)).setCell ⟨gr, 3, none⟩ (.int .i64 (k : Int))) = Q at *
  unfold stC at *
  go_enter Try.func35, Try.ntmps35
  go_wp2_with (first
    | (go_at_call 42; go_must (refine hbn.mono ?_; rintro e w1 ⟨rfl, h, -⟩; replace h := h.symm; subst h))
    | (go_at_call 43; go_must (refine hvs.mono ?_; rintro e w2 ⟨-, hn, hb2⟩; have hn' := hn rfl; subst hn')))
  exact ⟨rfl, rfl, hI2.bl hb2, hc.trans (Ch.ob hb2)⟩
set_option maxHeartbeats 1000000 in
theorem stmt_set {k : Nat} {ps : List Int} {x : Int} (w : World) (hN : N ≤ w.heap.size) (hI : StI N gr gw n p0 p1 kv mv gv nv W V ((k + 1 : Nat) : Int) w) (hk : k ≤ 4194304) (hM : StM N w (d + 1) cs t) (hok : okS ps nv (d + 1) t) (hps : ∀ p ∈ ps, p ≤ 64) (h1 : t.nd.k = 1) (hev : evs W V 8 t.nd.a = some [x]) (hxU : U64 x) :
    Calls Try.prog 35 (stArgs gr gv nv cs) w (StP N gr gw n p0 p1 kv mv gv nv ⟨0, 0, ⟨W, V.set t.nd.v.toNat x, k⟩⟩ w) := by
  obtain ⟨hmy, hoa, -, -⟩ := okS_s hok
  obtain ⟨sa, na, ca, sb, nb, cb, sc, nc, cc, hcs, hk0, hSa, -⟩ := hM
  have hv : 0 ≤ t.nd.v ∧ t.nd.v < nv := by simp [mayS, h1] at hmy; omega
  obtain ⟨j, hj⟩ : ∃ j : Nat, t.nd.v = j := ⟨t.nd.v.toNat, by omega⟩
  have hjn : j < nv := by omega
  have hjn' : (j : Int) < nv := by omega
  rw [h1, hj] at hcs
  rw [show t.nd.v.toNat = j by omega]
  subst hcs
  have b0 := ab w (.cells (stC 1 j t.nd.f t.nd.t (.slice sa na ca) (.slice sb nb cb) (.slice sc nc cc)).toArray 78)
  have hI1 := hI.bl b0
  have hbn := burn_ok _ hI1.run hk
  obtain ⟨hI2, hvs⟩ := begun (k := k) _ (by simp; omega) hI1 (hSa.imp (b0.mono hN) (ExM.below (b0.mono hN) 8)) hoa (by rw [hSa.len.out]; exact fewS hps hmy)
  have A := (Arr.new w 78 (stC 1 j t.nd.f t.nd.t (.slice sa na ca) (.slice sb nb cb) (.slice sc nc cc)).toArray).setOther (a := ⟨gr, 3, none⟩) (.int .i64 (k : Int)) (by have := hI.run.ar.lt; show w.heap.size ≠ gr; omega)
  have a4 := A.cell 4
  have hc : Ch (fun k => k = gr ∨ k = gw ∨ k = gv) w ((w.alloc (.cells (stC 1 j t.nd.f t.nd.t (.slice sa na ca) (.slice sb nb cb) (.slice sc nc cc)).toArray 78)).setCell ⟨gr, 3, none⟩ (.int .i64 (k : Int))) := (Ch.ob b0).st _ (fun _ => .inl rfl)
  rw [hev] at hvs
  clear hI hSa hoa hmy hok hI1 h1 hj hv hev
  unfold stArgs
  generalize hQ : ((w.alloc (.cells (stC 1 j t.nd.f t.nd.t (.slice sa na ca) (.slice sb nb cb) (.slice sc nc cc)).toArray 78)).setCell ⟨gr, 3, none⟩ (.int .i64 (k : Int))) = Q at *
  unfold stC at *
  go_enter Try.func35, Try.ntmps35
  go_upto_region 5 with (first
    | (go_at_call 42; go_must (refine hbn.mono ?_; rintro e w1 ⟨rfl, h, -⟩; replace h := h.symm; subst h))
    | (go_at_call 43; go_must (refine hvs.mono ?_; rintro e w2 ⟨hn, -, hb2⟩; obtain ⟨g, c, hn', hg, hcl, hlc, hgl⟩ := hn _ rfl; subst hn'; have A2 := A.bl hb2; have k0 := A2.cell 0; have k1 := A2.cell 1; have x0 := hcl 0 x rfl; have hI3 := hI2.bl hb2; have vc := hI3.var.av.cell j; have vf := hI3.var.av.frozen j)))
  have hgv : gv < w2.heap.size := hI3.var.av.lt
  rw [uA_get (by rw [hI3.var.len.out]; exact hjn)] at vc
  have hI4 : StI N gr gw n p0 p1 kv mv gv nv W (V.set j x) (k : Int) (w2.setCell ⟨gv, j, none⟩ (.int .u64 x)) :=
    ⟨⟨hI3.run.ar.setOther _ hI3.n1, hI3.run.aw.setOther _ hI3.n2, hI3.run.ne, hI3.run.len, hI3.run.n10, hI3.run.wU⟩, ⟨by rw [← uA_set]; exact hI3.var.av.set j _, hid (by rw [List.length_set]; exact hI3.var.len.out), hI3.var.n64, fun y hy => by
      rcases List.mem_or_eq_of_mem_set hy with h | h
      · exact hI3.var.vU y h
      · rw [h]; exact hxU⟩, hI3.n1, hI3.n2, hI3.l1, hI3.l2, hI3.l3⟩
  have hc4 : Ch (fun k => k = gr ∨ k = gw ∨ k = gv) w (w2.setCell ⟨gv, j, none⟩ (.int .u64 x)) := (hc.trans (Ch.ob hb2)).st _ (fun _ => .inr (.inr rfl))
  go_region
  go_wp2_with fail
  go_end0
  exact ⟨rfl, hI4.dw, hc4.dw⟩
set_option maxHeartbeats 1000000 in
theorem stmt_store {k : Nat} {ps : List Int} {x : Int} {q : Nat} (w : World) (hN : N ≤ w.heap.size) (hI : StI N gr gw n p0 p1 kv mv gv nv W V ((k + 1 : Nat) : Int) w) (hk : k ≤ 4194304) (hM : StM N w (d + 1) cs t) (hok : okS ps nv (d + 1) t) (hps : ∀ p ∈ ps, p ≤ 64) (h1 : t.nd.k = 2) (hev : evs W V 8 t.nd.a = some [(q : Int), x]) (hxU : U64 x) (hq : q < n) :
    Calls Try.prog 35 (stArgs gr gv nv cs) w (StP N gr gw n p0 p1 kv mv gv nv ⟨0, 0, ⟨W.set q x, V, k⟩⟩ w) := by
  obtain ⟨hmy, hoa, -, -⟩ := okS_s hok
  obtain ⟨sa, na, ca, sb, nb, cb, sc, nc, cc, hcs, hk0, hSa, -⟩ := hM
  rw [h1] at hcs
  subst hcs
  have b0 := ab w (.cells (stC 2 t.nd.v t.nd.f t.nd.t (.slice sa na ca) (.slice sb nb cb) (.slice sc nc cc)).toArray 78)
  have hI1 := hI.bl b0
  have hbn := burn_ok _ hI1.run hk
  obtain ⟨hI2, hvs⟩ := begun (k := k) _ (by simp; omega) hI1 (hSa.imp (b0.mono hN) (ExM.below (b0.mono hN) 8)) hoa (by rw [hSa.len.out]; exact fewS hps hmy)
  have A := (Arr.new w 78 (stC 2 t.nd.v t.nd.f t.nd.t (.slice sa na ca) (.slice sb nb cb) (.slice sc nc cc)).toArray).setOther (a := ⟨gr, 3, none⟩) (.int .i64 (k : Int)) (by have := hI.run.ar.lt; show w.heap.size ≠ gr; omega)
  have a4 := A.cell 4
  have hc : Ch (fun k => k = gr ∨ k = gw ∨ k = gv) w ((w.alloc (.cells (stC 2 t.nd.v t.nd.f t.nd.t (.slice sa na ca) (.slice sb nb cb) (.slice sc nc cc)).toArray 78)).setCell ⟨gr, 3, none⟩ (.int .i64 (k : Int))) := (Ch.ob b0).st _ (fun _ => .inl rfl)
  rw [hev] at hvs
  clear hI hSa hoa hmy hok hI1 h1 hev
  unfold stArgs
  generalize hQ : ((w.alloc (.cells (stC 2 t.nd.v t.nd.f t.nd.t (.slice sa na ca) (.slice sb nb cb) (.slice sc nc cc)).toArray 78)).setCell ⟨gr, 3, none⟩ (.int .i64 (k : Int))) = Q at *
  unfold stC at *
  go_enter Try.func35, Try.ntmps35
  go_upto_region 7 with (first
    | (go_at_call 42; go_must (refine hbn.mono ?_; rintro e w1 ⟨rfl, h, -⟩; replace h := h.symm; subst h))
    | (go_at_call 43; go_must (refine hvs.mono ?_; rintro e w2 ⟨hn, -, hb2⟩; obtain ⟨g, c, hn', hg, hcl, hlc, hgl⟩ := hn _ rfl; subst hn'; have A2 := A.bl hb2; have k0 := A2.cell 0; have x0 := hcl 0 _ rfl; have x1 := hcl 1 _ rfl; have hI3 := hI2.bl hb2)))
  have hwd := word_ok (x := (q : Int)) w2.drew hI3.dw.run rfl hq
  have wc : w2.cell? ⟨gw, q, none⟩ = some (.int .u64 (W.getD q 0)) := (hI3.run.aw.cell q).trans (uA_get (by rw [hI3.run.len.out]; exact hq))
  have wf := hI3.run.aw.frozen q
  have hI4 : StI N gr gw n p0 p1 kv mv gv nv (W.set q x) V (k : Int) (w2.setCell ⟨gw, q, none⟩ (.int .u64 x)) :=
    ⟨⟨hI3.run.ar.setOther _ hI3.run.ne, by rw [← uA_set]; exact hI3.run.aw.set q _, hI3.run.ne, hid (by rw [List.length_set]; exact hI3.run.len.out), hI3.run.n10, fun y hy => by
      rcases List.mem_or_eq_of_mem_set hy with h | h
      · exact hI3.run.wU y h
      · rw [h]; exact hxU⟩, ⟨hI3.var.av.setOther _ (fun e => hI3.n2 e.symm), hI3.var.len, hI3.var.n64, hI3.var.vU⟩, hI3.n1, hI3.n2, hI3.l1, hI3.l2, hI3.l3⟩
  have hc4 : Ch (fun k => k = gr ∨ k = gw ∨ k = gv) w (w2.setCell ⟨gw, q, none⟩ (.int .u64 x)) := (hc.trans (Ch.ob hb2)).st _ (fun _ => .inr (.inl rfl))
  generalize W.getD q 0 = old at *
  go_region_with (go_at_call 44; go_must (refine hwd.mono ?_; rintro e w3 ⟨rfl, h⟩; replace h := h.symm; subst h))
  all_goals
    go_wp2_with fail
    go_end0
    exact ⟨rfl, hI4.dw, hc4.dw⟩
end Go.Proofs.Ytmljihggooaboaa
/- Layer interp: statements that go on. -/
namespace Go.Proofs.Ytmljihggooaboaa
open Go.RowKit
set_option maxRecDepth 100000
set_option linter.unusedVariables false
set_option linter.unusedSimpArgs false

variable {N gr gw n : Nat} {p0 p1 kv mv : Value} {gv nv : Nat} {W V : List Int} {lf : Int} {d : Nat}
set_option maxHeartbeats 1000000 in
theorem stmts_on {sp : Option Addr} {m cap : Nat} {l : List (StT (d + 1))} (S : Nat → SS) (w : World) (hN : N ≤ w.heap.size) (hI : StI N gr gw n p0 p1 kv mv gv nv (S 0).W (S 0).V (S 0).lf w) (hS : RS N w 7 (StM N w (d + 1)) sp m cap l)
    (hst : ∀ (j : Nat) (t : StT (d + 1)) (u : World) (cs : List Value), l[j]? = some t → N ≤ u.heap.size → StI N gr gw n p0 p1 kv mv gv nv (S j).W (S j).V (S j).lf u → StM N u (d + 1) cs t → Calls Try.prog 35 (stArgs gr gv nv cs) u (StP N gr gw n p0 p1 kv mv gv nv ⟨0, 0, S (j + 1)⟩ u)) :
    Calls Try.prog 27 #[.pointer (some ⟨gr, 0, none⟩), .slice sp m cap, .slice (some ⟨gv, 0, none⟩) nv nv] w (StP N gr gw n p0 p1 kv mv gv nv ⟨0, 0, S m⟩ w) := by
  have hlen := hS.len
  have hsm := hS.small
  go_enter Try.func27, Try.ntmps27
  go_upto_region 1 with fail
  go_loopw [10] (fun i wr => ∃ j : Nat, i = .int .i64 (j : Int) ∧ j ≤ m ∧ StI N gr gw n p0 p1 kv mv gv nv (S j).W (S j).V (S j).lf wr ∧ Ch (fun k => k = gr ∨ k = gw ∨ k = gv) w wr)
    (fun i _ => m - (intOf i).toNat)
  case atStart => exact ⟨0, rfl, by omega, hI, Ch.refl _ _⟩
  case round =>
    obtain ⟨j, rfl, hj, hIj, hc⟩ := hrel
    have hlow := hI.low hN hc
    by_cases hlt : j < m
    · obtain ⟨t, ht⟩ : ∃ t, l[j]? = some t := ⟨l[j]'(by rw [← hlen.out]; exact hlt), List.getElem?_eq_getElem _⟩
      obtain ⟨g, off, rfl, hg, hR⟩ := hS.at0 (by omega)
      obtain ⟨cs, hrg, hM⟩ := hR j t ht
      have hrg2 := rb hrg hlow hg
      have hM2 := StM.below hlow (d + 1) cs t hM
      obtain ⟨xk, xv, xf, xt, xa, ya, za, xb, yb, zb, xc, yc, zc, rfl⟩ := hM.cells
      have c0 := hrg2 0 _ rfl
      have c1 := hrg2 1 _ rfl
      have c2 := hrg2 2 _ rfl
      have c3 := hrg2 3 _ rfl
      have c4 := hrg2 4 _ rfl
      have c5 := hrg2 5 _ rfl
      have c6 := hrg2 6 _ rfl
      simp only [Nat.add_zero] at c0
      have hlt' : (j : Int) < m := by omega
      have h0 : (0 : Int) ≤ j := by omega
      have hs := hlow.size
      have b1 := ab wr (.cells (stC xk xv xf xt (.slice xa ya za) (.slice xb yb zb) (.slice xc yc zc)).toArray 78)
      have hcc := hst j t _ _ ht (by have := b1.size; omega) (hIj.bl b1) (StM.below (b1.mono (by omega)) (d + 1) _ t hM2)
      have hc1 := hc.trans (Ch.ob b1)
      clear hS hR hrg hrg2 hM hM2 hst hlen ht hI hIj
      unfold stArgs at hcc
      unfold stC at *
      go_wp2_with (go_at_call 35; go_must (refine hcc.mono ?_; rintro e w1 ⟨he, hI1, hc2⟩; replace he : e = .returned (.tuple #[]) := he; subst he))
      go_roundw
      case rel => exact ⟨j + 1, by go_num, by omega, hI1, hc1.trans hc2⟩
      case measure => simp [intOf]; omega
    · obtain rfl : j = m := by omega
      clear hS hlen hst
      go_wp2_with fail
      go_end0
      exact ⟨rfl, hIj, hc⟩
end Go.Proofs.Ytmljihggooaboaa
