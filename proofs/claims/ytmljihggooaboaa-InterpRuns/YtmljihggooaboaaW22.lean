/- Layer interp: SPre and SPlen. -/
import Derived.Test.YtmljihggooaboaaW21
import Derived.Test.YtmljihggooaboaaW19
import Derived.Test.YtmljihggooaboaaW09
import Derived.Handy
import Derived.BigQuiet
import Derived.BigRegion
import Derived.Laws.MakeOwn
namespace Go.Proofs.Ytmljihggooaboaa
open Go.RowKit
set_option maxRecDepth 100000
set_option linter.unusedVariables false
set_option linter.unusedSimpArgs false

variable {Z N gr gw n gm : Nat} {p0 p1 : Value} {R : World → Prop} {es : List En} {kp : Option Addr} {kn kc : Nat} {gv nv : Nat} {W V : List Int} {d k : Nat} {t : StT (d + 1)} {cs : List Value} {ps : List Int}
set_option maxHeartbeats 2000000 in
theorem stmt_pre {a b : Int} {j : Nat} {bs : List Int} (hr : prW es W a = some bs) (w : World) (hN : N ≤ w.heap.size) (hX : XK (XB R es Z N gm kp kn kc) Z gr gw) (h : KI (XB R es Z N gm kp kn kc) Z N gr gw n p0 p1 (.slice kp kn kc) (.map (some gm)) gv nv ⟨W, V, k + 1⟩ w) (hM : StM N w (d + 1) cs t) (hok : okS ps nv (d + 1) t) (hps : ∀ p ∈ ps, p ≤ 64) (h1 : t.nd.k = 8) (hev : evs W V 8 t.nd.a = some [a, b]) (hUa : U64 a) (hUb : U64 b) (hj : t.nd.v = j) (hjn : j < nv) (hNZ : N ≤ Z) (hm1 : N ≤ gm) (hm2 : gm < Z) (n1 : gm ≠ gr) (n2 : gm ≠ gw) :
    Calls Try.prog 35 (stArgs gr gv nv cs) w (KP (KI (XB R es Z N gm kp kn kc) Z N gr gw n p0 p1 (.slice kp kn kc) (.map (some gm)) gv nv) (PP gr gw gm gv) ⟨0, 0, ⟨W, V.set j (pcN bs b.toNat 8), k⟩⟩ w) := by
  obtain ⟨hmy, hoa, -, -⟩ := okS_s hok
  obtain ⟨sa, na, ca, sb, nb, cb, sc, nc, cc, hcs, hk0, hSa, hSb, hSc⟩ := hM
  rw [h1, hj] at hcs
  subst hcs
  have hI := h.st
  replace hI : StI N gr gw n p0 p1 (.slice kp kn kc) (.map (some gm)) gv nv W V ((k + 1 : Nat) : Int) w := hI
  have hk : k ≤ 4194304 := by have := h.lf; simp at this; omega
  have b0 := ab w (.cells (stC 8 (j : Int) t.nd.f t.nd.t (.slice sa na ca) (.slice sb nb cb) (.slice sc nc cc)).toArray 78)
  have hI1 := hI.bl b0
  have hbn := burn_ok _ hI1.run hk
  obtain ⟨hI2, hvs⟩ := begun (k := k) _ (by simp; omega) hI1 (hSa.imp (b0.mono hN) (ExM.below (b0.mono hN) 8)) hoa (by rw [hSa.len.out]; exact fewS hps hmy)
  have A := (Arr.new w 78 (stC 8 (j : Int) t.nd.f t.nd.t (.slice sa na ca) (.slice sb nb cb) (.slice sc nc cc)).toArray).setOther (a := ⟨gr, 3, none⟩) (.int .i64 (k : Int)) (by have := hI.run.ar.lt; show w.heap.size ≠ gr; omega)
  have a4 := A.cell 4
  have hc : Ch (fun k => k = gr ∨ k = gw ∨ k = gv) w ((w.alloc (.cells (stC 8 (j : Int) t.nd.f t.nd.t (.slice sa na ca) (.slice sb nb cb) (.slice sc nc cc)).toArray 78)).setCell ⟨gr, 3, none⟩ (.int .i64 (k : Int))) := (Ch.ob b0).st _ (fun _ => .inl rfl)
  have hKQ : ∀ u, Below _ _ u → KI (XB R es Z N gm kp kn kc) Z N gr gw n p0 p1 (.slice kp kn kc) (.map (some gm)) gv nv ⟨W, V, k⟩ u := fun u hb => (KI.of (gm := 0) hX h (r := ⟨0, 0, ⟨W, V, k⟩⟩) (by simp) ⟨rfl, hI2, hc⟩).2.1.bl hX hb
  have hcP : ∀ u, Below _ _ u → Ch (PP gr gw gm gv) w u := fun u hb => (hc.imp fun k hk => by rcases hk with hk | hk | hk; exact .inl hk; exact .inr (.inl hk); exact .inr (.inr (.inr hk))).trans (Ch.ob hb)
  have hwP : w.heap.size ≠ gr ∧ w.heap.size ≠ gw ∧ w.heap.size ≠ gv := by
    have q1 := hI.run.ar.lt; have q2 := hI.run.aw.lt; have q3 := hI.var.av.lt
    omega
  have hjn' : (j : Int) < nv := by omega
  have hzv := h.z
  have hzz := h.zz
  rw [hev] at hvs
  clear hI hSa hSb hSc hoa hmy hok hI1 h1 hev h hj
  unfold stArgs
  generalize hQ : ((w.alloc (.cells (stC 8 (j : Int) t.nd.f t.nd.t (.slice sa na ca) (.slice sb nb cb) (.slice sc nc cc)).toArray 78)).setCell ⟨gr, 3, none⟩ (.int .i64 (k : Int))) = Q at *
  unfold stC at *
  go_enter Try.func35, Try.ntmps35
  go_upto_region 24 with (first
    | (go_at_call 42; go_must (refine hbn.mono ?_; rintro e w1 ⟨rfl, h, -⟩; replace h := h.symm; subst h))
    | (go_at_call 43; go_must (refine hvs.mono ?_; rintro e w2 ⟨hn, -, hb2⟩; obtain ⟨g, c, hn', hg, hcl, hlc, hgl⟩ := hn _ rfl; subst hn'; have A2 := A.bl hb2; have k0 := A2.cell 0)))
  have hK2 := hKQ _ hb2
  have hcw := hcP _ hb2
  have x0 := hcl 0 _ rfl
  have x1 := hcl 1 _ rfl
  have k1 : w2.cell? ⟨w.heap.size, 1, none⟩ = some (.int .i64 (j : Int)) := A2.cell 1
  have hgl2 : g ≠ gm := by have := hI2.var.av.lt; omega
  have hwm : w.heap.size ≠ gm := by omega
  have hnv64 := hK2.st.var.n64
  have hpa := Hid.mk' (preAt_any w2.drew hK2.st.dw.run (hX _ _ hK2.x hK2.zz (Ch.refl _ _).dw) hNZ hK2.zz hm1 hm2 n1 n2 hUa)
  rw [hr] at hpa
  clear hr
  clear hcl hvs hbn a4 hKQ hcP A2 k0
  refine rgn (fun u => u.cell? ⟨w.heap.size, 1, none⟩ = some (.int .i64 (j : Int)) ∧ u.cell? ⟨g, 0, none⟩ = some (.int .u64 a) ∧ u.cell? ⟨g, 1, none⟩ = some (.int .u64 b)) ⟨k1, x0, x1⟩ (fun hS => ?_)
  refine tk3 0 rfl ?_
  refine tk3 1 rfl ?_
  refine tk3 2 rfl ?_
  refine tk3 3 rfl ?_
  refine tk3 4 rfl ?_
  refine tk3 5 rfl ?_
  refine tk3 6 rfl ?_
  refine tk3 8 rfl ?_
  refine tk3 9 rfl ?_
  refine tk3 10 rfl ?_
  refine rd 7 rfl (fun K hK => ?_)
  go_simp
  refine hpa.out.mono ?_
  rintro e w3 ⟨hc3, hx3, ⟨bs', nb2, v, hq, rfl, ho, hbt, hbn2⟩ | ⟨hq, -⟩⟩
  rotate_left
  · cases hq
  obtain rfl : bs = bs' := by cases hq; rfl
  clear hq
  obtain ⟨sp3, cp3, rfl, hB3, -⟩ := own_bs ho hbt hbn2
  have T : ∀ (q o : Nat) (y : Value), q ≠ gm → w2.cell? ⟨q, o, none⟩ = some y → w3.cell? ⟨q, o, none⟩ = some y := fun q o y h1 h2 => (World.cell?_of_block (hc3.block q (block_lt_of_cell h2) h1)).trans h2
  have hgm : gv ≠ gm := by omega
  have S3 := And.intro (T _ _ _ hwm k1) (And.intro (T _ _ _ hgl2 x0) (T _ _ _ hgl2 x1))
  have hpc := Hid.mk' (piece_any w3 hB3 hUb)
  have hxU : U64 (pcN bs b.toNat 8) := pcN_u hbt _
  go_wp2_with fail
  refine hK.out _ _ S3 (fun hS3 => ?_)
  clear hK K
  try simp only [Act.put, List.setIfInBounds_toArray, List.set_cons_zero, List.set_cons_succ]
  refine rd 11 rfl (fun K hK => ?_)
  go_simp
  refine hpc.out.mono ?_
  rintro e w4 ⟨rfl, hb4⟩
  have T4 : ∀ (q o : Nat) (y : Value), w3.cell? ⟨q, o, none⟩ = some y → w4.cell? ⟨q, o, none⟩ = some y := fun q o y h2 => (hb4.cell (p := ⟨q, o, none⟩) (block_lt_of_cell h2)).trans h2
  generalize pcN bs b.toNat 8 = x at *
  go_wp2_with fail
  refine hK.out _ _ ⟨T4 _ _ _ hS3.1, T4 _ _ _ hS3.2.1, T4 _ _ _ hS3.2.2⟩ (fun hS4 => ?_)
  clear hK K
  try simp only [Act.put, List.setIfInBounds_toArray, List.set_cons_zero, List.set_cons_succ]
  have hR4 : RunI gr gw n p0 p1 (.slice kp kn kc) (.map (some gm)) W k w4 := RunI.bl ⟨hc3.arr hK2.st.run.ar.drew n1.symm, hc3.arr hK2.st.run.aw.drew n2.symm, hK2.st.run.ne, hK2.st.run.len, hK2.st.run.n10, hK2.st.run.wU⟩ hb4
  have hV4 : VarI gv nv V w4 := VarI.bl ⟨hc3.arr hK2.st.var.av.drew hgm, hK2.st.var.len, hK2.st.var.n64, hK2.st.var.vU⟩ hb4
  have hz3 : Z ≤ w3.heap.size := by have h' : w2.heap.size ≤ w3.heap.size := hc3.size; have := hK2.zz; omega
  have hx4 := hx3.ch hNZ hz3 hb4
  have hz4 : Z ≤ w4.heap.size := by have := (hb4).size; omega
  have hcP4 : Ch (PP gr gw gm gv) w w4 := ((hcw.dw).trans (hc3.imp fun k hk => .inr (.inr (.inl hk)))).trans (Ch.ob hb4)
  have vc := hV4.av.cell j
  rw [uA_get (by rw [hV4.len.out]; exact hjn)] at vc
  have vf := hV4.av.frozen j
  have hI5 : KI (XB R es Z N gm kp kn kc) Z N gr gw n p0 p1 (.slice kp kn kc) (.map (some gm)) gv nv ⟨W, V.set j x, k⟩ (w4.setCell ⟨gv, j, none⟩ (.int .u64 x)) :=
    ⟨⟨⟨hR4.ar.setOther _ hK2.st.n1, hR4.aw.setOther _ hK2.st.n2, hR4.ne, hR4.len, hR4.n10, hR4.wU⟩, ⟨by rw [← uA_set]; exact hV4.av.set j _, hid (by rw [List.length_set]; exact hV4.len.out), hV4.n64, fun y hy => by
      rcases List.mem_or_eq_of_mem_set hy with h | h
      · exact hV4.vU y h
      · rw [h]; exact hxU⟩, hK2.st.n1, hK2.st.n2, hK2.st.l1, hK2.st.l2, hK2.st.l3⟩, hX _ _ hx4 hz4 ((Ch.refl _ w4).st _ (fun _ => .inr (.inr ⟨hK2.z, nb_of hV4.av (by omega)⟩))), hK2.z, hK2.lf⟩
  have hc5 := hcP4.st (g := gv) (j := j) (.int .u64 x) (fun _ => .inr (.inr (.inr rfl)))
  have hgv5 : w.heap.size ≠ gv ∧ g ≠ gv := by have := hI2.var.av.lt; exact ⟨hwP.2.2, by omega⟩
  refine tk3 12 rfl ?_
  refine rd 13 rfl (fun K hK => ?_)
  go_simp
  have T5 : ∀ (q o : Nat) (y : Value), gv ≠ q → w4.cell? ⟨q, o, none⟩ = some y → (w4.setCell ⟨gv, j, none⟩ (.int .u64 x)).cell? ⟨q, o, none⟩ = some y := fun q o y h1 h2 => (World.cell?_setCell_far _ _ _ _ h1).trans h2
  refine hK.out _ _ ⟨T5 _ _ _ hgv5.1.symm hS4.1, T5 _ _ _ hgv5.2.symm hS4.2.1, T5 _ _ _ hgv5.2.symm hS4.2.2⟩ (fun hS5 => ?_)
  clear hK K
  try simp only [Act.put, List.setIfInBounds_toArray, List.set_cons_zero, List.set_cons_succ]
  refine dn ?_
  go_wp2_with fail
  go_end0
  exact ⟨rfl, hI5, hc5⟩
set_option maxHeartbeats 2000000 in
theorem stmt_preno {a b : Int} {j : Nat} (hr : prW es W a = none) (w : World) (hN : N ≤ w.heap.size) (hX : XK (XB R es Z N gm kp kn kc) Z gr gw) (h : KI (XB R es Z N gm kp kn kc) Z N gr gw n p0 p1 (.slice kp kn kc) (.map (some gm)) gv nv ⟨W, V, k + 1⟩ w) (hM : StM N w (d + 1) cs t) (hok : okS ps nv (d + 1) t) (hps : ∀ p ∈ ps, p ≤ 64) (h1 : t.nd.k = 8) (hev : evs W V 8 t.nd.a = some [a, b]) (hUa : U64 a) (hUb : U64 b) (hj : t.nd.v = j) (hjn : j < nv) (hNZ : N ≤ Z) (hm1 : N ≤ gm) (hm2 : gm < Z) (n1 : gm ≠ gr) (n2 : gm ≠ gw) :
    Calls Try.prog 35 (stArgs gr gv nv cs) w (KP (KI (XB R es Z N gm kp kn kc) Z N gr gw n p0 p1 (.slice kp kn kc) (.map (some gm)) gv nv) (PP gr gw gm gv) ⟨2, 0, ⟨W, V, k⟩⟩ w) := by
  obtain ⟨hmy, hoa, -, -⟩ := okS_s hok
  obtain ⟨sa, na, ca, sb, nb, cb, sc, nc, cc, hcs, hk0, hSa, hSb, hSc⟩ := hM
  rw [h1, hj] at hcs
  subst hcs
  have hI := h.st
  replace hI : StI N gr gw n p0 p1 (.slice kp kn kc) (.map (some gm)) gv nv W V ((k + 1 : Nat) : Int) w := hI
  have hk : k ≤ 4194304 := by have := h.lf; simp at this; omega
  have b0 := ab w (.cells (stC 8 (j : Int) t.nd.f t.nd.t (.slice sa na ca) (.slice sb nb cb) (.slice sc nc cc)).toArray 78)
  have hI1 := hI.bl b0
  have hbn := burn_ok _ hI1.run hk
  obtain ⟨hI2, hvs⟩ := begun (k := k) _ (by simp; omega) hI1 (hSa.imp (b0.mono hN) (ExM.below (b0.mono hN) 8)) hoa (by rw [hSa.len.out]; exact fewS hps hmy)
  have A := (Arr.new w 78 (stC 8 (j : Int) t.nd.f t.nd.t (.slice sa na ca) (.slice sb nb cb) (.slice sc nc cc)).toArray).setOther (a := ⟨gr, 3, none⟩) (.int .i64 (k : Int)) (by have := hI.run.ar.lt; show w.heap.size ≠ gr; omega)
  have a4 := A.cell 4
  have hc : Ch (fun k => k = gr ∨ k = gw ∨ k = gv) w ((w.alloc (.cells (stC 8 (j : Int) t.nd.f t.nd.t (.slice sa na ca) (.slice sb nb cb) (.slice sc nc cc)).toArray 78)).setCell ⟨gr, 3, none⟩ (.int .i64 (k : Int))) := (Ch.ob b0).st _ (fun _ => .inl rfl)
  have hKQ : ∀ u, Below _ _ u → KI (XB R es Z N gm kp kn kc) Z N gr gw n p0 p1 (.slice kp kn kc) (.map (some gm)) gv nv ⟨W, V, k⟩ u := fun u hb => (KI.of (gm := 0) hX h (r := ⟨0, 0, ⟨W, V, k⟩⟩) (by simp) ⟨rfl, hI2, hc⟩).2.1.bl hX hb
  have hcP : ∀ u, Below _ _ u → Ch (PP gr gw gm gv) w u := fun u hb => (hc.imp fun k hk => by rcases hk with hk | hk | hk; exact .inl hk; exact .inr (.inl hk); exact .inr (.inr (.inr hk))).trans (Ch.ob hb)
  have hwP : w.heap.size ≠ gr ∧ w.heap.size ≠ gw ∧ w.heap.size ≠ gv := by
    have q1 := hI.run.ar.lt; have q2 := hI.run.aw.lt; have q3 := hI.var.av.lt
    omega
  have hjn' : (j : Int) < nv := by omega
  have hzv := h.z
  have hzz := h.zz
  rw [hev] at hvs
  clear hI hSa hSb hSc hoa hmy hok hI1 h1 hev h hj
  unfold stArgs
  generalize hQ : ((w.alloc (.cells (stC 8 (j : Int) t.nd.f t.nd.t (.slice sa na ca) (.slice sb nb cb) (.slice sc nc cc)).toArray 78)).setCell ⟨gr, 3, none⟩ (.int .i64 (k : Int))) = Q at *
  unfold stC at *
  go_enter Try.func35, Try.ntmps35
  go_upto_region 24 with (first
    | (go_at_call 42; go_must (refine hbn.mono ?_; rintro e w1 ⟨rfl, h, -⟩; replace h := h.symm; subst h))
    | (go_at_call 43; go_must (refine hvs.mono ?_; rintro e w2 ⟨hn, -, hb2⟩; obtain ⟨g, c, hn', hg, hcl, hlc, hgl⟩ := hn _ rfl; subst hn'; have A2 := A.bl hb2; have k0 := A2.cell 0)))
  have hK2 := hKQ _ hb2
  have hcw := hcP _ hb2
  have x0 := hcl 0 _ rfl
  have x1 := hcl 1 _ rfl
  have k1 : w2.cell? ⟨w.heap.size, 1, none⟩ = some (.int .i64 (j : Int)) := A2.cell 1
  have hgl2 : g ≠ gm := by have := hI2.var.av.lt; omega
  have hwm : w.heap.size ≠ gm := by omega
  have hnv64 := hK2.st.var.n64
  have hpa := Hid.mk' (preAt_any w2.drew hK2.st.dw.run (hX _ _ hK2.x hK2.zz (Ch.refl _ _).dw) hNZ hK2.zz hm1 hm2 n1 n2 hUa)
  rw [hr] at hpa
  clear hr
  clear hcl hvs hbn a4 hKQ hcP A2 k0
  refine rgn (fun u => u.cell? ⟨w.heap.size, 1, none⟩ = some (.int .i64 (j : Int)) ∧ u.cell? ⟨g, 0, none⟩ = some (.int .u64 a) ∧ u.cell? ⟨g, 1, none⟩ = some (.int .u64 b)) ⟨k1, x0, x1⟩ (fun hS => ?_)
  refine tk3 0 rfl ?_
  refine tk3 1 rfl ?_
  refine tk3 2 rfl ?_
  refine tk3 3 rfl ?_
  refine tk3 4 rfl ?_
  refine tk3 5 rfl ?_
  refine tk3 6 rfl ?_
  refine tk3 8 rfl ?_
  refine tk3 9 rfl ?_
  refine tk3 10 rfl ?_
  refine rd 7 rfl (fun K hK => ?_)
  go_simp
  refine hpa.out.mono ?_
  rintro e w3 ⟨hc3, hx3, ⟨bs, nb2, v, hq, -⟩ | ⟨-, rfl⟩⟩
  · cases hq
  have hV3 : VarI gv nv V w3 := ⟨hc3.arr hK2.st.var.av.drew (by omega), hK2.st.var.len, hK2.st.var.n64, hK2.st.var.vU⟩
  have hR3 : RunI gr gw n p0 p1 (.slice kp kn kc) (.map (some gm)) W k w3 := ⟨hc3.arr hK2.st.run.ar.drew n1.symm, hc3.arr hK2.st.run.aw.drew n2.symm, hK2.st.run.ne, hK2.st.run.len, hK2.st.run.n10, hK2.st.run.wU⟩
  exact ⟨rfl, rfl, ⟨⟨hR3, hV3, hK2.st.n1, hK2.st.n2, hK2.st.l1, hK2.st.l2, hK2.st.l3⟩, hx3, hK2.z, hK2.lf⟩, (hcw.dw).trans (hc3.imp fun k hk => .inr (.inr (.inl hk)))⟩
set_option maxHeartbeats 2000000 in
theorem stmt_plen {a b : Int} {j : Nat} {bs : List Int} (hr : prW es W a = some bs) (w : World) (hN : N ≤ w.heap.size) (hX : XK (XB R es Z N gm kp kn kc) Z gr gw) (h : KI (XB R es Z N gm kp kn kc) Z N gr gw n p0 p1 (.slice kp kn kc) (.map (some gm)) gv nv ⟨W, V, k + 1⟩ w) (hM : StM N w (d + 1) cs t) (hok : okS ps nv (d + 1) t) (hps : ∀ p ∈ ps, p ≤ 64) (h1 : t.nd.k = 9) (hev : evs W V 8 t.nd.a = some [a]) (hUa : U64 a) (hUb : U64 b) (hj : t.nd.v = j) (hjn : j < nv) (hNZ : N ≤ Z) (hm1 : N ≤ gm) (hm2 : gm < Z) (n1 : gm ≠ gr) (n2 : gm ≠ gw) :
    Calls Try.prog 35 (stArgs gr gv nv cs) w (KP (KI (XB R es Z N gm kp kn kc) Z N gr gw n p0 p1 (.slice kp kn kc) (.map (some gm)) gv nv) (PP gr gw gm gv) ⟨0, 0, ⟨W, V.set j ((bs.length : Int)), k⟩⟩ w) := by
  obtain ⟨hmy, hoa, -, -⟩ := okS_s hok
  obtain ⟨sa, na, ca, sb, nb, cb, sc, nc, cc, hcs, hk0, hSa, hSb, hSc⟩ := hM
  rw [h1, hj] at hcs
  subst hcs
  have hI := h.st
  replace hI : StI N gr gw n p0 p1 (.slice kp kn kc) (.map (some gm)) gv nv W V ((k + 1 : Nat) : Int) w := hI
  have hk : k ≤ 4194304 := by have := h.lf; simp at this; omega
  have b0 := ab w (.cells (stC 9 (j : Int) t.nd.f t.nd.t (.slice sa na ca) (.slice sb nb cb) (.slice sc nc cc)).toArray 78)
  have hI1 := hI.bl b0
  have hbn := burn_ok _ hI1.run hk
  obtain ⟨hI2, hvs⟩ := begun (k := k) _ (by simp; omega) hI1 (hSa.imp (b0.mono hN) (ExM.below (b0.mono hN) 8)) hoa (by rw [hSa.len.out]; exact fewS hps hmy)
  have A := (Arr.new w 78 (stC 9 (j : Int) t.nd.f t.nd.t (.slice sa na ca) (.slice sb nb cb) (.slice sc nc cc)).toArray).setOther (a := ⟨gr, 3, none⟩) (.int .i64 (k : Int)) (by have := hI.run.ar.lt; show w.heap.size ≠ gr; omega)
  have a4 := A.cell 4
  have hc : Ch (fun k => k = gr ∨ k = gw ∨ k = gv) w ((w.alloc (.cells (stC 9 (j : Int) t.nd.f t.nd.t (.slice sa na ca) (.slice sb nb cb) (.slice sc nc cc)).toArray 78)).setCell ⟨gr, 3, none⟩ (.int .i64 (k : Int))) := (Ch.ob b0).st _ (fun _ => .inl rfl)
  have hKQ : ∀ u, Below _ _ u → KI (XB R es Z N gm kp kn kc) Z N gr gw n p0 p1 (.slice kp kn kc) (.map (some gm)) gv nv ⟨W, V, k⟩ u := fun u hb => (KI.of (gm := 0) hX h (r := ⟨0, 0, ⟨W, V, k⟩⟩) (by simp) ⟨rfl, hI2, hc⟩).2.1.bl hX hb
  have hcP : ∀ u, Below _ _ u → Ch (PP gr gw gm gv) w u := fun u hb => (hc.imp fun k hk => by rcases hk with hk | hk | hk; exact .inl hk; exact .inr (.inl hk); exact .inr (.inr (.inr hk))).trans (Ch.ob hb)
  have hwP : w.heap.size ≠ gr ∧ w.heap.size ≠ gw ∧ w.heap.size ≠ gv := by
    have q1 := hI.run.ar.lt; have q2 := hI.run.aw.lt; have q3 := hI.var.av.lt
    omega
  have hjn' : (j : Int) < nv := by omega
  have hzv := h.z
  have hzz := h.zz
  rw [hev] at hvs
  clear hI hSa hSb hSc hoa hmy hok hI1 h1 hev h hj
  unfold stArgs
  generalize hQ : ((w.alloc (.cells (stC 9 (j : Int) t.nd.f t.nd.t (.slice sa na ca) (.slice sb nb cb) (.slice sc nc cc)).toArray 78)).setCell ⟨gr, 3, none⟩ (.int .i64 (k : Int))) = Q at *
  unfold stC at *
  go_enter Try.func35, Try.ntmps35
  go_upto_region 26 with (first
    | (go_at_call 42; go_must (refine hbn.mono ?_; rintro e w1 ⟨rfl, h, -⟩; replace h := h.symm; subst h))
    | (go_at_call 43; go_must (refine hvs.mono ?_; rintro e w2 ⟨hn, -, hb2⟩; obtain ⟨g, c, hn', hg, hcl, hlc, hgl⟩ := hn _ rfl; subst hn'; have A2 := A.bl hb2; have k0 := A2.cell 0)))
  have hK2 := hKQ _ hb2
  have hcw := hcP _ hb2
  have x0 := hcl 0 _ rfl
  have k1 : w2.cell? ⟨w.heap.size, 1, none⟩ = some (.int .i64 (j : Int)) := A2.cell 1
  have hgl2 : g ≠ gm := by have := hI2.var.av.lt; omega
  have hwm : w.heap.size ≠ gm := by omega
  have hnv64 := hK2.st.var.n64
  have hpa := Hid.mk' (preAt_any w2.drew hK2.st.dw.run (hX _ _ hK2.x hK2.zz (Ch.refl _ _).dw) hNZ hK2.zz hm1 hm2 n1 n2 hUa)
  rw [hr] at hpa
  clear hr
  clear hcl hvs hbn a4 hKQ hcP A2 k0
  refine rgn (fun u => u.cell? ⟨w.heap.size, 1, none⟩ = some (.int .i64 (j : Int)) ∧ u.cell? ⟨g, 0, none⟩ = some (.int .u64 a)) ⟨k1, x0⟩ (fun hS => ?_)
  refine tk2 0 rfl ?_
  refine tk2 1 rfl ?_
  refine tk2 2 rfl ?_
  refine tk2 3 rfl ?_
  refine tk2 4 rfl ?_
  refine tk2 5 rfl ?_
  refine tk2 6 rfl ?_
  refine rd 7 rfl (fun K hK => ?_)
  go_simp
  refine hpa.out.mono ?_
  rintro e w3 ⟨hc3, hx3, ⟨bs', nb2, v, hq, rfl, ho, hbt, hbn2⟩ | ⟨hq, -⟩⟩
  rotate_left
  · cases hq
  obtain rfl : bs = bs' := by cases hq; rfl
  clear hq
  obtain ⟨sp3, cp3, rfl, hB3, -⟩ := own_bs ho hbt hbn2
  have T : ∀ (q o : Nat) (y : Value), q ≠ gm → w2.cell? ⟨q, o, none⟩ = some y → w3.cell? ⟨q, o, none⟩ = some y := fun q o y h1 h2 => (World.cell?_of_block (hc3.block q (block_lt_of_cell h2) h1)).trans h2
  have hgm : gv ≠ gm := by omega
  have S3 := And.intro (T _ _ _ hwm k1) (T _ _ _ hgl2 x0)
  obtain ⟨x, hx⟩ : ∃ x : Int, x = (nb2 : Int) := ⟨_, rfl⟩
  have hxU : U64 x := by unfold U64; omega
  have hwx : IntKind.u64.wrap (nb2 : Int) = x := by rw [wrap64_of (by omega) (by omega)]; exact hx.symm
  have hxb : x = (bs.length : Int) := by rw [hx, hB3.len.out]
  replace hx := Hid.mk' hx
  replace hxb := Hid.mk' hxb
  go_wp2_with fail
  refine hK.out _ _ S3 (fun hS3 => ?_)
  clear hK K
  try simp only [Act.put, List.setIfInBounds_toArray, List.set_cons_zero, List.set_cons_succ]
  refine tk2 8 rfl ?_
  refine tk2 9 rfl ?_
  have hR4 : RunI gr gw n p0 p1 (.slice kp kn kc) (.map (some gm)) W k w3 := RunI.bl ⟨hc3.arr hK2.st.run.ar.drew n1.symm, hc3.arr hK2.st.run.aw.drew n2.symm, hK2.st.run.ne, hK2.st.run.len, hK2.st.run.n10, hK2.st.run.wU⟩ (Below.refl w3.heap.size w3)
  have hV4 : VarI gv nv V w3 := VarI.bl ⟨hc3.arr hK2.st.var.av.drew hgm, hK2.st.var.len, hK2.st.var.n64, hK2.st.var.vU⟩ (Below.refl w3.heap.size w3)
  have hz3 : Z ≤ w3.heap.size := by have h' : w2.heap.size ≤ w3.heap.size := hc3.size; have := hK2.zz; omega
  have hx4 := hx3.ch hNZ hz3 (Below.refl w3.heap.size w3)
  have hz4 : Z ≤ w3.heap.size := by have := ((Below.refl w3.heap.size w3)).size; omega
  have hcP4 : Ch (PP gr gw gm gv) w w3 := ((hcw.dw).trans (hc3.imp fun k hk => .inr (.inr (.inl hk)))).trans (Ch.ob (Below.refl w3.heap.size w3))
  have vc := hV4.av.cell j
  rw [uA_get (by rw [hV4.len.out]; exact hjn)] at vc
  have vf := hV4.av.frozen j
  have hI5 : KI (XB R es Z N gm kp kn kc) Z N gr gw n p0 p1 (.slice kp kn kc) (.map (some gm)) gv nv ⟨W, V.set j x, k⟩ (w3.setCell ⟨gv, j, none⟩ (.int .u64 x)) :=
    ⟨⟨⟨hR4.ar.setOther _ hK2.st.n1, hR4.aw.setOther _ hK2.st.n2, hR4.ne, hR4.len, hR4.n10, hR4.wU⟩, ⟨by rw [← uA_set]; exact hV4.av.set j _, hid (by rw [List.length_set]; exact hV4.len.out), hV4.n64, fun y hy => by
      rcases List.mem_or_eq_of_mem_set hy with h | h
      · exact hV4.vU y h
      · rw [h]; exact hxU⟩, hK2.st.n1, hK2.st.n2, hK2.st.l1, hK2.st.l2, hK2.st.l3⟩, hX _ _ hx4 hz4 ((Ch.refl _ w3).st _ (fun _ => .inr (.inr ⟨hK2.z, nb_of hV4.av (by omega)⟩))), hK2.z, hK2.lf⟩
  have hc5 := hcP4.st (g := gv) (j := j) (.int .u64 x) (fun _ => .inr (.inr (.inr rfl)))
  have hgv5 : w.heap.size ≠ gv ∧ g ≠ gv := by have := hI2.var.av.lt; exact ⟨hwP.2.2, by omega⟩
  refine tk2 10 rfl ?_
  refine rd 11 rfl (fun K hK => ?_)
  go_simp
  have T5 : ∀ (q o : Nat) (y : Value), gv ≠ q → w3.cell? ⟨q, o, none⟩ = some y → (w3.setCell ⟨gv, j, none⟩ (.int .u64 x)).cell? ⟨q, o, none⟩ = some y := fun q o y h1 h2 => (World.cell?_setCell_far _ _ _ _ h1).trans h2
  refine hK.out _ _ ⟨T5 _ _ _ hgv5.1.symm hS3.1, T5 _ _ _ hgv5.2.symm hS3.2⟩ (fun hS5 => ?_)
  clear hK K
  try simp only [Act.put, List.setIfInBounds_toArray, List.set_cons_zero, List.set_cons_succ]
  refine dn ?_
  go_wp2_with fail
  go_end0
  rw [← hxb.out]
  exact ⟨rfl, hI5, hc5⟩
set_option maxHeartbeats 2000000 in
theorem stmt_plenno {a b : Int} {j : Nat} (hr : prW es W a = none) (w : World) (hN : N ≤ w.heap.size) (hX : XK (XB R es Z N gm kp kn kc) Z gr gw) (h : KI (XB R es Z N gm kp kn kc) Z N gr gw n p0 p1 (.slice kp kn kc) (.map (some gm)) gv nv ⟨W, V, k + 1⟩ w) (hM : StM N w (d + 1) cs t) (hok : okS ps nv (d + 1) t) (hps : ∀ p ∈ ps, p ≤ 64) (h1 : t.nd.k = 9) (hev : evs W V 8 t.nd.a = some [a]) (hUa : U64 a) (hUb : U64 b) (hj : t.nd.v = j) (hjn : j < nv) (hNZ : N ≤ Z) (hm1 : N ≤ gm) (hm2 : gm < Z) (n1 : gm ≠ gr) (n2 : gm ≠ gw) :
    Calls Try.prog 35 (stArgs gr gv nv cs) w (KP (KI (XB R es Z N gm kp kn kc) Z N gr gw n p0 p1 (.slice kp kn kc) (.map (some gm)) gv nv) (PP gr gw gm gv) ⟨2, 0, ⟨W, V, k⟩⟩ w) := by
  obtain ⟨hmy, hoa, -, -⟩ := okS_s hok
  obtain ⟨sa, na, ca, sb, nb, cb, sc, nc, cc, hcs, hk0, hSa, hSb, hSc⟩ := hM
  rw [h1, hj] at hcs
  subst hcs
  have hI := h.st
  replace hI : StI N gr gw n p0 p1 (.slice kp kn kc) (.map (some gm)) gv nv W V ((k + 1 : Nat) : Int) w := hI
  have hk : k ≤ 4194304 := by have := h.lf; simp at this; omega
  have b0 := ab w (.cells (stC 9 (j : Int) t.nd.f t.nd.t (.slice sa na ca) (.slice sb nb cb) (.slice sc nc cc)).toArray 78)
  have hI1 := hI.bl b0
  have hbn := burn_ok _ hI1.run hk
  obtain ⟨hI2, hvs⟩ := begun (k := k) _ (by simp; omega) hI1 (hSa.imp (b0.mono hN) (ExM.below (b0.mono hN) 8)) hoa (by rw [hSa.len.out]; exact fewS hps hmy)
  have A := (Arr.new w 78 (stC 9 (j : Int) t.nd.f t.nd.t (.slice sa na ca) (.slice sb nb cb) (.slice sc nc cc)).toArray).setOther (a := ⟨gr, 3, none⟩) (.int .i64 (k : Int)) (by have := hI.run.ar.lt; show w.heap.size ≠ gr; omega)
  have a4 := A.cell 4
  have hc : Ch (fun k => k = gr ∨ k = gw ∨ k = gv) w ((w.alloc (.cells (stC 9 (j : Int) t.nd.f t.nd.t (.slice sa na ca) (.slice sb nb cb) (.slice sc nc cc)).toArray 78)).setCell ⟨gr, 3, none⟩ (.int .i64 (k : Int))) := (Ch.ob b0).st _ (fun _ => .inl rfl)
  have hKQ : ∀ u, Below _ _ u → KI (XB R es Z N gm kp kn kc) Z N gr gw n p0 p1 (.slice kp kn kc) (.map (some gm)) gv nv ⟨W, V, k⟩ u := fun u hb => (KI.of (gm := 0) hX h (r := ⟨0, 0, ⟨W, V, k⟩⟩) (by simp) ⟨rfl, hI2, hc⟩).2.1.bl hX hb
  have hcP : ∀ u, Below _ _ u → Ch (PP gr gw gm gv) w u := fun u hb => (hc.imp fun k hk => by rcases hk with hk | hk | hk; exact .inl hk; exact .inr (.inl hk); exact .inr (.inr (.inr hk))).trans (Ch.ob hb)
  have hwP : w.heap.size ≠ gr ∧ w.heap.size ≠ gw ∧ w.heap.size ≠ gv := by
    have q1 := hI.run.ar.lt; have q2 := hI.run.aw.lt; have q3 := hI.var.av.lt
    omega
  have hjn' : (j : Int) < nv := by omega
  have hzv := h.z
  have hzz := h.zz
  rw [hev] at hvs
  clear hI hSa hSb hSc hoa hmy hok hI1 h1 hev h hj
  unfold stArgs
  generalize hQ : ((w.alloc (.cells (stC 9 (j : Int) t.nd.f t.nd.t (.slice sa na ca) (.slice sb nb cb) (.slice sc nc cc)).toArray 78)).setCell ⟨gr, 3, none⟩ (.int .i64 (k : Int))) = Q at *
  unfold stC at *
  go_enter Try.func35, Try.ntmps35
  go_upto_region 26 with (first
    | (go_at_call 42; go_must (refine hbn.mono ?_; rintro e w1 ⟨rfl, h, -⟩; replace h := h.symm; subst h))
    | (go_at_call 43; go_must (refine hvs.mono ?_; rintro e w2 ⟨hn, -, hb2⟩; obtain ⟨g, c, hn', hg, hcl, hlc, hgl⟩ := hn _ rfl; subst hn'; have A2 := A.bl hb2; have k0 := A2.cell 0)))
  have hK2 := hKQ _ hb2
  have hcw := hcP _ hb2
  have x0 := hcl 0 _ rfl
  have k1 : w2.cell? ⟨w.heap.size, 1, none⟩ = some (.int .i64 (j : Int)) := A2.cell 1
  have hgl2 : g ≠ gm := by have := hI2.var.av.lt; omega
  have hwm : w.heap.size ≠ gm := by omega
  have hnv64 := hK2.st.var.n64
  have hpa := Hid.mk' (preAt_any w2.drew hK2.st.dw.run (hX _ _ hK2.x hK2.zz (Ch.refl _ _).dw) hNZ hK2.zz hm1 hm2 n1 n2 hUa)
  rw [hr] at hpa
  clear hr
  clear hcl hvs hbn a4 hKQ hcP A2 k0
  refine rgn (fun u => u.cell? ⟨w.heap.size, 1, none⟩ = some (.int .i64 (j : Int)) ∧ u.cell? ⟨g, 0, none⟩ = some (.int .u64 a)) ⟨k1, x0⟩ (fun hS => ?_)
  refine tk2 0 rfl ?_
  refine tk2 1 rfl ?_
  refine tk2 2 rfl ?_
  refine tk2 3 rfl ?_
  refine tk2 4 rfl ?_
  refine tk2 5 rfl ?_
  refine tk2 6 rfl ?_
  refine rd 7 rfl (fun K hK => ?_)
  go_simp
  refine hpa.out.mono ?_
  rintro e w3 ⟨hc3, hx3, ⟨bs, nb2, v, hq, -⟩ | ⟨-, rfl⟩⟩
  · cases hq
  have hV3 : VarI gv nv V w3 := ⟨hc3.arr hK2.st.var.av.drew (by omega), hK2.st.var.len, hK2.st.var.n64, hK2.st.var.vU⟩
  have hR3 : RunI gr gw n p0 p1 (.slice kp kn kc) (.map (some gm)) W k w3 := ⟨hc3.arr hK2.st.run.ar.drew n1.symm, hc3.arr hK2.st.run.aw.drew n2.symm, hK2.st.run.ne, hK2.st.run.len, hK2.st.run.n10, hK2.st.run.wU⟩
  exact ⟨rfl, rfl, ⟨⟨hR3, hV3, hK2.st.n1, hK2.st.n2, hK2.st.l1, hK2.st.l2, hK2.st.l3⟩, hx3, hK2.z, hK2.lf⟩, (hcw.dw).trans (hc3.imp fun k hk => .inr (.inr (.inl hk)))⟩
end Go.Proofs.Ytmljihggooaboaa
