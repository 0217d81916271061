/- Layer compile: settings, answers, preimages. -/
import Derived.Test.YtimmiidkjpbffaaX10
import Derived.Handy
import Derived.BigQuiet
import Derived.BigRegion
import Derived.Great.BuildSlice
namespace Go.Proofs.Ytimmiidkjpbffaa
open Go.RowKit
set_option maxRecDepth 100000
set_option linter.unusedVariables false
set_option linter.unusedSimpArgs false

variable {P : Nat → Prop} {q : KQ} {s : KS} {N : Nat}
set_option maxHeartbeats 4000000 in
theorem set_any {d : Nat} {v f tg vs : Int} {g off m cap : Nat} {sb sc : Option Addr} {nb cb nc cc : Nat} {ca0 : List Value} {a0 : ExT 8}  (w : World) (hK : KK N P q s w) (hG : KG q) (hg : g < N) (hm : 1 ≤ m) (ra0 : w.rangeAt g off ca0) (hM0 : ExM N w 8 ca0 a0) (ok0 : okX vs 8 a0) (hvs : vs ≤ 64) (hv : 0 ≤ v ∧ v ≤ 64) (h0 : 0 ≤ s.nx) (hb : (kVar q.E q.f 18 1 v (kX q.E q.f 8 a0 1 s)).code.length ≤ 1000000) (hn : (kVar q.E q.f 18 1 v (kX q.E q.f 8 a0 1 s)).nx ≤ 1000000) :
    Calls Try.prog 49 #[.pointer (some ⟨q.g, 0, none⟩), .agg #[.int .u8 1, .int .i64 v, .int .i64 f, .int .i64 tg, .slice (some ⟨g, off, none⟩) m cap, .slice sb nb cb, .slice sc nc cc]] w (KZ N P q (kVar q.E q.f 18 1 v (kX q.E q.f 8 a0 1 s)) w) := by
  have hl2 : (kVar q.E q.f 18 1 v (kX q.E q.f 8 a0 1 s)).code.length ≤ 1000000 ∧ (kVar q.E q.f 18 1 v (kX q.E q.f 8 a0 1 s)).nx ≤ 1000000 := ⟨hb, hn⟩
  have hle1 : KLe (kX q.E q.f 8 a0 1 s) (kVar q.E q.f 18 1 v (kX q.E q.f 8 a0 1 s)) := kto_le _ _ _
  have hl1 : (kX q.E q.f 8 a0 1 s).code.length ≤ 1000000 ∧ (kX q.E q.f 8 a0 1 s).nx ≤ 1000000 := ⟨Nat.le_trans hle1.1 hl2.1, Int.le_trans hle1.2 hl2.2⟩
  have hle0 : KLe s (kX q.E q.f 8 a0 1 s) := (kX_le q.E q.f 8 a0 1 _).1
  have hl0 : s.code.length ≤ 1000000 ∧ s.nx ≤ 1000000 := ⟨Nat.le_trans hle0.1 hl1.1, Int.le_trans hle0.2 hl1.2⟩
  have h00 : 0 ≤ s.nx := h0
  have h01 : 0 ≤ (kX q.E q.f 8 a0 1 s).nx := Int.le_trans h00 hle0.2
  have h02 : 0 ≤ (kVar q.E q.f 18 1 v (kX q.E q.f 8 a0 1 s)).nx := Int.le_trans h01 hle1.2
  clear h0 hb hn
  replace hl0 := hid hl0
  replace h00 := hid h00
  replace hl1 := hid hl1
  replace h01 := hid h01
  replace hl2 := hid hl2
  replace h02 := hid h02
  clear hle0
  clear hle1
  obtain ⟨o1, ho1⟩ : ∃ o1, o1 = Obj.cells #[.int .u8 1, .int .i64 v, .int .i64 f, .int .i64 tg, .slice (some ⟨g, off, none⟩) m cap, .slice sb nb cb, .slice sc nc cc] 94 := ⟨_, rfl⟩
  have hK1 := hK.al o1
  have hfin : ∀ (s' : KS) (w' : World), KK N (fun k => P k ∧ k ≠ w.heap.size) q s' w' → Ch (fun k => P k ∧ k ≠ w.heap.size) (w.alloc o1) w' → KK N P q s' w' ∧ Ch P w w' := fun _ _ h1 h2 => hK.out1 h1 h2
  have A0 : Arr (w.alloc o1) w.heap.size 94 #[.int .u8 1, .int .i64 v, .int .i64 f, .int .i64 tg, .slice (some ⟨g, off, none⟩) m cap, .slice sb nb cb, .slice sc nc cc] := by rw [ho1]; exact Arr.new w 94 _
  have hbw0 : Below N w (w.alloc o1) := ((Ch.refl P w).al o1).bl hK.n
  obtain ⟨k0, n0, v0, o0', sl0, m0, c0, hca0⟩ := hM0.cs
  subst hca0
  have hm_0 : (0 : Int) < m := by omega
  generalize hPP : (fun k => P k ∧ k ≠ w.heap.size) = P' at *
  have hpx : ¬ P' w.heap.size := by rw [← hPP]; exact fun e => e.2 rfl
  subst ho1
  clear hPP
  replace hfin := hid hfin
  replace hG := hid hG
  replace hK := hid hK
  replace hvs := hid hvs
  replace ra0 := hid ra0
  replace hM0 := hid hM0
  replace ok0 := hid ok0
  replace hv := hid hv
  have hK0 := hK1
  have hcA0 := Ch.refl P' (w.alloc (.cells #[.int .u8 1, .int .i64 v, .int .i64 f, .int .i64 tg, .slice (some ⟨g, off, none⟩) m cap, .slice sb nb cb, .slice sc nc cc] 94))
  unfold exC at *
  go_enter Try.func49, Try.ntmps49
  have x0_1 := A0.cell 1
  have x0_2 := A0.cell 2
  have x0_3 := A0.cell 3
  have x0_4 := A0.cell 4
  have x0_5 := A0.cell 5
  have x0_6 := A0.cell 6
  have rr0 := rgk ra0.out hbw0 hg
  have y0_0_0 := rr0 0 _ rfl
  have y0_0_1 := rr0 1 _ rfl
  have y0_0_2 := rr0 2 _ rfl
  have y0_0_3 := rr0 3 _ rfl
  have y0_0_4 := rr0 4 _ rfl
  simp only [Nat.add_zero, Nat.add_assoc, Nat.reduceAdd] at y0_0_0 y0_0_1 y0_0_2 y0_0_3 y0_0_4
  clear rr0
  obtain ⟨cv0, gv0, hB0⟩ := hK0.b
  have p0_2 := hB0.c2
  have p0_8 := hB0.c8
  have p0_9 := hB0.c9
  unfold pF at p0_2
  clear hB0
  have ct0 := (value_any 8 _ q _ (w.alloc (.cells #[.int .u8 1, .int .i64 v, .int .i64 f, .int .i64 tg, .slice (some ⟨g, off, none⟩) m cap, .slice sb nb cb, .slice sc nc cc] 94)) _ a0 vs 1 hK0 hG.out (ExM.below hbw0 _ _ _ hM0.out) ok0.out hvs.out (by omega) (by omega) hl1.out.1)
  replace ct0 := hid ct0
  go_upto_region 2 with (go_at_call 80; have ctx := ct0; clear ct0; go_must (refine ctx.out.mono ?_; rintro e w1 ⟨rfl, hK1, hc1⟩; have A1 := hc1.arr A0 hpx; have hbw1 := hbw0.trans (hK0.bel hc1); have hcA1 := hcA0.trans hc1))
  clear x0_1 x0_2 x0_3 x0_4 x0_5 x0_6 y0_0_0 y0_0_1 y0_0_2 y0_0_3 y0_0_4 p0_2 p0_8 p0_9
  have x1_1 := A1.cell 1
  have x1_2 := A1.cell 2
  have x1_3 := A1.cell 3
  have x1_4 := A1.cell 4
  have x1_5 := A1.cell 5
  have x1_6 := A1.cell 6
  obtain ⟨cv1, gv1, hB1⟩ := hK1.b
  have p1_2 := hB1.c2
  have p1_8 := hB1.c8
  have p1_9 := hB1.c9
  unfold pF at p1_2
  clear hB1
  have ct1 := (variable_any (o := 18) (r := 1) (v := v) w1 hK1 hG.out (by have h := hl2.out.1; simp [kVar, kSlot, kData, kProbe, kRaise, KS.to, KS.put, KS.here, KS.fresh] at h ⊢; omega) hv.out)
  replace ct1 := hid ct1
  go_wp2_with (go_at_call 81; have ctx := ct1; clear ct1; go_must (refine ctx.out.mono ?_; rintro e w2 ⟨rfl, hK2, hc2⟩; have A2 := hc2.arr A1 hpx; have hbw2 := hbw1.trans (hK1.bel hc2); have hcA2 := hcA1.trans hc2))
  go_end0
  exact ⟨rfl, hfin.out _ _ hK2 hcA2⟩
set_option maxHeartbeats 4000000 in
theorem answer_any {d : Nat} {v f tg vs : Int} {g off m cap : Nat} {sb sc : Option Addr} {nb cb nc cc : Nat} {ca0 : List Value} {a0 : ExT 8}  (w : World) (hK : KK N P q s w) (hG : KG q) (hg : g < N) (hm : 1 ≤ m) (ra0 : w.rangeAt g off ca0) (hM0 : ExM N w 8 ca0 a0) (ok0 : okX vs 8 a0) (hvs : vs ≤ 64) (h0 : 0 ≤ s.nx) (hb : ((kX q.E q.f 8 a0 1 s).to q.lv ⟨19, 0, 0, 0, 0⟩).code.length ≤ 1000000) (hn : ((kX q.E q.f 8 a0 1 s).to q.lv ⟨19, 0, 0, 0, 0⟩).nx ≤ 1000000) :
    Calls Try.prog 53 #[.pointer (some ⟨q.g, 0, none⟩), .agg #[.int .u8 5, .int .i64 v, .int .i64 f, .int .i64 tg, .slice (some ⟨g, off, none⟩) m cap, .slice sb nb cb, .slice sc nc cc]] w (KZ N P q ((kX q.E q.f 8 a0 1 s).to q.lv ⟨19, 0, 0, 0, 0⟩) w) := by
  have hl2 : ((kX q.E q.f 8 a0 1 s).to q.lv ⟨19, 0, 0, 0, 0⟩).code.length ≤ 1000000 ∧ ((kX q.E q.f 8 a0 1 s).to q.lv ⟨19, 0, 0, 0, 0⟩).nx ≤ 1000000 := ⟨hb, hn⟩
  have hle1 : KLe (kX q.E q.f 8 a0 1 s) ((kX q.E q.f 8 a0 1 s).to q.lv ⟨19, 0, 0, 0, 0⟩) := kto_le _ _ _
  have hl1 : (kX q.E q.f 8 a0 1 s).code.length ≤ 1000000 ∧ (kX q.E q.f 8 a0 1 s).nx ≤ 1000000 := ⟨Nat.le_trans hle1.1 hl2.1, Int.le_trans hle1.2 hl2.2⟩
  have hle0 : KLe s (kX q.E q.f 8 a0 1 s) := (kX_le q.E q.f 8 a0 1 _).1
  have hl0 : s.code.length ≤ 1000000 ∧ s.nx ≤ 1000000 := ⟨Nat.le_trans hle0.1 hl1.1, Int.le_trans hle0.2 hl1.2⟩
  have h00 : 0 ≤ s.nx := h0
  have h01 : 0 ≤ (kX q.E q.f 8 a0 1 s).nx := Int.le_trans h00 hle0.2
  have h02 : 0 ≤ ((kX q.E q.f 8 a0 1 s).to q.lv ⟨19, 0, 0, 0, 0⟩).nx := Int.le_trans h01 hle1.2
  clear h0 hb hn
  replace hl0 := hid hl0
  replace h00 := hid h00
  replace hl1 := hid hl1
  replace h01 := hid h01
  replace hl2 := hid hl2
  replace h02 := hid h02
  clear hle0
  clear hle1
  obtain ⟨o1, ho1⟩ : ∃ o1, o1 = Obj.cells #[.int .u8 5, .int .i64 v, .int .i64 f, .int .i64 tg, .slice (some ⟨g, off, none⟩) m cap, .slice sb nb cb, .slice sc nc cc] 94 := ⟨_, rfl⟩
  have hK1 := hK.al o1
  have hfin : ∀ (s' : KS) (w' : World), KK N (fun k => P k ∧ k ≠ w.heap.size) q s' w' → Ch (fun k => P k ∧ k ≠ w.heap.size) (w.alloc o1) w' → KK N P q s' w' ∧ Ch P w w' := fun _ _ h1 h2 => hK.out1 h1 h2
  have A0 : Arr (w.alloc o1) w.heap.size 94 #[.int .u8 5, .int .i64 v, .int .i64 f, .int .i64 tg, .slice (some ⟨g, off, none⟩) m cap, .slice sb nb cb, .slice sc nc cc] := by rw [ho1]; exact Arr.new w 94 _
  have hbw0 : Below N w (w.alloc o1) := ((Ch.refl P w).al o1).bl hK.n
  obtain ⟨k0, n0, v0, o0', sl0, m0, c0, hca0⟩ := hM0.cs
  subst hca0
  have hm_0 : (0 : Int) < m := by omega
  generalize hPP : (fun k => P k ∧ k ≠ w.heap.size) = P' at *
  have hpx : ¬ P' w.heap.size := by rw [← hPP]; exact fun e => e.2 rfl
  subst ho1
  clear hPP
  replace hfin := hid hfin
  replace hG := hid hG
  replace hK := hid hK
  replace hvs := hid hvs
  replace ra0 := hid ra0
  replace hM0 := hid hM0
  replace ok0 := hid ok0
  have hK0 := hK1
  have hcA0 := Ch.refl P' (w.alloc (.cells #[.int .u8 5, .int .i64 v, .int .i64 f, .int .i64 tg, .slice (some ⟨g, off, none⟩) m cap, .slice sb nb cb, .slice sc nc cc] 94))
  unfold exC at *
  go_enter Try.func53, Try.ntmps53
  have x0_1 := A0.cell 1
  have x0_2 := A0.cell 2
  have x0_3 := A0.cell 3
  have x0_4 := A0.cell 4
  have x0_5 := A0.cell 5
  have x0_6 := A0.cell 6
  have rr0 := rgk ra0.out hbw0 hg
  have y0_0_0 := rr0 0 _ rfl
  have y0_0_1 := rr0 1 _ rfl
  have y0_0_2 := rr0 2 _ rfl
  have y0_0_3 := rr0 3 _ rfl
  have y0_0_4 := rr0 4 _ rfl
  simp only [Nat.add_zero, Nat.add_assoc, Nat.reduceAdd] at y0_0_0 y0_0_1 y0_0_2 y0_0_3 y0_0_4
  clear rr0
  obtain ⟨cv0, gv0, hB0⟩ := hK0.b
  have p0_2 := hB0.c2
  have p0_8 := hB0.c8
  have p0_9 := hB0.c9
  unfold pF at p0_2
  clear hB0
  have ct0 := (value_any 8 _ q _ (w.alloc (.cells #[.int .u8 5, .int .i64 v, .int .i64 f, .int .i64 tg, .slice (some ⟨g, off, none⟩) m cap, .slice sb nb cb, .slice sc nc cc] 94)) _ a0 vs 1 hK0 hG.out (ExM.below hbw0 _ _ _ hM0.out) ok0.out hvs.out (by omega) (by omega) hl1.out.1)
  replace ct0 := hid ct0
  go_upto_region 2 with (go_at_call 80; have ctx := ct0; clear ct0; go_must (refine ctx.out.mono ?_; rintro e w1 ⟨rfl, hK1, hc1⟩; have A1 := hc1.arr A0 hpx; have hbw1 := hbw0.trans (hK0.bel hc1); have hcA1 := hcA0.trans hc1))
  clear x0_1 x0_2 x0_3 x0_4 x0_5 x0_6 y0_0_0 y0_0_1 y0_0_2 y0_0_3 y0_0_4 p0_2 p0_8 p0_9
  have x1_1 := A1.cell 1
  have x1_2 := A1.cell 2
  have x1_3 := A1.cell 3
  have x1_4 := A1.cell 4
  have x1_5 := A1.cell 5
  have x1_6 := A1.cell 6
  obtain ⟨cv1, gv1, hB1⟩ := hK1.b
  have p1_2 := hB1.c2
  have p1_8 := hB1.c8
  have p1_9 := hB1.c9
  unfold pF at p1_2
  clear hB1
  have ct1 := (putTo_k (l := q.lv) (o := 19) (a := 0) (b := 0) (c := 0) (i := 0) w1 hK1 (by have h := hl2.out.1; simp [kVar, kSlot, kData, kProbe, kRaise, KS.to, KS.put, KS.here, KS.fresh] at h ⊢; omega))
  replace ct1 := hid ct1
  go_wp2_with (go_at_call 62; have ctx := ct1; clear ct1; go_must (refine ctx.out.mono ?_; rintro e w2 ⟨rfl, hK2, hc2⟩; have A2 := hc2.arr A1 hpx; have hbw2 := hbw1.trans (hK1.bel hc2); have hcA2 := hcA1.trans hc2))
  go_end0
  exact ⟨rfl, hfin.out _ _ hK2 hcA2⟩
set_option maxHeartbeats 4000000 in
theorem piece_any {d : Nat} {v f tg vs : Int} {g off m cap : Nat} {sb sc : Option Addr} {nb cb nc cc : Nat} {ca0 ca1 : List Value} {a0 a1 : ExT 8}  (w : World) (hK : KK N P q s w) (hG : KG q) (hg : g < N) (hm : 2 ≤ m) (ra0 : w.rangeAt g off ca0) (hM0 : ExM N w 8 ca0 a0) (ok0 : okX vs 8 a0) (ra1 : w.rangeAt g (off + 5) ca1) (hM1 : ExM N w 8 ca1 a1) (ok1 : okX vs 8 a1) (hvs : vs ≤ 64) (hv : 0 ≤ v ∧ v ≤ 64) (h0 : 0 ≤ s.nx) (hb : (kVar q.E q.f 18 1 v ((kX q.E q.f 8 a1 2 (kAdr q.E q.f 8 a0 1 s)).put [⟨24, 1, 1, 2, 0⟩])).code.length ≤ 1000000) (hn : (kVar q.E q.f 18 1 v ((kX q.E q.f 8 a1 2 (kAdr q.E q.f 8 a0 1 s)).put [⟨24, 1, 1, 2, 0⟩])).nx ≤ 1000000) :
    Calls Try.prog 56 #[.pointer (some ⟨q.g, 0, none⟩), .agg #[.int .u8 8, .int .i64 v, .int .i64 f, .int .i64 tg, .slice (some ⟨g, off, none⟩) m cap, .slice sb nb cb, .slice sc nc cc]] w (KZ N P q (kVar q.E q.f 18 1 v ((kX q.E q.f 8 a1 2 (kAdr q.E q.f 8 a0 1 s)).put [⟨24, 1, 1, 2, 0⟩])) w) := by
  have hl4 : (kVar q.E q.f 18 1 v ((kX q.E q.f 8 a1 2 (kAdr q.E q.f 8 a0 1 s)).put [⟨24, 1, 1, 2, 0⟩])).code.length ≤ 1000000 ∧ (kVar q.E q.f 18 1 v ((kX q.E q.f 8 a1 2 (kAdr q.E q.f 8 a0 1 s)).put [⟨24, 1, 1, 2, 0⟩])).nx ≤ 1000000 := ⟨hb, hn⟩
  have hle3 : KLe ((kX q.E q.f 8 a1 2 (kAdr q.E q.f 8 a0 1 s)).put [⟨24, 1, 1, 2, 0⟩]) (kVar q.E q.f 18 1 v ((kX q.E q.f 8 a1 2 (kAdr q.E q.f 8 a0 1 s)).put [⟨24, 1, 1, 2, 0⟩])) := kto_le _ _ _
  have hl3 : ((kX q.E q.f 8 a1 2 (kAdr q.E q.f 8 a0 1 s)).put [⟨24, 1, 1, 2, 0⟩]).code.length ≤ 1000000 ∧ ((kX q.E q.f 8 a1 2 (kAdr q.E q.f 8 a0 1 s)).put [⟨24, 1, 1, 2, 0⟩]).nx ≤ 1000000 := ⟨Nat.le_trans hle3.1 hl4.1, Int.le_trans hle3.2 hl4.2⟩
  have hle2 : KLe (kX q.E q.f 8 a1 2 (kAdr q.E q.f 8 a0 1 s)) ((kX q.E q.f 8 a1 2 (kAdr q.E q.f 8 a0 1 s)).put [⟨24, 1, 1, 2, 0⟩]) := kput_le _ _
  have hl2 : (kX q.E q.f 8 a1 2 (kAdr q.E q.f 8 a0 1 s)).code.length ≤ 1000000 ∧ (kX q.E q.f 8 a1 2 (kAdr q.E q.f 8 a0 1 s)).nx ≤ 1000000 := ⟨Nat.le_trans hle2.1 hl3.1, Int.le_trans hle2.2 hl3.2⟩
  have hle1 : KLe (kAdr q.E q.f 8 a0 1 s) (kX q.E q.f 8 a1 2 (kAdr q.E q.f 8 a0 1 s)) := (kX_le q.E q.f 8 a1 2 _).1
  have hl1 : (kAdr q.E q.f 8 a0 1 s).code.length ≤ 1000000 ∧ (kAdr q.E q.f 8 a0 1 s).nx ≤ 1000000 := ⟨Nat.le_trans hle1.1 hl2.1, Int.le_trans hle1.2 hl2.2⟩
  have hle0 : KLe s (kAdr q.E q.f 8 a0 1 s) := (kAdr_le q.E q.f 8 a0 1 _).1
  have hl0 : s.code.length ≤ 1000000 ∧ s.nx ≤ 1000000 := ⟨Nat.le_trans hle0.1 hl1.1, Int.le_trans hle0.2 hl1.2⟩
  have h00 : 0 ≤ s.nx := h0
  have h01 : 0 ≤ (kAdr q.E q.f 8 a0 1 s).nx := Int.le_trans h00 hle0.2
  have h02 : 0 ≤ (kX q.E q.f 8 a1 2 (kAdr q.E q.f 8 a0 1 s)).nx := Int.le_trans h01 hle1.2
  have h03 : 0 ≤ ((kX q.E q.f 8 a1 2 (kAdr q.E q.f 8 a0 1 s)).put [⟨24, 1, 1, 2, 0⟩]).nx := Int.le_trans h02 hle2.2
  have h04 : 0 ≤ (kVar q.E q.f 18 1 v ((kX q.E q.f 8 a1 2 (kAdr q.E q.f 8 a0 1 s)).put [⟨24, 1, 1, 2, 0⟩])).nx := Int.le_trans h03 hle3.2
  clear h0 hb hn
  replace hl0 := hid hl0
  replace h00 := hid h00
  replace hl1 := hid hl1
  replace h01 := hid h01
  replace hl2 := hid hl2
  replace h02 := hid h02
  replace hl3 := hid hl3
  replace h03 := hid h03
  replace hl4 := hid hl4
  replace h04 := hid h04
  clear hle0
  clear hle1
  clear hle2
  clear hle3
  obtain ⟨o1, ho1⟩ : ∃ o1, o1 = Obj.cells #[.int .u8 8, .int .i64 v, .int .i64 f, .int .i64 tg, .slice (some ⟨g, off, none⟩) m cap, .slice sb nb cb, .slice sc nc cc] 94 := ⟨_, rfl⟩
  have hK1 := hK.al o1
  have hfin : ∀ (s' : KS) (w' : World), KK N (fun k => P k ∧ k ≠ w.heap.size) q s' w' → Ch (fun k => P k ∧ k ≠ w.heap.size) (w.alloc o1) w' → KK N P q s' w' ∧ Ch P w w' := fun _ _ h1 h2 => hK.out1 h1 h2
  have A0 : Arr (w.alloc o1) w.heap.size 94 #[.int .u8 8, .int .i64 v, .int .i64 f, .int .i64 tg, .slice (some ⟨g, off, none⟩) m cap, .slice sb nb cb, .slice sc nc cc] := by rw [ho1]; exact Arr.new w 94 _
  have hbw0 : Below N w (w.alloc o1) := ((Ch.refl P w).al o1).bl hK.n
  obtain ⟨k0, n0, v0, o0', sl0, m0, c0, hca0⟩ := hM0.cs
  subst hca0
  obtain ⟨k1, n1, v1, o1', sl1, m1, c1, hca1⟩ := hM1.cs
  subst hca1
  have hm_0 : (0 : Int) < m := by omega
  have hm_1 : (1 : Int) < m := by omega
  generalize hPP : (fun k => P k ∧ k ≠ w.heap.size) = P' at *
  have hpx : ¬ P' w.heap.size := by rw [← hPP]; exact fun e => e.2 rfl
  subst ho1
  clear hPP
  replace hfin := hid hfin
  replace hG := hid hG
  replace hK := hid hK
  replace hvs := hid hvs
  replace ra0 := hid ra0
  replace hM0 := hid hM0
  replace ok0 := hid ok0
  replace ra1 := hid ra1
  replace hM1 := hid hM1
  replace ok1 := hid ok1
  replace hv := hid hv
  have hK0 := hK1
  have hcA0 := Ch.refl P' (w.alloc (.cells #[.int .u8 8, .int .i64 v, .int .i64 f, .int .i64 tg, .slice (some ⟨g, off, none⟩) m cap, .slice sb nb cb, .slice sc nc cc] 94))
  unfold exC at *
  go_enter Try.func56, Try.ntmps56
  have x0_1 := A0.cell 1
  have x0_2 := A0.cell 2
  have x0_3 := A0.cell 3
  have x0_4 := A0.cell 4
  have x0_5 := A0.cell 5
  have x0_6 := A0.cell 6
  have rr0 := rgk ra0.out hbw0 hg
  have y0_0_0 := rr0 0 _ rfl
  have y0_0_1 := rr0 1 _ rfl
  have y0_0_2 := rr0 2 _ rfl
  have y0_0_3 := rr0 3 _ rfl
  have y0_0_4 := rr0 4 _ rfl
  simp only [Nat.add_zero, Nat.add_assoc, Nat.reduceAdd] at y0_0_0 y0_0_1 y0_0_2 y0_0_3 y0_0_4
  clear rr0
  obtain ⟨cv0, gv0, hB0⟩ := hK0.b
  have p0_2 := hB0.c2
  have p0_8 := hB0.c8
  have p0_9 := hB0.c9
  unfold pF at p0_2
  clear hB0
  have ct0 := (address_any (w.alloc (.cells #[.int .u8 8, .int .i64 v, .int .i64 f, .int .i64 tg, .slice (some ⟨g, off, none⟩) m cap, .slice sb nb cb, .slice sc nc cc] 94)) hK0 hG.out (ExM.below hbw0 _ _ _ hM0.out) ok0.out hvs.out (by omega) (by omega) hl1.out.1)
  replace ct0 := hid ct0
  go_upto_region 2 with (go_at_call 87; have ctx := ct0; clear ct0; go_must (refine ctx.out.mono ?_; rintro e w1 ⟨rfl, hK1, hc1⟩; have A1 := hc1.arr A0 hpx; have hbw1 := hbw0.trans (hK0.bel hc1); have hcA1 := hcA0.trans hc1))
  clear x0_1 x0_2 x0_3 x0_4 x0_5 x0_6 y0_0_0 y0_0_1 y0_0_2 y0_0_3 y0_0_4 p0_2 p0_8 p0_9
  have x1_1 := A1.cell 1
  have x1_2 := A1.cell 2
  have x1_3 := A1.cell 3
  have x1_4 := A1.cell 4
  have x1_5 := A1.cell 5
  have x1_6 := A1.cell 6
  have rr1 := rgk ra1.out hbw1 hg
  have y1_1_0 := rr1 0 _ rfl
  have y1_1_1 := rr1 1 _ rfl
  have y1_1_2 := rr1 2 _ rfl
  have y1_1_3 := rr1 3 _ rfl
  have y1_1_4 := rr1 4 _ rfl
  simp only [Nat.add_zero, Nat.add_assoc, Nat.reduceAdd] at y1_1_0 y1_1_1 y1_1_2 y1_1_3 y1_1_4
  clear rr1
  obtain ⟨cv1, gv1, hB1⟩ := hK1.b
  have p1_2 := hB1.c2
  have p1_8 := hB1.c8
  have p1_9 := hB1.c9
  unfold pF at p1_2
  clear hB1
  have ct1 := (value_any 8 _ q _ w1 _ a1 vs 2 hK1 hG.out (ExM.below hbw1 _ _ _ hM1.out) ok1.out hvs.out (by omega) (by omega) hl2.out.1)
  replace ct1 := hid ct1
  go_upto_region 3 with (go_at_call 80; have ctx := ct1; clear ct1; go_must (refine ctx.out.mono ?_; rintro e w2 ⟨rfl, hK2, hc2⟩; have A2 := hc2.arr A1 hpx; have hbw2 := hbw1.trans (hK1.bel hc2); have hcA2 := hcA1.trans hc2))
  clear x1_1 x1_2 x1_3 x1_4 x1_5 x1_6 y1_1_0 y1_1_1 y1_1_2 y1_1_3 y1_1_4 p1_2 p1_8 p1_9
  have x2_1 := A2.cell 1
  have x2_2 := A2.cell 2
  have x2_3 := A2.cell 3
  have x2_4 := A2.cell 4
  have x2_5 := A2.cell 5
  have x2_6 := A2.cell 6
  obtain ⟨cv2, gv2, hB2⟩ := hK2.b
  have p2_2 := hB2.c2
  have p2_8 := hB2.c8
  have p2_9 := hB2.c9
  unfold pF at p2_2
  clear hB2
  have ct2 := (put_one (o := 24) (a := 1) (b := 1) (c := 2) (i := 0) w2 hK2 (by have h := hl3.out.1; simp [kVar, kSlot, kData, kProbe, kRaise, KS.to, KS.put, KS.here, KS.fresh] at h ⊢; omega))
  replace ct2 := hid ct2
  go_upto_region 4 with (go_at_call 29; have ctx := ct2; clear ct2; go_must (refine ctx.out.mono ?_; rintro e w3 ⟨rfl, hK3, hc3⟩; have A3 := hc3.arr A2 hpx; have hbw3 := hbw2.trans (hK2.bel hc3); have hcA3 := hcA2.trans hc3))
  clear x2_1 x2_2 x2_3 x2_4 x2_5 x2_6 p2_2 p2_8 p2_9
  have x3_1 := A3.cell 1
  have x3_2 := A3.cell 2
  have x3_3 := A3.cell 3
  have x3_4 := A3.cell 4
  have x3_5 := A3.cell 5
  have x3_6 := A3.cell 6
  obtain ⟨cv3, gv3, hB3⟩ := hK3.b
  have p3_2 := hB3.c2
  have p3_8 := hB3.c8
  have p3_9 := hB3.c9
  unfold pF at p3_2
  clear hB3
  have ct3 := (variable_any (o := 18) (r := 1) (v := v) w3 hK3 hG.out (by have h := hl4.out.1; simp [kVar, kSlot, kData, kProbe, kRaise, KS.to, KS.put, KS.here, KS.fresh] at h ⊢; omega) hv.out)
  replace ct3 := hid ct3
  go_wp2_with (go_at_call 81; have ctx := ct3; clear ct3; go_must (refine ctx.out.mono ?_; rintro e w4 ⟨rfl, hK4, hc4⟩; have A4 := hc4.arr A3 hpx; have hbw4 := hbw3.trans (hK3.bel hc4); have hcA4 := hcA3.trans hc4))
  go_end0
  exact ⟨rfl, hfin.out _ _ hK4 hcA4⟩
set_option maxHeartbeats 4000000 in
theorem length_any {d : Nat} {v f tg vs : Int} {g off m cap : Nat} {sb sc : Option Addr} {nb cb nc cc : Nat} {ca0 : List Value} {a0 : ExT 8}  (w : World) (hK : KK N P q s w) (hG : KG q) (hg : g < N) (hm : 1 ≤ m) (ra0 : w.rangeAt g off ca0) (hM0 : ExM N w 8 ca0 a0) (ok0 : okX vs 8 a0) (hvs : vs ≤ 64) (hv : 0 ≤ v ∧ v ≤ 64) (h0 : 0 ≤ s.nx) (hb : (kVar q.E q.f 18 1 v ((kAdr q.E q.f 8 a0 1 s).put [⟨25, 1, 1, 0, 0⟩])).code.length ≤ 1000000) (hn : (kVar q.E q.f 18 1 v ((kAdr q.E q.f 8 a0 1 s).put [⟨25, 1, 1, 0, 0⟩])).nx ≤ 1000000) :
    Calls Try.prog 57 #[.pointer (some ⟨q.g, 0, none⟩), .agg #[.int .u8 9, .int .i64 v, .int .i64 f, .int .i64 tg, .slice (some ⟨g, off, none⟩) m cap, .slice sb nb cb, .slice sc nc cc]] w (KZ N P q (kVar q.E q.f 18 1 v ((kAdr q.E q.f 8 a0 1 s).put [⟨25, 1, 1, 0, 0⟩])) w) := by
  have hl3 : (kVar q.E q.f 18 1 v ((kAdr q.E q.f 8 a0 1 s).put [⟨25, 1, 1, 0, 0⟩])).code.length ≤ 1000000 ∧ (kVar q.E q.f 18 1 v ((kAdr q.E q.f 8 a0 1 s).put [⟨25, 1, 1, 0, 0⟩])).nx ≤ 1000000 := ⟨hb, hn⟩
  have hle2 : KLe ((kAdr q.E q.f 8 a0 1 s).put [⟨25, 1, 1, 0, 0⟩]) (kVar q.E q.f 18 1 v ((kAdr q.E q.f 8 a0 1 s).put [⟨25, 1, 1, 0, 0⟩])) := kto_le _ _ _
  have hl2 : ((kAdr q.E q.f 8 a0 1 s).put [⟨25, 1, 1, 0, 0⟩]).code.length ≤ 1000000 ∧ ((kAdr q.E q.f 8 a0 1 s).put [⟨25, 1, 1, 0, 0⟩]).nx ≤ 1000000 := ⟨Nat.le_trans hle2.1 hl3.1, Int.le_trans hle2.2 hl3.2⟩
  have hle1 : KLe (kAdr q.E q.f 8 a0 1 s) ((kAdr q.E q.f 8 a0 1 s).put [⟨25, 1, 1, 0, 0⟩]) := kput_le _ _
  have hl1 : (kAdr q.E q.f 8 a0 1 s).code.length ≤ 1000000 ∧ (kAdr q.E q.f 8 a0 1 s).nx ≤ 1000000 := ⟨Nat.le_trans hle1.1 hl2.1, Int.le_trans hle1.2 hl2.2⟩
  have hle0 : KLe s (kAdr q.E q.f 8 a0 1 s) := (kAdr_le q.E q.f 8 a0 1 _).1
  have hl0 : s.code.length ≤ 1000000 ∧ s.nx ≤ 1000000 := ⟨Nat.le_trans hle0.1 hl1.1, Int.le_trans hle0.2 hl1.2⟩
  have h00 : 0 ≤ s.nx := h0
  have h01 : 0 ≤ (kAdr q.E q.f 8 a0 1 s).nx := Int.le_trans h00 hle0.2
  have h02 : 0 ≤ ((kAdr q.E q.f 8 a0 1 s).put [⟨25, 1, 1, 0, 0⟩]).nx := Int.le_trans h01 hle1.2
  have h03 : 0 ≤ (kVar q.E q.f 18 1 v ((kAdr q.E q.f 8 a0 1 s).put [⟨25, 1, 1, 0, 0⟩])).nx := Int.le_trans h02 hle2.2
  clear h0 hb hn
  replace hl0 := hid hl0
  replace h00 := hid h00
  replace hl1 := hid hl1
  replace h01 := hid h01
  replace hl2 := hid hl2
  replace h02 := hid h02
  replace hl3 := hid hl3
  replace h03 := hid h03
  clear hle0
  clear hle1
  clear hle2
  obtain ⟨o1, ho1⟩ : ∃ o1, o1 = Obj.cells #[.int .u8 9, .int .i64 v, .int .i64 f, .int .i64 tg, .slice (some ⟨g, off, none⟩) m cap, .slice sb nb cb, .slice sc nc cc] 94 := ⟨_, rfl⟩
  have hK1 := hK.al o1
  have hfin : ∀ (s' : KS) (w' : World), KK N (fun k => P k ∧ k ≠ w.heap.size) q s' w' → Ch (fun k => P k ∧ k ≠ w.heap.size) (w.alloc o1) w' → KK N P q s' w' ∧ Ch P w w' := fun _ _ h1 h2 => hK.out1 h1 h2
  have A0 : Arr (w.alloc o1) w.heap.size 94 #[.int .u8 9, .int .i64 v, .int .i64 f, .int .i64 tg, .slice (some ⟨g, off, none⟩) m cap, .slice sb nb cb, .slice sc nc cc] := by rw [ho1]; exact Arr.new w 94 _
  have hbw0 : Below N w (w.alloc o1) := ((Ch.refl P w).al o1).bl hK.n
  obtain ⟨k0, n0, v0, o0', sl0, m0, c0, hca0⟩ := hM0.cs
  subst hca0
  have hm_0 : (0 : Int) < m := by omega
  generalize hPP : (fun k => P k ∧ k ≠ w.heap.size) = P' at *
  have hpx : ¬ P' w.heap.size := by rw [← hPP]; exact fun e => e.2 rfl
  subst ho1
  clear hPP
  replace hfin := hid hfin
  replace hG := hid hG
  replace hK := hid hK
  replace hvs := hid hvs
  replace ra0 := hid ra0
  replace hM0 := hid hM0
  replace ok0 := hid ok0
  replace hv := hid hv
  have hK0 := hK1
  have hcA0 := Ch.refl P' (w.alloc (.cells #[.int .u8 9, .int .i64 v, .int .i64 f, .int .i64 tg, .slice (some ⟨g, off, none⟩) m cap, .slice sb nb cb, .slice sc nc cc] 94))
  unfold exC at *
  go_enter Try.func57, Try.ntmps57
  have x0_1 := A0.cell 1
  have x0_2 := A0.cell 2
  have x0_3 := A0.cell 3
  have x0_4 := A0.cell 4
  have x0_5 := A0.cell 5
  have x0_6 := A0.cell 6
  have rr0 := rgk ra0.out hbw0 hg
  have y0_0_0 := rr0 0 _ rfl
  have y0_0_1 := rr0 1 _ rfl
  have y0_0_2 := rr0 2 _ rfl
  have y0_0_3 := rr0 3 _ rfl
  have y0_0_4 := rr0 4 _ rfl
  simp only [Nat.add_zero, Nat.add_assoc, Nat.reduceAdd] at y0_0_0 y0_0_1 y0_0_2 y0_0_3 y0_0_4
  clear rr0
  obtain ⟨cv0, gv0, hB0⟩ := hK0.b
  have p0_2 := hB0.c2
  have p0_8 := hB0.c8
  have p0_9 := hB0.c9
  unfold pF at p0_2
  clear hB0
  have ct0 := (address_any (w.alloc (.cells #[.int .u8 9, .int .i64 v, .int .i64 f, .int .i64 tg, .slice (some ⟨g, off, none⟩) m cap, .slice sb nb cb, .slice sc nc cc] 94)) hK0 hG.out (ExM.below hbw0 _ _ _ hM0.out) ok0.out hvs.out (by omega) (by omega) hl1.out.1)
  replace ct0 := hid ct0
  go_upto_region 2 with (go_at_call 87; have ctx := ct0; clear ct0; go_must (refine ctx.out.mono ?_; rintro e w1 ⟨rfl, hK1, hc1⟩; have A1 := hc1.arr A0 hpx; have hbw1 := hbw0.trans (hK0.bel hc1); have hcA1 := hcA0.trans hc1))
  clear x0_1 x0_2 x0_3 x0_4 x0_5 x0_6 y0_0_0 y0_0_1 y0_0_2 y0_0_3 y0_0_4 p0_2 p0_8 p0_9
  have x1_1 := A1.cell 1
  have x1_2 := A1.cell 2
  have x1_3 := A1.cell 3
  have x1_4 := A1.cell 4
  have x1_5 := A1.cell 5
  have x1_6 := A1.cell 6
  obtain ⟨cv1, gv1, hB1⟩ := hK1.b
  have p1_2 := hB1.c2
  have p1_8 := hB1.c8
  have p1_9 := hB1.c9
  unfold pF at p1_2
  clear hB1
  have ct1 := (put_one (o := 25) (a := 1) (b := 1) (c := 0) (i := 0) w1 hK1 (by have h := hl2.out.1; simp [kVar, kSlot, kData, kProbe, kRaise, KS.to, KS.put, KS.here, KS.fresh] at h ⊢; omega))
  replace ct1 := hid ct1
  go_upto_region 3 with (go_at_call 29; have ctx := ct1; clear ct1; go_must (refine ctx.out.mono ?_; rintro e w2 ⟨rfl, hK2, hc2⟩; have A2 := hc2.arr A1 hpx; have hbw2 := hbw1.trans (hK1.bel hc2); have hcA2 := hcA1.trans hc2))
  clear x1_1 x1_2 x1_3 x1_4 x1_5 x1_6 p1_2 p1_8 p1_9
  have x2_1 := A2.cell 1
  have x2_2 := A2.cell 2
  have x2_3 := A2.cell 3
  have x2_4 := A2.cell 4
  have x2_5 := A2.cell 5
  have x2_6 := A2.cell 6
  obtain ⟨cv2, gv2, hB2⟩ := hK2.b
  have p2_2 := hB2.c2
  have p2_8 := hB2.c8
  have p2_9 := hB2.c9
  unfold pF at p2_2
  clear hB2
  have ct2 := (variable_any (o := 18) (r := 1) (v := v) w2 hK2 hG.out (by have h := hl3.out.1; simp [kVar, kSlot, kData, kProbe, kRaise, KS.to, KS.put, KS.here, KS.fresh] at h ⊢; omega) hv.out)
  replace ct2 := hid ct2
  go_wp2_with (go_at_call 81; have ctx := ct2; clear ct2; go_must (refine ctx.out.mono ?_; rintro e w3 ⟨rfl, hK3, hc3⟩; have A3 := hc3.arr A2 hpx; have hbw3 := hbw2.trans (hK2.bel hc3); have hcA3 := hcA2.trans hc3))
  go_end0
  exact ⟨rfl, hfin.out _ _ hK3 hcA3⟩
end Go.Proofs.Ytimmiidkjpbffaa
