/- Layer compile: a statement among others. -/
import Derived.Test.YtimmiidkjpbffaaX11
import Derived.Handy
import Derived.BigQuiet
import Derived.BigRegion
import Derived.Great.BuildSlice
namespace Go.Proofs.Ytimmiidkjpbffaa
open Go.RowKit
set_option maxRecDepth 100000
set_option linter.unusedVariables false
set_option linter.unusedSimpArgs false

variable {P : Nat → Prop} {q : KQ} {s : KS} {N : Nat}
/-- The functions ahead of one, for its calls. -/
structure SG (q : KQ) (ps : List Int) (vs : Int) : Prop where
  v : vs ≤ 64
  p : ps.length ≤ q.E.fr.length
  c : ∀ x ∈ ps, x ≤ 64
/-- The contract of stmts, for statements so deep. -/
def SL (N : Nat) (d : Nat) : Prop := ∀ (P : Nat → Prop) (q : KQ) (s : KS) (w : World) (sp : Option Addr) (m cap : Nat) (l : List (StT d)) (ps : List Int) (vs : Int), KK N P q s w → KG q → SG q ps vs → RS N w 7 (StM N w d) sp m cap l → (∀ a ∈ l, okS ps vs d a) → 0 ≤ s.nx → (kAll (kS q.E q.f q.lv d) l s).code.length ≤ 1000000 → (kAll (kS q.E q.f q.lv d) l s).nx ≤ 1000000 →
  Calls Try.prog 86 #[.pointer (some ⟨q.g, 0, none⟩), .slice sp m cap] w (KZ N P q (kAll (kS q.E q.f q.lv d) l s) w)
set_option maxHeartbeats 4000000 in
theorem choose_any {d : Nat} {v f tg vs : Int} {g off m cap : Nat} {sb sc : Option Addr} {nb cb nc cc : Nat} {ca0 : List Value} {a0 : ExT 8} {th el : List (StT d)} {ps : List Int} (w : World) (hK : KK N P q s w) (hG : KG q) (hg : g < N) (hm : 1 ≤ m) (ra0 : w.rangeAt g off ca0) (hM0 : ExM N w 8 ca0 a0) (ok0 : okX vs 8 a0) (hvs : vs ≤ 64) (hE : SL N d) (hSG : SG q ps vs) (hRb : RS N w 7 (StM N w d) sb nb cb th) (hOb : ∀ a ∈ th, okS ps vs d a) (hRc : RS N w 7 (StM N w d) sc nc cc el) (hOc : ∀ a ∈ el, okS ps vs d a) (h0 : 0 ≤ s.nx) (hb : ((kAll (kS q.E q.f q.lv d) el (((kAll (kS q.E q.f q.lv d) th ((kX q.E q.f 8 a0 1 s.fresh.fresh).to s.nx ⟨20, 1, 0, 0, 0⟩)).to (s.nx + 1) ⟨19, 0, 0, 0, 0⟩).here s.nx)).here (s.nx + 1)).code.length ≤ 1000000) (hn : ((kAll (kS q.E q.f q.lv d) el (((kAll (kS q.E q.f q.lv d) th ((kX q.E q.f 8 a0 1 s.fresh.fresh).to s.nx ⟨20, 1, 0, 0, 0⟩)).to (s.nx + 1) ⟨19, 0, 0, 0, 0⟩).here s.nx)).here (s.nx + 1)).nx ≤ 1000000) :
    Calls Try.prog 51 #[.pointer (some ⟨q.g, 0, none⟩), .agg #[.int .u8 3, .int .i64 v, .int .i64 f, .int .i64 tg, .slice (some ⟨g, off, none⟩) m cap, .slice sb nb cb, .slice sc nc cc]] w (KZ N P q ((kAll (kS q.E q.f q.lv d) el (((kAll (kS q.E q.f q.lv d) th ((kX q.E q.f 8 a0 1 s.fresh.fresh).to s.nx ⟨20, 1, 0, 0, 0⟩)).to (s.nx + 1) ⟨19, 0, 0, 0, 0⟩).here s.nx)).here (s.nx + 1)) w) := by
  have hl9 : ((kAll (kS q.E q.f q.lv d) el (((kAll (kS q.E q.f q.lv d) th ((kX q.E q.f 8 a0 1 s.fresh.fresh).to s.nx ⟨20, 1, 0, 0, 0⟩)).to (s.nx + 1) ⟨19, 0, 0, 0, 0⟩).here s.nx)).here (s.nx + 1)).code.length ≤ 1000000 ∧ ((kAll (kS q.E q.f q.lv d) el (((kAll (kS q.E q.f q.lv d) th ((kX q.E q.f 8 a0 1 s.fresh.fresh).to s.nx ⟨20, 1, 0, 0, 0⟩)).to (s.nx + 1) ⟨19, 0, 0, 0, 0⟩).here s.nx)).here (s.nx + 1)).nx ≤ 1000000 := ⟨hb, hn⟩
  have hle8 : KLe (kAll (kS q.E q.f q.lv d) el (((kAll (kS q.E q.f q.lv d) th ((kX q.E q.f 8 a0 1 s.fresh.fresh).to s.nx ⟨20, 1, 0, 0, 0⟩)).to (s.nx + 1) ⟨19, 0, 0, 0, 0⟩).here s.nx)) ((kAll (kS q.E q.f q.lv d) el (((kAll (kS q.E q.f q.lv d) th ((kX q.E q.f 8 a0 1 s.fresh.fresh).to s.nx ⟨20, 1, 0, 0, 0⟩)).to (s.nx + 1) ⟨19, 0, 0, 0, 0⟩).here s.nx)).here (s.nx + 1)) := khere_le _ _
  have hl8 : (kAll (kS q.E q.f q.lv d) el (((kAll (kS q.E q.f q.lv d) th ((kX q.E q.f 8 a0 1 s.fresh.fresh).to s.nx ⟨20, 1, 0, 0, 0⟩)).to (s.nx + 1) ⟨19, 0, 0, 0, 0⟩).here s.nx)).code.length ≤ 1000000 ∧ (kAll (kS q.E q.f q.lv d) el (((kAll (kS q.E q.f q.lv d) th ((kX q.E q.f 8 a0 1 s.fresh.fresh).to s.nx ⟨20, 1, 0, 0, 0⟩)).to (s.nx + 1) ⟨19, 0, 0, 0, 0⟩).here s.nx)).nx ≤ 1000000 := ⟨Nat.le_trans hle8.1 hl9.1, Int.le_trans hle8.2 hl9.2⟩
  have hle7 : KLe (((kAll (kS q.E q.f q.lv d) th ((kX q.E q.f 8 a0 1 s.fresh.fresh).to s.nx ⟨20, 1, 0, 0, 0⟩)).to (s.nx + 1) ⟨19, 0, 0, 0, 0⟩).here s.nx) (kAll (kS q.E q.f q.lv d) el (((kAll (kS q.E q.f q.lv d) th ((kX q.E q.f 8 a0 1 s.fresh.fresh).to s.nx ⟨20, 1, 0, 0, 0⟩)).to (s.nx + 1) ⟨19, 0, 0, 0, 0⟩).here s.nx)) := kAll_le _ (kS_le _ _ _ d) _ _
  have hl7 : (((kAll (kS q.E q.f q.lv d) th ((kX q.E q.f 8 a0 1 s.fresh.fresh).to s.nx ⟨20, 1, 0, 0, 0⟩)).to (s.nx + 1) ⟨19, 0, 0, 0, 0⟩).here s.nx).code.length ≤ 1000000 ∧ (((kAll (kS q.E q.f q.lv d) th ((kX q.E q.f 8 a0 1 s.fresh.fresh).to s.nx ⟨20, 1, 0, 0, 0⟩)).to (s.nx + 1) ⟨19, 0, 0, 0, 0⟩).here s.nx).nx ≤ 1000000 := ⟨Nat.le_trans hle7.1 hl8.1, Int.le_trans hle7.2 hl8.2⟩
  have hle6 : KLe ((kAll (kS q.E q.f q.lv d) th ((kX q.E q.f 8 a0 1 s.fresh.fresh).to s.nx ⟨20, 1, 0, 0, 0⟩)).to (s.nx + 1) ⟨19, 0, 0, 0, 0⟩) (((kAll (kS q.E q.f q.lv d) th ((kX q.E q.f 8 a0 1 s.fresh.fresh).to s.nx ⟨20, 1, 0, 0, 0⟩)).to (s.nx + 1) ⟨19, 0, 0, 0, 0⟩).here s.nx) := khere_le _ _
  have hl6 : ((kAll (kS q.E q.f q.lv d) th ((kX q.E q.f 8 a0 1 s.fresh.fresh).to s.nx ⟨20, 1, 0, 0, 0⟩)).to (s.nx + 1) ⟨19, 0, 0, 0, 0⟩).code.length ≤ 1000000 ∧ ((kAll (kS q.E q.f q.lv d) th ((kX q.E q.f 8 a0 1 s.fresh.fresh).to s.nx ⟨20, 1, 0, 0, 0⟩)).to (s.nx + 1) ⟨19, 0, 0, 0, 0⟩).nx ≤ 1000000 := ⟨Nat.le_trans hle6.1 hl7.1, Int.le_trans hle6.2 hl7.2⟩
  have hle5 : KLe (kAll (kS q.E q.f q.lv d) th ((kX q.E q.f 8 a0 1 s.fresh.fresh).to s.nx ⟨20, 1, 0, 0, 0⟩)) ((kAll (kS q.E q.f q.lv d) th ((kX q.E q.f 8 a0 1 s.fresh.fresh).to s.nx ⟨20, 1, 0, 0, 0⟩)).to (s.nx + 1) ⟨19, 0, 0, 0, 0⟩) := kto_le _ _ _
  have hl5 : (kAll (kS q.E q.f q.lv d) th ((kX q.E q.f 8 a0 1 s.fresh.fresh).to s.nx ⟨20, 1, 0, 0, 0⟩)).code.length ≤ 1000000 ∧ (kAll (kS q.E q.f q.lv d) th ((kX q.E q.f 8 a0 1 s.fresh.fresh).to s.nx ⟨20, 1, 0, 0, 0⟩)).nx ≤ 1000000 := ⟨Nat.le_trans hle5.1 hl6.1, Int.le_trans hle5.2 hl6.2⟩
  have hle4 : KLe ((kX q.E q.f 8 a0 1 s.fresh.fresh).to s.nx ⟨20, 1, 0, 0, 0⟩) (kAll (kS q.E q.f q.lv d) th ((kX q.E q.f 8 a0 1 s.fresh.fresh).to s.nx ⟨20, 1, 0, 0, 0⟩)) := kAll_le _ (kS_le _ _ _ d) _ _
  have hl4 : ((kX q.E q.f 8 a0 1 s.fresh.fresh).to s.nx ⟨20, 1, 0, 0, 0⟩).code.length ≤ 1000000 ∧ ((kX q.E q.f 8 a0 1 s.fresh.fresh).to s.nx ⟨20, 1, 0, 0, 0⟩).nx ≤ 1000000 := ⟨Nat.le_trans hle4.1 hl5.1, Int.le_trans hle4.2 hl5.2⟩
  have hle3 : KLe (kX q.E q.f 8 a0 1 s.fresh.fresh) ((kX q.E q.f 8 a0 1 s.fresh.fresh).to s.nx ⟨20, 1, 0, 0, 0⟩) := kto_le _ _ _
  have hl3 : (kX q.E q.f 8 a0 1 s.fresh.fresh).code.length ≤ 1000000 ∧ (kX q.E q.f 8 a0 1 s.fresh.fresh).nx ≤ 1000000 := ⟨Nat.le_trans hle3.1 hl4.1, Int.le_trans hle3.2 hl4.2⟩
  have hle2 : KLe s.fresh.fresh (kX q.E q.f 8 a0 1 s.fresh.fresh) := (kX_le q.E q.f 8 a0 1 _).1
  have hl2 : s.fresh.fresh.code.length ≤ 1000000 ∧ s.fresh.fresh.nx ≤ 1000000 := ⟨Nat.le_trans hle2.1 hl3.1, Int.le_trans hle2.2 hl3.2⟩
  have hle1 : KLe s.fresh s.fresh.fresh := kfresh_le _
  have hl1 : s.fresh.code.length ≤ 1000000 ∧ s.fresh.nx ≤ 1000000 := ⟨Nat.le_trans hle1.1 hl2.1, Int.le_trans hle1.2 hl2.2⟩
  have hle0 : KLe s s.fresh := kfresh_le _
  have hl0 : s.code.length ≤ 1000000 ∧ s.nx ≤ 1000000 := ⟨Nat.le_trans hle0.1 hl1.1, Int.le_trans hle0.2 hl1.2⟩
  have h00 : 0 ≤ s.nx := h0
  have h01 : 0 ≤ s.fresh.nx := Int.le_trans h00 hle0.2
  have h02 : 0 ≤ s.fresh.fresh.nx := Int.le_trans h01 hle1.2
  have h03 : 0 ≤ (kX q.E q.f 8 a0 1 s.fresh.fresh).nx := Int.le_trans h02 hle2.2
  have h04 : 0 ≤ ((kX q.E q.f 8 a0 1 s.fresh.fresh).to s.nx ⟨20, 1, 0, 0, 0⟩).nx := Int.le_trans h03 hle3.2
  have h05 : 0 ≤ (kAll (kS q.E q.f q.lv d) th ((kX q.E q.f 8 a0 1 s.fresh.fresh).to s.nx ⟨20, 1, 0, 0, 0⟩)).nx := Int.le_trans h04 hle4.2
  have h06 : 0 ≤ ((kAll (kS q.E q.f q.lv d) th ((kX q.E q.f 8 a0 1 s.fresh.fresh).to s.nx ⟨20, 1, 0, 0, 0⟩)).to (s.nx + 1) ⟨19, 0, 0, 0, 0⟩).nx := Int.le_trans h05 hle5.2
  have h07 : 0 ≤ (((kAll (kS q.E q.f q.lv d) th ((kX q.E q.f 8 a0 1 s.fresh.fresh).to s.nx ⟨20, 1, 0, 0, 0⟩)).to (s.nx + 1) ⟨19, 0, 0, 0, 0⟩).here s.nx).nx := Int.le_trans h06 hle6.2
  have h08 : 0 ≤ (kAll (kS q.E q.f q.lv d) el (((kAll (kS q.E q.f q.lv d) th ((kX q.E q.f 8 a0 1 s.fresh.fresh).to s.nx ⟨20, 1, 0, 0, 0⟩)).to (s.nx + 1) ⟨19, 0, 0, 0, 0⟩).here s.nx)).nx := Int.le_trans h07 hle7.2
  have h09 : 0 ≤ ((kAll (kS q.E q.f q.lv d) el (((kAll (kS q.E q.f q.lv d) th ((kX q.E q.f 8 a0 1 s.fresh.fresh).to s.nx ⟨20, 1, 0, 0, 0⟩)).to (s.nx + 1) ⟨19, 0, 0, 0, 0⟩).here s.nx)).here (s.nx + 1)).nx := Int.le_trans h08 hle8.2
  clear h0 hb hn
  replace hl0 := hid hl0
  replace h00 := hid h00
  replace hl1 := hid hl1
  replace h01 := hid h01
  replace hl2 := hid hl2
  replace h02 := hid h02
  replace hl3 := hid hl3
  replace h03 := hid h03
  replace hl4 := hid hl4
  replace h04 := hid h04
  replace hl5 := hid hl5
  replace h05 := hid h05
  replace hl6 := hid hl6
  replace h06 := hid h06
  replace hl7 := hid hl7
  replace h07 := hid h07
  replace hl8 := hid hl8
  replace h08 := hid h08
  replace hl9 := hid hl9
  replace h09 := hid h09
  clear hle0
  clear hle1
  clear hle2
  clear hle3
  clear hle4
  clear hle5
  clear hle6
  clear hle7
  clear hle8
  obtain ⟨o1, ho1⟩ : ∃ o1, o1 = Obj.cells #[.int .u8 3, .int .i64 v, .int .i64 f, .int .i64 tg, .slice (some ⟨g, off, none⟩) m cap, .slice sb nb cb, .slice sc nc cc] 94 := ⟨_, rfl⟩
  have hK1 := hK.al o1
  have hfin : ∀ (s' : KS) (w' : World), KK N (fun k => P k ∧ k ≠ w.heap.size) q s' w' → Ch (fun k => P k ∧ k ≠ w.heap.size) (w.alloc o1) w' → KK N P q s' w' ∧ Ch P w w' := fun _ _ h1 h2 => hK.out1 h1 h2
  have A0 : Arr (w.alloc o1) w.heap.size 94 #[.int .u8 3, .int .i64 v, .int .i64 f, .int .i64 tg, .slice (some ⟨g, off, none⟩) m cap, .slice sb nb cb, .slice sc nc cc] := by rw [ho1]; exact Arr.new w 94 _
  have hbw0 : Below N w (w.alloc o1) := ((Ch.refl P w).al o1).bl hK.n
  obtain ⟨k0, n0, v0, o0', sl0, m0, c0, hca0⟩ := hM0.cs
  subst hca0
  have hm_0 : (0 : Int) < m := by omega
  generalize hPP : (fun k => P k ∧ k ≠ w.heap.size) = P' at *
  have hpx : ¬ P' w.heap.size := by rw [← hPP]; exact fun e => e.2 rfl
  subst ho1
  clear hPP
  replace hfin := hid hfin
  replace hG := hid hG
  replace hK := hid hK
  replace hvs := hid hvs
  replace ra0 := hid ra0
  replace hM0 := hid hM0
  replace ok0 := hid ok0
  replace hSG := hid hSG
  replace hRb := hid hRb
  replace hOb := hid hOb
  replace hRc := hid hRc
  replace hOc := hid hOc
  have hK0 := hK1
  have hcA0 := Ch.refl P' (w.alloc (.cells #[.int .u8 3, .int .i64 v, .int .i64 f, .int .i64 tg, .slice (some ⟨g, off, none⟩) m cap, .slice sb nb cb, .slice sc nc cc] 94))
  unfold exC at *
  go_enter Try.func51, Try.ntmps51
  have x0_1 := A0.cell 1
  have x0_2 := A0.cell 2
  have x0_3 := A0.cell 3
  have x0_4 := A0.cell 4
  have x0_5 := A0.cell 5
  have x0_6 := A0.cell 6
  obtain ⟨cv0, gv0, hB0⟩ := hK0.b
  have p0_2 := hB0.c2
  have p0_8 := hB0.c8
  have p0_9 := hB0.c9
  unfold pF at p0_2
  clear hB0
  have ct0 := (fresh_k (w.alloc (.cells #[.int .u8 3, .int .i64 v, .int .i64 f, .int .i64 tg, .slice (some ⟨g, off, none⟩) m cap, .slice sb nb cb, .slice sc nc cc] 94)) hK0 h00.out hl0.out.2)
  replace ct0 := hid ct0
  go_upto_region 2 with (first | (go_at_call 85; have ctx := ct0; clear ct0; go_must (refine ctx.out.mono ?_; rintro e w1 ⟨rfl, hK1, hc1⟩; have A1 := hc1.arr A0 hpx; have hbw1 := hbw0.trans (hK0.bel hc1); have hcA1 := hcA0.trans hc1)) | (go_at_call 85; go_must (refine ((fresh_k w1 hK1 h01.out hl1.out.2)).mono ?_; rintro e w2 ⟨rfl, hK2, hc2⟩; have A2 := hc2.arr A1 hpx; have hbw2 := hbw1.trans (hK1.bel hc2); have hcA2 := hcA1.trans hc2)))
  clear x0_1 x0_2 x0_3 x0_4 x0_5 x0_6 p0_2 p0_8 p0_9
  have x2_1 := A2.cell 1
  have x2_2 := A2.cell 2
  have x2_3 := A2.cell 3
  have x2_4 := A2.cell 4
  have x2_5 := A2.cell 5
  have x2_6 := A2.cell 6
  have rr2 := rgk ra0.out hbw2 hg
  have y2_0_0 := rr2 0 _ rfl
  have y2_0_1 := rr2 1 _ rfl
  have y2_0_2 := rr2 2 _ rfl
  have y2_0_3 := rr2 3 _ rfl
  have y2_0_4 := rr2 4 _ rfl
  simp only [Nat.add_zero, Nat.add_assoc, Nat.reduceAdd] at y2_0_0 y2_0_1 y2_0_2 y2_0_3 y2_0_4
  clear rr2
  obtain ⟨cv2, gv2, hB2⟩ := hK2.b
  have p2_2 := hB2.c2
  have p2_8 := hB2.c8
  have p2_9 := hB2.c9
  unfold pF at p2_2
  clear hB2
  have ct2 := (value_any 8 _ q _ w2 _ a0 vs 1 hK2 hG.out (ExM.below hbw2 _ _ _ hM0.out) ok0.out hvs.out (by omega) (by omega) hl3.out.1)
  replace ct2 := hid ct2
  go_upto_region 3 with (go_at_call 80; have ctx := ct2; clear ct2; go_must (refine ctx.out.mono ?_; rintro e w3 ⟨rfl, hK3, hc3⟩; have A3 := hc3.arr A2 hpx; have hbw3 := hbw2.trans (hK2.bel hc3); have hcA3 := hcA2.trans hc3))
  clear x2_1 x2_2 x2_3 x2_4 x2_5 x2_6 y2_0_0 y2_0_1 y2_0_2 y2_0_3 y2_0_4 p2_2 p2_8 p2_9
  have x3_1 := A3.cell 1
  have x3_2 := A3.cell 2
  have x3_3 := A3.cell 3
  have x3_4 := A3.cell 4
  have x3_5 := A3.cell 5
  have x3_6 := A3.cell 6
  obtain ⟨cv3, gv3, hB3⟩ := hK3.b
  have p3_2 := hB3.c2
  have p3_8 := hB3.c8
  have p3_9 := hB3.c9
  unfold pF at p3_2
  clear hB3
  have ct3 := (putTo_k (l := s.nx) (o := 20) (a := 1) (b := 0) (c := 0) (i := 0) w3 hK3 (by have h := hl4.out.1; simp [kVar, kSlot, kData, kProbe, kRaise, KS.to, KS.put, KS.here, KS.fresh] at h ⊢; omega))
  replace ct3 := hid ct3
  go_upto_region 4 with (go_at_call 62; have ctx := ct3; clear ct3; go_must (refine ctx.out.mono ?_; rintro e w4 ⟨rfl, hK4, hc4⟩; have A4 := hc4.arr A3 hpx; have hbw4 := hbw3.trans (hK3.bel hc4); have hcA4 := hcA3.trans hc4))
  clear x3_1 x3_2 x3_3 x3_4 x3_5 x3_6 p3_2 p3_8 p3_9
  have x4_1 := A4.cell 1
  have x4_2 := A4.cell 2
  have x4_3 := A4.cell 3
  have x4_4 := A4.cell 4
  have x4_5 := A4.cell 5
  have x4_6 := A4.cell 6
  obtain ⟨cv4, gv4, hB4⟩ := hK4.b
  have p4_2 := hB4.c2
  have p4_8 := hB4.c8
  have p4_9 := hB4.c9
  unfold pF at p4_2
  clear hB4
  have ct4 := (hE _ _ _ w4 _ _ _ _ _ _ hK4 hG.out hSG.out (hRb.out.imp hbw4 (StM.below hbw4 d)) hOb.out h04.out hl5.out.1 hl5.out.2)
  replace ct4 := hid ct4
  go_upto_region 5 with (go_at_call 86; have ctx := ct4; clear ct4; go_must (refine ctx.out.mono ?_; rintro e w5 ⟨rfl, hK5, hc5⟩; have A5 := hc5.arr A4 hpx; have hbw5 := hbw4.trans (hK4.bel hc5); have hcA5 := hcA4.trans hc5))
  clear x4_1 x4_2 x4_3 x4_4 x4_5 x4_6 p4_2 p4_8 p4_9
  have x5_1 := A5.cell 1
  have x5_2 := A5.cell 2
  have x5_3 := A5.cell 3
  have x5_4 := A5.cell 4
  have x5_5 := A5.cell 5
  have x5_6 := A5.cell 6
  obtain ⟨cv5, gv5, hB5⟩ := hK5.b
  have p5_2 := hB5.c2
  have p5_8 := hB5.c8
  have p5_9 := hB5.c9
  unfold pF at p5_2
  clear hB5
  have ct5 := (putTo_k (l := (s.nx + 1)) (o := 19) (a := 0) (b := 0) (c := 0) (i := 0) w5 hK5 (by have h := hl6.out.1; simp [kVar, kSlot, kData, kProbe, kRaise, KS.to, KS.put, KS.here, KS.fresh] at h ⊢; omega))
  replace ct5 := hid ct5
  go_upto_region 6 with (go_at_call 62; have ctx := ct5; clear ct5; go_must (refine ctx.out.mono ?_; rintro e w6 ⟨rfl, hK6, hc6⟩; have A6 := hc6.arr A5 hpx; have hbw6 := hbw5.trans (hK5.bel hc6); have hcA6 := hcA5.trans hc6))
  clear x5_1 x5_2 x5_3 x5_4 x5_5 x5_6 p5_2 p5_8 p5_9
  have x6_1 := A6.cell 1
  have x6_2 := A6.cell 2
  have x6_3 := A6.cell 3
  have x6_4 := A6.cell 4
  have x6_5 := A6.cell 5
  have x6_6 := A6.cell 6
  obtain ⟨cv6, gv6, hB6⟩ := hK6.b
  have p6_2 := hB6.c2
  have p6_8 := hB6.c8
  have p6_9 := hB6.c9
  unfold pF at p6_2
  clear hB6
  have ct6 := (here_k (l := s.nx) w6 hK6 (by have h := hl7.out.1; simpa [KS.here] using h))
  replace ct6 := hid ct6
  go_upto_region 7 with (go_at_call 64; have ctx := ct6; clear ct6; go_must (refine ctx.out.mono ?_; rintro e w7 ⟨rfl, hK7, hc7⟩; have A7 := hc7.arr A6 hpx; have hbw7 := hbw6.trans (hK6.bel hc7); have hcA7 := hcA6.trans hc7))
  clear x6_1 x6_2 x6_3 x6_4 x6_5 x6_6 p6_2 p6_8 p6_9
  have x7_1 := A7.cell 1
  have x7_2 := A7.cell 2
  have x7_3 := A7.cell 3
  have x7_4 := A7.cell 4
  have x7_5 := A7.cell 5
  have x7_6 := A7.cell 6
  obtain ⟨cv7, gv7, hB7⟩ := hK7.b
  have p7_2 := hB7.c2
  have p7_8 := hB7.c8
  have p7_9 := hB7.c9
  unfold pF at p7_2
  clear hB7
  have ct7 := (hE _ _ _ w7 _ _ _ _ _ _ hK7 hG.out hSG.out (hRc.out.imp hbw7 (StM.below hbw7 d)) hOc.out h07.out hl8.out.1 hl8.out.2)
  replace ct7 := hid ct7
  go_upto_region 8 with (go_at_call 86; have ctx := ct7; clear ct7; go_must (refine ctx.out.mono ?_; rintro e w8 ⟨rfl, hK8, hc8⟩; have A8 := hc8.arr A7 hpx; have hbw8 := hbw7.trans (hK7.bel hc8); have hcA8 := hcA7.trans hc8))
  clear x7_1 x7_2 x7_3 x7_4 x7_5 x7_6 p7_2 p7_8 p7_9
  have x8_1 := A8.cell 1
  have x8_2 := A8.cell 2
  have x8_3 := A8.cell 3
  have x8_4 := A8.cell 4
  have x8_5 := A8.cell 5
  have x8_6 := A8.cell 6
  obtain ⟨cv8, gv8, hB8⟩ := hK8.b
  have p8_2 := hB8.c2
  have p8_8 := hB8.c8
  have p8_9 := hB8.c9
  unfold pF at p8_2
  clear hB8
  have ct8 := (here_k (l := (s.nx + 1)) w8 hK8 (by have h := hl9.out.1; simpa [KS.here] using h))
  replace ct8 := hid ct8
  go_wp2_with (go_at_call 64; have ctx := ct8; clear ct8; go_must (refine ctx.out.mono ?_; rintro e w9 ⟨rfl, hK9, hc9⟩; have A9 := hc9.arr A8 hpx; have hbw9 := hbw8.trans (hK8.bel hc9); have hcA9 := hcA8.trans hc9))
  go_end0
  exact ⟨rfl, hfin.out _ _ hK9 hcA9⟩
set_option maxHeartbeats 4000000 in
theorem repeat_any {d : Nat} {v f tg vs : Int} {g off m cap : Nat} {sb sc : Option Addr} {nb cb nc cc : Nat} {ca0 : List Value} {a0 : ExT 8} {th : List (StT d)} {ps : List Int} (w : World) (hK : KK N P q s w) (hG : KG q) (hg : g < N) (hm : 1 ≤ m) (ra0 : w.rangeAt g off ca0) (hM0 : ExM N w 8 ca0 a0) (ok0 : okX vs 8 a0) (hvs : vs ≤ 64) (hE : SL N d) (hSG : SG q ps vs) (hRb : RS N w 7 (StM N w d) sb nb cb th) (hOb : ∀ a ∈ th, okS ps vs d a) (h0 : 0 ≤ s.nx) (hb : (((kAll (kS q.E q.f q.lv d) th ((kX q.E q.f 8 a0 1 (s.fresh.fresh.here s.nx)).to (s.nx + 1) ⟨20, 1, 0, 0, 0⟩)).to s.nx ⟨19, 0, 0, 0, 0⟩).here (s.nx + 1)).code.length ≤ 1000000) (hn : (((kAll (kS q.E q.f q.lv d) th ((kX q.E q.f 8 a0 1 (s.fresh.fresh.here s.nx)).to (s.nx + 1) ⟨20, 1, 0, 0, 0⟩)).to s.nx ⟨19, 0, 0, 0, 0⟩).here (s.nx + 1)).nx ≤ 1000000) :
    Calls Try.prog 52 #[.pointer (some ⟨q.g, 0, none⟩), .agg #[.int .u8 4, .int .i64 v, .int .i64 f, .int .i64 tg, .slice (some ⟨g, off, none⟩) m cap, .slice sb nb cb, .slice sc nc cc]] w (KZ N P q (((kAll (kS q.E q.f q.lv d) th ((kX q.E q.f 8 a0 1 (s.fresh.fresh.here s.nx)).to (s.nx + 1) ⟨20, 1, 0, 0, 0⟩)).to s.nx ⟨19, 0, 0, 0, 0⟩).here (s.nx + 1)) w) := by
  have hl8 : (((kAll (kS q.E q.f q.lv d) th ((kX q.E q.f 8 a0 1 (s.fresh.fresh.here s.nx)).to (s.nx + 1) ⟨20, 1, 0, 0, 0⟩)).to s.nx ⟨19, 0, 0, 0, 0⟩).here (s.nx + 1)).code.length ≤ 1000000 ∧ (((kAll (kS q.E q.f q.lv d) th ((kX q.E q.f 8 a0 1 (s.fresh.fresh.here s.nx)).to (s.nx + 1) ⟨20, 1, 0, 0, 0⟩)).to s.nx ⟨19, 0, 0, 0, 0⟩).here (s.nx + 1)).nx ≤ 1000000 := ⟨hb, hn⟩
  have hle7 : KLe ((kAll (kS q.E q.f q.lv d) th ((kX q.E q.f 8 a0 1 (s.fresh.fresh.here s.nx)).to (s.nx + 1) ⟨20, 1, 0, 0, 0⟩)).to s.nx ⟨19, 0, 0, 0, 0⟩) (((kAll (kS q.E q.f q.lv d) th ((kX q.E q.f 8 a0 1 (s.fresh.fresh.here s.nx)).to (s.nx + 1) ⟨20, 1, 0, 0, 0⟩)).to s.nx ⟨19, 0, 0, 0, 0⟩).here (s.nx + 1)) := khere_le _ _
  have hl7 : ((kAll (kS q.E q.f q.lv d) th ((kX q.E q.f 8 a0 1 (s.fresh.fresh.here s.nx)).to (s.nx + 1) ⟨20, 1, 0, 0, 0⟩)).to s.nx ⟨19, 0, 0, 0, 0⟩).code.length ≤ 1000000 ∧ ((kAll (kS q.E q.f q.lv d) th ((kX q.E q.f 8 a0 1 (s.fresh.fresh.here s.nx)).to (s.nx + 1) ⟨20, 1, 0, 0, 0⟩)).to s.nx ⟨19, 0, 0, 0, 0⟩).nx ≤ 1000000 := ⟨Nat.le_trans hle7.1 hl8.1, Int.le_trans hle7.2 hl8.2⟩
  have hle6 : KLe (kAll (kS q.E q.f q.lv d) th ((kX q.E q.f 8 a0 1 (s.fresh.fresh.here s.nx)).to (s.nx + 1) ⟨20, 1, 0, 0, 0⟩)) ((kAll (kS q.E q.f q.lv d) th ((kX q.E q.f 8 a0 1 (s.fresh.fresh.here s.nx)).to (s.nx + 1) ⟨20, 1, 0, 0, 0⟩)).to s.nx ⟨19, 0, 0, 0, 0⟩) := kto_le _ _ _
  have hl6 : (kAll (kS q.E q.f q.lv d) th ((kX q.E q.f 8 a0 1 (s.fresh.fresh.here s.nx)).to (s.nx + 1) ⟨20, 1, 0, 0, 0⟩)).code.length ≤ 1000000 ∧ (kAll (kS q.E q.f q.lv d) th ((kX q.E q.f 8 a0 1 (s.fresh.fresh.here s.nx)).to (s.nx + 1) ⟨20, 1, 0, 0, 0⟩)).nx ≤ 1000000 := ⟨Nat.le_trans hle6.1 hl7.1, Int.le_trans hle6.2 hl7.2⟩
  have hle5 : KLe ((kX q.E q.f 8 a0 1 (s.fresh.fresh.here s.nx)).to (s.nx + 1) ⟨20, 1, 0, 0, 0⟩) (kAll (kS q.E q.f q.lv d) th ((kX q.E q.f 8 a0 1 (s.fresh.fresh.here s.nx)).to (s.nx + 1) ⟨20, 1, 0, 0, 0⟩)) := kAll_le _ (kS_le _ _ _ d) _ _
  have hl5 : ((kX q.E q.f 8 a0 1 (s.fresh.fresh.here s.nx)).to (s.nx + 1) ⟨20, 1, 0, 0, 0⟩).code.length ≤ 1000000 ∧ ((kX q.E q.f 8 a0 1 (s.fresh.fresh.here s.nx)).to (s.nx + 1) ⟨20, 1, 0, 0, 0⟩).nx ≤ 1000000 := ⟨Nat.le_trans hle5.1 hl6.1, Int.le_trans hle5.2 hl6.2⟩
  have hle4 : KLe (kX q.E q.f 8 a0 1 (s.fresh.fresh.here s.nx)) ((kX q.E q.f 8 a0 1 (s.fresh.fresh.here s.nx)).to (s.nx + 1) ⟨20, 1, 0, 0, 0⟩) := kto_le _ _ _
  have hl4 : (kX q.E q.f 8 a0 1 (s.fresh.fresh.here s.nx)).code.length ≤ 1000000 ∧ (kX q.E q.f 8 a0 1 (s.fresh.fresh.here s.nx)).nx ≤ 1000000 := ⟨Nat.le_trans hle4.1 hl5.1, Int.le_trans hle4.2 hl5.2⟩
  have hle3 : KLe (s.fresh.fresh.here s.nx) (kX q.E q.f 8 a0 1 (s.fresh.fresh.here s.nx)) := (kX_le q.E q.f 8 a0 1 _).1
  have hl3 : (s.fresh.fresh.here s.nx).code.length ≤ 1000000 ∧ (s.fresh.fresh.here s.nx).nx ≤ 1000000 := ⟨Nat.le_trans hle3.1 hl4.1, Int.le_trans hle3.2 hl4.2⟩
  have hle2 : KLe s.fresh.fresh (s.fresh.fresh.here s.nx) := khere_le _ _
  have hl2 : s.fresh.fresh.code.length ≤ 1000000 ∧ s.fresh.fresh.nx ≤ 1000000 := ⟨Nat.le_trans hle2.1 hl3.1, Int.le_trans hle2.2 hl3.2⟩
  have hle1 : KLe s.fresh s.fresh.fresh := kfresh_le _
  have hl1 : s.fresh.code.length ≤ 1000000 ∧ s.fresh.nx ≤ 1000000 := ⟨Nat.le_trans hle1.1 hl2.1, Int.le_trans hle1.2 hl2.2⟩
  have hle0 : KLe s s.fresh := kfresh_le _
  have hl0 : s.code.length ≤ 1000000 ∧ s.nx ≤ 1000000 := ⟨Nat.le_trans hle0.1 hl1.1, Int.le_trans hle0.2 hl1.2⟩
  have h00 : 0 ≤ s.nx := h0
  have h01 : 0 ≤ s.fresh.nx := Int.le_trans h00 hle0.2
  have h02 : 0 ≤ s.fresh.fresh.nx := Int.le_trans h01 hle1.2
  have h03 : 0 ≤ (s.fresh.fresh.here s.nx).nx := Int.le_trans h02 hle2.2
  have h04 : 0 ≤ (kX q.E q.f 8 a0 1 (s.fresh.fresh.here s.nx)).nx := Int.le_trans h03 hle3.2
  have h05 : 0 ≤ ((kX q.E q.f 8 a0 1 (s.fresh.fresh.here s.nx)).to (s.nx + 1) ⟨20, 1, 0, 0, 0⟩).nx := Int.le_trans h04 hle4.2
  have h06 : 0 ≤ (kAll (kS q.E q.f q.lv d) th ((kX q.E q.f 8 a0 1 (s.fresh.fresh.here s.nx)).to (s.nx + 1) ⟨20, 1, 0, 0, 0⟩)).nx := Int.le_trans h05 hle5.2
  have h07 : 0 ≤ ((kAll (kS q.E q.f q.lv d) th ((kX q.E q.f 8 a0 1 (s.fresh.fresh.here s.nx)).to (s.nx + 1) ⟨20, 1, 0, 0, 0⟩)).to s.nx ⟨19, 0, 0, 0, 0⟩).nx := Int.le_trans h06 hle6.2
  have h08 : 0 ≤ (((kAll (kS q.E q.f q.lv d) th ((kX q.E q.f 8 a0 1 (s.fresh.fresh.here s.nx)).to (s.nx + 1) ⟨20, 1, 0, 0, 0⟩)).to s.nx ⟨19, 0, 0, 0, 0⟩).here (s.nx + 1)).nx := Int.le_trans h07 hle7.2
  clear h0 hb hn
  replace hl0 := hid hl0
  replace h00 := hid h00
  replace hl1 := hid hl1
  replace h01 := hid h01
  replace hl2 := hid hl2
  replace h02 := hid h02
  replace hl3 := hid hl3
  replace h03 := hid h03
  replace hl4 := hid hl4
  replace h04 := hid h04
  replace hl5 := hid hl5
  replace h05 := hid h05
  replace hl6 := hid hl6
  replace h06 := hid h06
  replace hl7 := hid hl7
  replace h07 := hid h07
  replace hl8 := hid hl8
  replace h08 := hid h08
  clear hle0
  clear hle1
  clear hle2
  clear hle3
  clear hle4
  clear hle5
  clear hle6
  clear hle7
  obtain ⟨o1, ho1⟩ : ∃ o1, o1 = Obj.cells #[.int .u8 4, .int .i64 v, .int .i64 f, .int .i64 tg, .slice (some ⟨g, off, none⟩) m cap, .slice sb nb cb, .slice sc nc cc] 94 := ⟨_, rfl⟩
  have hK1 := hK.al o1
  have hfin : ∀ (s' : KS) (w' : World), KK N (fun k => P k ∧ k ≠ w.heap.size) q s' w' → Ch (fun k => P k ∧ k ≠ w.heap.size) (w.alloc o1) w' → KK N P q s' w' ∧ Ch P w w' := fun _ _ h1 h2 => hK.out1 h1 h2
  have A0 : Arr (w.alloc o1) w.heap.size 94 #[.int .u8 4, .int .i64 v, .int .i64 f, .int .i64 tg, .slice (some ⟨g, off, none⟩) m cap, .slice sb nb cb, .slice sc nc cc] := by rw [ho1]; exact Arr.new w 94 _
  have hbw0 : Below N w (w.alloc o1) := ((Ch.refl P w).al o1).bl hK.n
  obtain ⟨k0, n0, v0, o0', sl0, m0, c0, hca0⟩ := hM0.cs
  subst hca0
  have hm_0 : (0 : Int) < m := by omega
  generalize hPP : (fun k => P k ∧ k ≠ w.heap.size) = P' at *
  have hpx : ¬ P' w.heap.size := by rw [← hPP]; exact fun e => e.2 rfl
  subst ho1
  clear hPP
  replace hfin := hid hfin
  replace hG := hid hG
  replace hK := hid hK
  replace hvs := hid hvs
  replace ra0 := hid ra0
  replace hM0 := hid hM0
  replace ok0 := hid ok0
  replace hSG := hid hSG
  replace hRb := hid hRb
  replace hOb := hid hOb
  have hK0 := hK1
  have hcA0 := Ch.refl P' (w.alloc (.cells #[.int .u8 4, .int .i64 v, .int .i64 f, .int .i64 tg, .slice (some ⟨g, off, none⟩) m cap, .slice sb nb cb, .slice sc nc cc] 94))
  unfold exC at *
  go_enter Try.func52, Try.ntmps52
  have x0_1 := A0.cell 1
  have x0_2 := A0.cell 2
  have x0_3 := A0.cell 3
  have x0_4 := A0.cell 4
  have x0_5 := A0.cell 5
  have x0_6 := A0.cell 6
  obtain ⟨cv0, gv0, hB0⟩ := hK0.b
  have p0_2 := hB0.c2
  have p0_8 := hB0.c8
  have p0_9 := hB0.c9
  unfold pF at p0_2
  clear hB0
  have ct0 := (fresh_k (w.alloc (.cells #[.int .u8 4, .int .i64 v, .int .i64 f, .int .i64 tg, .slice (some ⟨g, off, none⟩) m cap, .slice sb nb cb, .slice sc nc cc] 94)) hK0 h00.out hl0.out.2)
  replace ct0 := hid ct0
  go_upto_region 2 with (first | (go_at_call 85; have ctx := ct0; clear ct0; go_must (refine ctx.out.mono ?_; rintro e w1 ⟨rfl, hK1, hc1⟩; have A1 := hc1.arr A0 hpx; have hbw1 := hbw0.trans (hK0.bel hc1); have hcA1 := hcA0.trans hc1)) | (go_at_call 85; go_must (refine ((fresh_k w1 hK1 h01.out hl1.out.2)).mono ?_; rintro e w2 ⟨rfl, hK2, hc2⟩; have A2 := hc2.arr A1 hpx; have hbw2 := hbw1.trans (hK1.bel hc2); have hcA2 := hcA1.trans hc2)))
  clear x0_1 x0_2 x0_3 x0_4 x0_5 x0_6 p0_2 p0_8 p0_9
  have x2_1 := A2.cell 1
  have x2_2 := A2.cell 2
  have x2_3 := A2.cell 3
  have x2_4 := A2.cell 4
  have x2_5 := A2.cell 5
  have x2_6 := A2.cell 6
  obtain ⟨cv2, gv2, hB2⟩ := hK2.b
  have p2_2 := hB2.c2
  have p2_8 := hB2.c8
  have p2_9 := hB2.c9
  unfold pF at p2_2
  clear hB2
  have ct2 := (here_k (l := s.nx) w2 hK2 (by have h := hl3.out.1; simpa [KS.here] using h))
  replace ct2 := hid ct2
  go_upto_region 3 with (go_at_call 64; have ctx := ct2; clear ct2; go_must (refine ctx.out.mono ?_; rintro e w3 ⟨rfl, hK3, hc3⟩; have A3 := hc3.arr A2 hpx; have hbw3 := hbw2.trans (hK2.bel hc3); have hcA3 := hcA2.trans hc3))
  clear x2_1 x2_2 x2_3 x2_4 x2_5 x2_6 p2_2 p2_8 p2_9
  have x3_1 := A3.cell 1
  have x3_2 := A3.cell 2
  have x3_3 := A3.cell 3
  have x3_4 := A3.cell 4
  have x3_5 := A3.cell 5
  have x3_6 := A3.cell 6
  have rr3 := rgk ra0.out hbw3 hg
  have y3_0_0 := rr3 0 _ rfl
  have y3_0_1 := rr3 1 _ rfl
  have y3_0_2 := rr3 2 _ rfl
  have y3_0_3 := rr3 3 _ rfl
  have y3_0_4 := rr3 4 _ rfl
  simp only [Nat.add_zero, Nat.add_assoc, Nat.reduceAdd] at y3_0_0 y3_0_1 y3_0_2 y3_0_3 y3_0_4
  clear rr3
  obtain ⟨cv3, gv3, hB3⟩ := hK3.b
  have p3_2 := hB3.c2
  have p3_8 := hB3.c8
  have p3_9 := hB3.c9
  unfold pF at p3_2
  clear hB3
  have ct3 := (value_any 8 _ q _ w3 _ a0 vs 1 hK3 hG.out (ExM.below hbw3 _ _ _ hM0.out) ok0.out hvs.out (by omega) (by omega) hl4.out.1)
  replace ct3 := hid ct3
  go_upto_region 4 with (go_at_call 80; have ctx := ct3; clear ct3; go_must (refine ctx.out.mono ?_; rintro e w4 ⟨rfl, hK4, hc4⟩; have A4 := hc4.arr A3 hpx; have hbw4 := hbw3.trans (hK3.bel hc4); have hcA4 := hcA3.trans hc4))
  clear x3_1 x3_2 x3_3 x3_4 x3_5 x3_6 y3_0_0 y3_0_1 y3_0_2 y3_0_3 y3_0_4 p3_2 p3_8 p3_9
  have x4_1 := A4.cell 1
  have x4_2 := A4.cell 2
  have x4_3 := A4.cell 3
  have x4_4 := A4.cell 4
  have x4_5 := A4.cell 5
  have x4_6 := A4.cell 6
  obtain ⟨cv4, gv4, hB4⟩ := hK4.b
  have p4_2 := hB4.c2
  have p4_8 := hB4.c8
  have p4_9 := hB4.c9
  unfold pF at p4_2
  clear hB4
  have ct4 := (putTo_k (l := (s.nx + 1)) (o := 20) (a := 1) (b := 0) (c := 0) (i := 0) w4 hK4 (by have h := hl5.out.1; simp [kVar, kSlot, kData, kProbe, kRaise, KS.to, KS.put, KS.here, KS.fresh] at h ⊢; omega))
  replace ct4 := hid ct4
  go_upto_region 5 with (go_at_call 62; have ctx := ct4; clear ct4; go_must (refine ctx.out.mono ?_; rintro e w5 ⟨rfl, hK5, hc5⟩; have A5 := hc5.arr A4 hpx; have hbw5 := hbw4.trans (hK4.bel hc5); have hcA5 := hcA4.trans hc5))
  clear x4_1 x4_2 x4_3 x4_4 x4_5 x4_6 p4_2 p4_8 p4_9
  have x5_1 := A5.cell 1
  have x5_2 := A5.cell 2
  have x5_3 := A5.cell 3
  have x5_4 := A5.cell 4
  have x5_5 := A5.cell 5
  have x5_6 := A5.cell 6
  obtain ⟨cv5, gv5, hB5⟩ := hK5.b
  have p5_2 := hB5.c2
  have p5_8 := hB5.c8
  have p5_9 := hB5.c9
  unfold pF at p5_2
  clear hB5
  have ct5 := (hE _ _ _ w5 _ _ _ _ _ _ hK5 hG.out hSG.out (hRb.out.imp hbw5 (StM.below hbw5 d)) hOb.out h05.out hl6.out.1 hl6.out.2)
  replace ct5 := hid ct5
  go_upto_region 6 with (go_at_call 86; have ctx := ct5; clear ct5; go_must (refine ctx.out.mono ?_; rintro e w6 ⟨rfl, hK6, hc6⟩; have A6 := hc6.arr A5 hpx; have hbw6 := hbw5.trans (hK5.bel hc6); have hcA6 := hcA5.trans hc6))
  clear x5_1 x5_2 x5_3 x5_4 x5_5 x5_6 p5_2 p5_8 p5_9
  have x6_1 := A6.cell 1
  have x6_2 := A6.cell 2
  have x6_3 := A6.cell 3
  have x6_4 := A6.cell 4
  have x6_5 := A6.cell 5
  have x6_6 := A6.cell 6
  obtain ⟨cv6, gv6, hB6⟩ := hK6.b
  have p6_2 := hB6.c2
  have p6_8 := hB6.c8
  have p6_9 := hB6.c9
  unfold pF at p6_2
  clear hB6
  have ct6 := (putTo_k (l := s.nx) (o := 19) (a := 0) (b := 0) (c := 0) (i := 0) w6 hK6 (by have h := hl7.out.1; simp [kVar, kSlot, kData, kProbe, kRaise, KS.to, KS.put, KS.here, KS.fresh] at h ⊢; omega))
  replace ct6 := hid ct6
  go_upto_region 7 with (go_at_call 62; have ctx := ct6; clear ct6; go_must (refine ctx.out.mono ?_; rintro e w7 ⟨rfl, hK7, hc7⟩; have A7 := hc7.arr A6 hpx; have hbw7 := hbw6.trans (hK6.bel hc7); have hcA7 := hcA6.trans hc7))
  clear x6_1 x6_2 x6_3 x6_4 x6_5 x6_6 p6_2 p6_8 p6_9
  have x7_1 := A7.cell 1
  have x7_2 := A7.cell 2
  have x7_3 := A7.cell 3
  have x7_4 := A7.cell 4
  have x7_5 := A7.cell 5
  have x7_6 := A7.cell 6
  obtain ⟨cv7, gv7, hB7⟩ := hK7.b
  have p7_2 := hB7.c2
  have p7_8 := hB7.c8
  have p7_9 := hB7.c9
  unfold pF at p7_2
  clear hB7
  have ct7 := (here_k (l := (s.nx + 1)) w7 hK7 (by have h := hl8.out.1; simpa [KS.here] using h))
  replace ct7 := hid ct7
  go_wp2_with (go_at_call 64; have ctx := ct7; clear ct7; go_must (refine ctx.out.mono ?_; rintro e w8 ⟨rfl, hK8, hc8⟩; have A8 := hc8.arr A7 hpx; have hbw8 := hbw7.trans (hK7.bel hc8); have hcA8 := hcA7.trans hc8))
  go_end0
  exact ⟨rfl, hfin.out _ _ hK8 hcA8⟩
end Go.Proofs.Ytimmiidkjpbffaa
