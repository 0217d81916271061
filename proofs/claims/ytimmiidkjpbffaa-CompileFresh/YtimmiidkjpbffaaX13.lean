/- Layer compile: stores. -/
import Derived.Test.YtimmiidkjpbffaaX12
import Derived.Test.YtimmiidkjpbffaaX06
import Derived.Handy
import Derived.BigQuiet
import Derived.BigRegion
import Derived.Great.BuildSlice
namespace Go.Proofs.Ytimmiidkjpbffaa
open Go.RowKit
set_option maxRecDepth 100000
set_option linter.unusedVariables false
set_option linter.unusedSimpArgs false

variable {P : Nat → Prop} {q : KQ} {s : KS} {N : Nat}
theorem KK.ext {P'' : Nat → Prop} {w w' : World} (h : KK N P q s w) (hb : Below w.heap.size w w') (h1 : ∀ k, k < w.heap.size → (P'' k ↔ P k)) (h2 : ∀ k, w'.heap.size ≤ k → P'' k) : KK N P'' q s w' :=
  let ⟨cv, gv, hB⟩ := h.b
  let ⟨gf, cap, f1, f2, f3, f4⟩ := h.f
  ⟨⟨cv, gv, hB.mv (fun k hk hh => ⟨hb.block k hk, (h1 k hk).2 (by rcases hh with rfl | rfl | rfl | e | e <;> first | exact hB.pg.1 | exact hB.pg.2.1 | exact hB.pg.2.2 | exact hB.pc _ e | exact hB.pp _ e)⟩) h2⟩,
    ⟨gf, cap, f1, Nat.lt_of_lt_of_le f2 hb.size, fun e => f3 ((h1 gf f2).1 e), fun i x hx => (World.cell?_of_block (a := ⟨gf, i, none⟩) (hb.block gf f2)).trans (f4 i x hx)⟩,
    fun k hk => ⟨Nat.lt_of_lt_of_le (h.n k hk).1 hb.size, fun e => (h.n k hk).2 ((h1 k (h.n k hk).1).1 e)⟩⟩
theorem KK.up9 {w : World} (h : KK N P q s w) {k : Nat} (hk : w.heap.size ≤ k) : P k := let ⟨cv, gv, hb⟩ := h.b; hb.up k hk
def zEx : Array Value := #[.int .u8 0, .int .u64 0, .int .i64 0, .int .u8 0, .slice none 0 0]
set_option maxHeartbeats 4000000 in
theorem store_in {v f tg vs : Int} {g off m cap : Nat} {sb sc : Option Addr} {nb cb nc cc : Nat} {ca0 ca1 : List Value} {a0 a1 : ExT 8} (w : World) (hK : KK N P q s w) (hG : KG q) (hg : g < N) (hm : 2 ≤ m) (ra0 : w.rangeAt g off ca0) (hM0 : ExM N w 8 ca0 a0) (ok0 : okX vs 8 a0) (ra1 : w.rangeAt g (off + 5) ca1) (hM1 : ExM N w 8 ca1 a1) (ok1 : okX vs 8 a1) (hvs : vs ≤ 64) (hI : kIn q.E 8 a0 = true) (h0 : 0 ≤ s.nx) (hb : (kData 18 1 0 (kNum 8 a0) (kX q.E q.f 8 a1 1 s)).code.length ≤ 1000000) (hn : (kData 18 1 0 (kNum 8 a0) (kX q.E q.f 8 a1 1 s)).nx ≤ 1000000) :
    Calls Try.prog 50 #[.pointer (some ⟨q.g, 0, none⟩), .agg #[.int .u8 2, .int .i64 v, .int .i64 f, .int .i64 tg, .slice (some ⟨g, off, none⟩) m cap, .slice sb nb cb, .slice sc nc cc]] w (KZ N P q (kData 18 1 0 (kNum 8 a0) (kX q.E q.f 8 a1 1 s)) w) := by
  have hl3 : (kData 18 1 0 (kNum 8 a0) (kX q.E q.f 8 a1 1 s)).code.length ≤ 1000000 ∧ (kData 18 1 0 (kNum 8 a0) (kX q.E q.f 8 a1 1 s)).nx ≤ 1000000 := ⟨hb, hn⟩
  have hle2 : KLe (kX q.E q.f 8 a1 1 s) (kData 18 1 0 (kNum 8 a0) (kX q.E q.f 8 a1 1 s)) := kto_le _ _ _
  have hl2 : (kX q.E q.f 8 a1 1 s).code.length ≤ 1000000 ∧ (kX q.E q.f 8 a1 1 s).nx ≤ 1000000 := ⟨Nat.le_trans hle2.1 hl3.1, Int.le_trans hle2.2 hl3.2⟩
  have hle1 : KLe s (kX q.E q.f 8 a1 1 s) := (kX_le q.E q.f 8 a1 1 _).1
  have hl1 : s.code.length ≤ 1000000 ∧ s.nx ≤ 1000000 := ⟨Nat.le_trans hle1.1 hl2.1, Int.le_trans hle1.2 hl2.2⟩
  have hle0 : KLe s s := KLe.refl _
  have hl0 : s.code.length ≤ 1000000 ∧ s.nx ≤ 1000000 := ⟨Nat.le_trans hle0.1 hl1.1, Int.le_trans hle0.2 hl1.2⟩
  have h00 : 0 ≤ s.nx := h0
  have h01 : 0 ≤ s.nx := Int.le_trans h00 hle0.2
  have h02 : 0 ≤ (kX q.E q.f 8 a1 1 s).nx := Int.le_trans h01 hle1.2
  have h03 : 0 ≤ (kData 18 1 0 (kNum 8 a0) (kX q.E q.f 8 a1 1 s)).nx := Int.le_trans h02 hle2.2
  clear h0 hb hn
  replace hl0 := hid hl0
  replace h00 := hid h00
  replace hl1 := hid hl1
  replace h01 := hid h01
  replace hl2 := hid hl2
  replace h02 := hid h02
  replace hl3 := hid hl3
  replace h03 := hid h03
  clear hle0
  clear hle1
  clear hle2
  obtain ⟨e1, e2, e3, hca0, hko0, -⟩ := id hM0
  subst hca0
  have hnum : 0 ≤ kNum 8 a0 ∧ kNum 8 a0 ≤ 1024 := by
    have h1 := hko0.n.1
    have h2 := hG.d.2
    unfold kIn at hI
    simp at hI
    show 0 ≤ a0.nd.n ∧ a0.nd.n ≤ 1024
    omega
  replace hnum := hid hnum
  obtain ⟨k1, n1, v1, o1', sl1, m1, c1, hca1⟩ := hM1.cs
  subst hca1
  have hin : Hid (∀ (P' : Nat → Prop) (u : World), KK N P' q s u → Calls Try.prog 82 #[.pointer (some ⟨q.g, 0, none⟩), .agg #[.int .u8 a0.nd.k, .int .u64 a0.nd.n, .int .i64 a0.nd.v, .int .u8 a0.nd.o, .slice e1 e2 e3]] u fun e w' => e = .returned (.bool true) ∧ KK N P' q s w' ∧ Ch P' u w') := hid fun P' u hu => by
    have h := inData_any (k := a0.nd.k) (n := a0.nd.n) (v := a0.nd.v) (o := a0.nd.o) (sp := e1) (m := e2) (c := e3) u hu hG
    rw [kIn_is, hI] at h
    exact h
  obtain ⟨ob, hob⟩ : ∃ o1, o1 = Obj.cells #[.int .u8 2, .int .i64 v, .int .i64 f, .int .i64 tg, .slice (some ⟨g, off, none⟩) m cap, .slice sb nb cb, .slice sc nc cc] 94 := ⟨_, rfl⟩
  have hK1 := hK.al ob
  have A0 : Arr (w.alloc ob) w.heap.size 94 #[.int .u8 2, .int .i64 v, .int .i64 f, .int .i64 tg, .slice (some ⟨g, off, none⟩) m cap, .slice sb nb cb, .slice sc nc cc] := by rw [hob]; exact Arr.new w 94 _
  have hbwV : Below N w (w.alloc ob) := ((Ch.refl P w).al ob).bl hK.n
  have hcV : Ch P w (w.alloc ob) := (Ch.refl P w).al ob
  have hrr0 := rgk ra0 hbwV hg
  have hrr1 := rgk ra1 hbwV hg
  have y0_0 := hrr0 0 _ rfl
  have y0_1 := hrr0 1 _ rfl
  have y0_2 := hrr0 2 _ rfl
  have y0_3 := hrr0 3 _ rfl
  have y0_4 := hrr0 4 _ rfl
  simp only [Nat.add_zero, Nat.add_assoc, Nat.reduceAdd] at y0_0 y0_1 y0_2 y0_3 y0_4
  have y1_0 := hrr1 0 _ rfl
  have y1_1 := hrr1 1 _ rfl
  have y1_2 := hrr1 2 _ rfl
  have y1_3 := hrr1 3 _ rfl
  have y1_4 := hrr1 4 _ rfl
  simp only [Nat.add_zero, Nat.add_assoc, Nat.reduceAdd] at y1_0 y1_1 y1_2 y1_3 y1_4
  clear hrr0 hrr1
  have hmn0 : 0 < m := by omega
  have hmn1 : 1 < m := by omega
  have hm_0 : (0 : Int) < m := by omega
  have hm_1 : (1 : Int) < m := by omega
  have hgs : g < w.heap.size := (hK.n g hg).1
  replace hG := hid hG
  replace hK := hid hK
  replace hvs := hid hvs
  replace ra0 := hid ra0
  replace hM0 := hid hM0
  replace ok0 := hid ok0
  replace ra1 := hid ra1
  replace hM1 := hid hM1
  replace ok1 := hid ok1
  replace hI := hid hI
  have x4 := A0.cell 4
  generalize hsz : w.heap.size = bx at *
  have hbx : (w.alloc ob).heap.size = bx + 1 := by simp [hsz]
  replace hko0 := hid hko0
  generalize hxk : a0.nd.k = xk at *
  generalize hxn : a0.nd.n = xn at *
  generalize hxv : a0.nd.v = xv at *
  generalize hxo : a0.nd.o = xo at *
  have hnx : kNum 8 a0 = xn := hxn
  rw [hnx] at hl3 h03 hnum ⊢
  clear hnx
  replace hxk := hid hxk
  replace hxn := hid hxn
  replace hxv := hid hxv
  replace hxo := hid hxo
  subst hob
  unfold exC at *
  go_enter Try.func50, Try.ntmps50
  go_upto_region 1 with fail
  try rw [hsz]
  generalize hV : w.alloc (.cells #[.int .u8 2, .int .i64 v, .int .i64 f, .int .i64 tg, .slice (some ⟨g, off, none⟩) m cap, .slice sb nb cb, .slice sc nc cc] 94) = V at *
  go_cut [4, 5] from 6 to 13 (fun p r wc => ∃ g4 g5, p = .pointer (some ⟨g4, 0, none⟩) ∧ r = .pointer (some ⟨g5, 0, none⟩) ∧ Arr wc g4 92 #[.int .u8 xk, .int .u64 xn, .int .i64 xv, .int .u8 xo, .slice e1 e2 e3] ∧ Arr wc g5 92 #[.int .u8 k1, .int .u64 n1, .int .i64 v1, .int .u8 o1', .slice sl1 m1 c1] ∧ Below V.heap.size V wc ∧ V.heap.size ≤ g4 ∧ V.heap.size ≤ g5 ∧ g4 < wc.heap.size ∧ g5 < wc.heap.size)
  · skip
    have hSx : ∀ u : World, Below V.heap.size V u → u.cell? ⟨bx, 4, none⟩ = some (.slice (some ⟨g, off, none⟩) m cap) ∧ u.cell? ⟨g, off, none⟩ = some (.int .u8 xk) ∧ u.cell? ⟨g, off + 1, none⟩ = some (.int .u64 xn) ∧ u.cell? ⟨g, off + 2, none⟩ = some (.int .i64 xv) ∧ u.cell? ⟨g, off + 3, none⟩ = some (.int .u8 xo) ∧ u.cell? ⟨g, off + 4, none⟩ = some (.slice e1 e2 e3) ∧ u.cell? ⟨g, off + 5, none⟩ = some (.int .u8 k1) ∧ u.cell? ⟨g, off + 6, none⟩ = some (.int .u64 n1) ∧ u.cell? ⟨g, off + 7, none⟩ = some (.int .i64 v1) ∧ u.cell? ⟨g, off + 8, none⟩ = some (.int .u8 o1') ∧ u.cell? ⟨g, off + 9, none⟩ = some (.slice sl1 m1 c1) := fun u hu => by
      have hu1 : ∀ (b o : Nat) (y : Value), b < V.heap.size → V.cell? ⟨b, o, none⟩ = some y → u.cell? ⟨b, o, none⟩ = some y := fun b o y h1 h2 => (hu.cell (p := ⟨b, o, none⟩) h1).trans h2
      have hgV : g < V.heap.size := by omega
      have hbV : bx < V.heap.size := by omega
      exact ⟨hu1 _ _ _ hbV x4, hu1 _ _ _ hgV y0_0, hu1 _ _ _ hgV y0_1, hu1 _ _ _ hgV y0_2, hu1 _ _ _ hgV y0_3, hu1 _ _ _ hgV y0_4, hu1 _ _ _ hgV y1_0, hu1 _ _ _ hgV y1_1, hu1 _ _ _ hgV y1_2, hu1 _ _ _ hgV y1_3, hu1 _ _ _ hgV y1_4⟩
    refine rgn (fun u => u.cell? ⟨bx, 4, none⟩ = some (.slice (some ⟨g, off, none⟩) m cap) ∧ u.cell? ⟨g, off, none⟩ = some (.int .u8 xk) ∧ u.cell? ⟨g, off + 1, none⟩ = some (.int .u64 xn) ∧ u.cell? ⟨g, off + 2, none⟩ = some (.int .i64 xv) ∧ u.cell? ⟨g, off + 3, none⟩ = some (.int .u8 xo) ∧ u.cell? ⟨g, off + 4, none⟩ = some (.slice e1 e2 e3) ∧ u.cell? ⟨g, off + 5, none⟩ = some (.int .u8 k1) ∧ u.cell? ⟨g, off + 6, none⟩ = some (.int .u64 n1) ∧ u.cell? ⟨g, off + 7, none⟩ = some (.int .i64 v1) ∧ u.cell? ⟨g, off + 8, none⟩ = some (.int .u8 o1') ∧ u.cell? ⟨g, off + 9, none⟩ = some (.slice sl1 m1 c1)) (hSx _ (Below.refl _ V).drew) (fun _ => ?_)
    refine tk 0 rfl ?_ (hy := by (intro u hSw; obtain ⟨s0, s1, s2, s3, s4, s5, s6, s7, s8, s9, s10⟩ := hSw; go_simp; try (with_reducible rfl)))
    refine tk 1 rfl ?_ (hy := by (intro u hSw; obtain ⟨s0, s1, s2, s3, s4, s5, s6, s7, s8, s9, s10⟩ := hSw; go_simp; try (with_reducible rfl)))
    refine tk 2 rfl ?_ (hy := by (intro u hSw; obtain ⟨s0, s1, s2, s3, s4, s5, s6, s7, s8, s9, s10⟩ := hSw; go_simp; try (with_reducible rfl)))
    refine tk 3 rfl ?_ (hy := by (intro u hSw; obtain ⟨s0, s1, s2, s3, s4, s5, s6, s7, s8, s9, s10⟩ := hSw; go_simp; try (with_reducible rfl)))
    refine tk 4 rfl ?_ (hy := by (intro u hSw; obtain ⟨s0, s1, s2, s3, s4, s5, s6, s7, s8, s9, s10⟩ := hSw; go_simp; try (with_reducible rfl)))
    refine tk 5 rfl ?_ (hy := by (intro u hSw; obtain ⟨s0, s1, s2, s3, s4, s5, s6, s7, s8, s9, s10⟩ := hSw; go_simp; try (with_reducible rfl)))
    refine tk 6 rfl ?_ (hy := by (intro u hSw; obtain ⟨s0, s1, s2, s3, s4, s5, s6, s7, s8, s9, s10⟩ := hSw; go_simp; try (with_reducible rfl)))
    refine tk 7 rfl ?_ (hy := by (intro u hSw; obtain ⟨s0, s1, s2, s3, s4, s5, s6, s7, s8, s9, s10⟩ := hSw; go_simp; try (with_reducible rfl)))
    refine rd2 8 9 rfl rfl (fun K hK' => ?_) (fun K hK' => ?_)
    · go_simp
      have b1 : Below V.heap.size V ((V.alloc (.cells zEx 92)).drew) := ((Below.refl _ V).alloc (Nat.le_refl _) _).drew
      have b2 : Below V.heap.size V (((V.alloc (.cells zEx 92)).alloc (.cells zEx 92)).drew) := (((Below.refl _ V).alloc (Nat.le_refl _) _).alloc (by simp) _).drew
      have Z1 : Arr (((V.alloc (.cells zEx 92)).alloc (.cells zEx 92)).drew) V.heap.size 92 zEx := ((Arr.new V 92 zEx).alloc _).drew
      have Z2 : Arr (((V.alloc (.cells zEx 92)).alloc (.cells zEx 92)).drew) (V.heap.size + 1) 92 zEx := by have h := (Arr.new (V.alloc (.cells zEx 92)) 92 zEx).drew; simp only [World.size_alloc] at h; exact h
      unfold zEx at b1 b2 Z1 Z2
      rw [hbx] at Z1 Z2
      refine ko hK' (hSx _ b1) (fun _ => ?_)
      clear hK'
      refine rd 9 rfl (fun K hK' => ?_)
      go_simp
      refine ko hK' (hSx _ b2) (fun _ => ?_)
      clear hK'
      generalize hU2 : (((V.alloc (.cells #[.int .u8 0, .int .u64 0, .int .i64 0, .int .u8 0, .slice none 0 0] 92)).alloc (.cells #[.int .u8 0, .int .u64 0, .int .i64 0, .int .u8 0, .slice none 0 0] 92)).drew) = U2 at *
      refine rd 10 rfl (fun K hK' => ?_)
      have z0 := Z1.cell 0
      have zf0 := Z1.frozen 0
      have z1 := Z1.cell 1
      have zf1 := Z1.frozen 1
      have z2 := Z1.cell 2
      have zf2 := Z1.frozen 2
      have z3 := Z1.cell 3
      have zf3 := Z1.frozen 3
      have z4 := Z1.cell 4
      have zf4 := Z1.frozen 4
      go_simp
      have Y4 := (((((Z1.set 0 (.int .u8 xk)).set 1 (.int .u64 xn)).set 2 (.int .i64 xv)).set 3 (.int .u8 xo)).set 4 (.slice e1 e2 e3))
      have Y5 := (((((Z2.setOther (a := ⟨(bx + 1), 0, none⟩) (.int .u8 xk) (show (bx + 1 + 1) ≠ (bx + 1) by omega)).setOther (a := ⟨(bx + 1), 1, none⟩) (.int .u64 xn) (show (bx + 1 + 1) ≠ (bx + 1) by omega)).setOther (a := ⟨(bx + 1), 2, none⟩) (.int .i64 xv) (show (bx + 1 + 1) ≠ (bx + 1) by omega)).setOther (a := ⟨(bx + 1), 3, none⟩) (.int .u8 xo) (show (bx + 1 + 1) ≠ (bx + 1) by omega)).setOther (a := ⟨(bx + 1), 4, none⟩) (.slice e1 e2 e3) (show (bx + 1 + 1) ≠ (bx + 1) by omega))
      have b3 : Below V.heap.size V (((((U2.setCell ⟨(bx + 1), 0, none⟩ (.int .u8 xk)).setCell ⟨(bx + 1), 1, none⟩ (.int .u64 xn)).setCell ⟨(bx + 1), 2, none⟩ (.int .i64 xv)).setCell ⟨(bx + 1), 3, none⟩ (.int .u8 xo)).setCell ⟨(bx + 1), 4, none⟩ (.slice e1 e2 e3)) := (((((b2.setCell (by show V.heap.size ≤ (bx + 1); omega) _).setCell (by show V.heap.size ≤ (bx + 1); omega) _).setCell (by show V.heap.size ≤ (bx + 1); omega) _).setCell (by show V.heap.size ≤ (bx + 1); omega) _).setCell (by show V.heap.size ≤ (bx + 1); omega) _)
      generalize hU3 : (((((U2.setCell ⟨(bx + 1), 0, none⟩ (.int .u8 xk)).setCell ⟨(bx + 1), 1, none⟩ (.int .u64 xn)).setCell ⟨(bx + 1), 2, none⟩ (.int .i64 xv)).setCell ⟨(bx + 1), 3, none⟩ (.int .u8 xo)).setCell ⟨(bx + 1), 4, none⟩ (.slice e1 e2 e3)) = U3 at *
      refine ko hK' (hSx _ b3) (fun _ => ?_)
      clear hK'
      refine rd 11 rfl (fun K hK' => ?_)
      have w0 := Y5.cell 0
      have wf0 := Y5.frozen 0
      have w1 := Y5.cell 1
      have wf1 := Y5.frozen 1
      have w2 := Y5.cell 2
      have wf2 := Y5.frozen 2
      have w3 := Y5.cell 3
      have wf3 := Y5.frozen 3
      have w4 := Y5.cell 4
      have wf4 := Y5.frozen 4
      go_simp
      have W5 := (((((Y5.set 0 (.int .u8 k1)).set 1 (.int .u64 n1)).set 2 (.int .i64 v1)).set 3 (.int .u8 o1')).set 4 (.slice sl1 m1 c1))
      have W4 := (((((Y4.setOther (a := ⟨(bx + 1 + 1), 0, none⟩) (.int .u8 k1) (show (bx + 1) ≠ (bx + 1 + 1) by omega)).setOther (a := ⟨(bx + 1 + 1), 1, none⟩) (.int .u64 n1) (show (bx + 1) ≠ (bx + 1 + 1) by omega)).setOther (a := ⟨(bx + 1 + 1), 2, none⟩) (.int .i64 v1) (show (bx + 1) ≠ (bx + 1 + 1) by omega)).setOther (a := ⟨(bx + 1 + 1), 3, none⟩) (.int .u8 o1') (show (bx + 1) ≠ (bx + 1 + 1) by omega)).setOther (a := ⟨(bx + 1 + 1), 4, none⟩) (.slice sl1 m1 c1) (show (bx + 1) ≠ (bx + 1 + 1) by omega))
      have b4 : Below V.heap.size V (((((U3.setCell ⟨(bx + 1 + 1), 0, none⟩ (.int .u8 k1)).setCell ⟨(bx + 1 + 1), 1, none⟩ (.int .u64 n1)).setCell ⟨(bx + 1 + 1), 2, none⟩ (.int .i64 v1)).setCell ⟨(bx + 1 + 1), 3, none⟩ (.int .u8 o1')).setCell ⟨(bx + 1 + 1), 4, none⟩ (.slice sl1 m1 c1)) := (((((b3.setCell (by show V.heap.size ≤ (bx + 1 + 1); omega) _).setCell (by show V.heap.size ≤ (bx + 1 + 1); omega) _).setCell (by show V.heap.size ≤ (bx + 1 + 1); omega) _).setCell (by show V.heap.size ≤ (bx + 1 + 1); omega) _).setCell (by show V.heap.size ≤ (bx + 1 + 1); omega) _)
      refine ko hK' (hSx _ b4) (fun _ => ?_)
      clear hK'
      refine dn ?_
      go_wp2_with fail
      go_meet
      exact ⟨_, _, rfl, rfl, W4, W5, b4, by omega, by omega, W4.lt, W5.lt⟩
    · go_simp
      have b1 : Below V.heap.size V ((V.alloc (.cells zEx 92)).drew) := ((Below.refl _ V).alloc (Nat.le_refl _) _).drew
      have b2 : Below V.heap.size V (((V.alloc (.cells zEx 92)).alloc (.cells zEx 92)).drew) := (((Below.refl _ V).alloc (Nat.le_refl _) _).alloc (by simp) _).drew
      have Z1 : Arr (((V.alloc (.cells zEx 92)).alloc (.cells zEx 92)).drew) V.heap.size 92 zEx := ((Arr.new V 92 zEx).alloc _).drew
      have Z2 : Arr (((V.alloc (.cells zEx 92)).alloc (.cells zEx 92)).drew) (V.heap.size + 1) 92 zEx := by have h := (Arr.new (V.alloc (.cells zEx 92)) 92 zEx).drew; simp only [World.size_alloc] at h; exact h
      unfold zEx at b1 b2 Z1 Z2
      rw [hbx] at Z1 Z2
      refine ko hK' (hSx _ b1) (fun _ => ?_)
      clear hK'
      refine rd 8 rfl (fun K hK' => ?_)
      go_simp
      refine ko hK' (hSx _ b2) (fun _ => ?_)
      clear hK'
      generalize hU2 : (((V.alloc (.cells #[.int .u8 0, .int .u64 0, .int .i64 0, .int .u8 0, .slice none 0 0] 92)).alloc (.cells #[.int .u8 0, .int .u64 0, .int .i64 0, .int .u8 0, .slice none 0 0] 92)).drew) = U2 at *
      refine rd 10 rfl (fun K hK' => ?_)
      have z0 := Z2.cell 0
      have zf0 := Z2.frozen 0
      have z1 := Z2.cell 1
      have zf1 := Z2.frozen 1
      have z2 := Z2.cell 2
      have zf2 := Z2.frozen 2
      have z3 := Z2.cell 3
      have zf3 := Z2.frozen 3
      have z4 := Z2.cell 4
      have zf4 := Z2.frozen 4
      go_simp
      have Y4 := (((((Z2.set 0 (.int .u8 xk)).set 1 (.int .u64 xn)).set 2 (.int .i64 xv)).set 3 (.int .u8 xo)).set 4 (.slice e1 e2 e3))
      have Y5 := (((((Z1.setOther (a := ⟨(bx + 1 + 1), 0, none⟩) (.int .u8 xk) (show (bx + 1) ≠ (bx + 1 + 1) by omega)).setOther (a := ⟨(bx + 1 + 1), 1, none⟩) (.int .u64 xn) (show (bx + 1) ≠ (bx + 1 + 1) by omega)).setOther (a := ⟨(bx + 1 + 1), 2, none⟩) (.int .i64 xv) (show (bx + 1) ≠ (bx + 1 + 1) by omega)).setOther (a := ⟨(bx + 1 + 1), 3, none⟩) (.int .u8 xo) (show (bx + 1) ≠ (bx + 1 + 1) by omega)).setOther (a := ⟨(bx + 1 + 1), 4, none⟩) (.slice e1 e2 e3) (show (bx + 1) ≠ (bx + 1 + 1) by omega))
      have b3 : Below V.heap.size V (((((U2.setCell ⟨(bx + 1 + 1), 0, none⟩ (.int .u8 xk)).setCell ⟨(bx + 1 + 1), 1, none⟩ (.int .u64 xn)).setCell ⟨(bx + 1 + 1), 2, none⟩ (.int .i64 xv)).setCell ⟨(bx + 1 + 1), 3, none⟩ (.int .u8 xo)).setCell ⟨(bx + 1 + 1), 4, none⟩ (.slice e1 e2 e3)) := (((((b2.setCell (by show V.heap.size ≤ (bx + 1 + 1); omega) _).setCell (by show V.heap.size ≤ (bx + 1 + 1); omega) _).setCell (by show V.heap.size ≤ (bx + 1 + 1); omega) _).setCell (by show V.heap.size ≤ (bx + 1 + 1); omega) _).setCell (by show V.heap.size ≤ (bx + 1 + 1); omega) _)
      generalize hU3 : (((((U2.setCell ⟨(bx + 1 + 1), 0, none⟩ (.int .u8 xk)).setCell ⟨(bx + 1 + 1), 1, none⟩ (.int .u64 xn)).setCell ⟨(bx + 1 + 1), 2, none⟩ (.int .i64 xv)).setCell ⟨(bx + 1 + 1), 3, none⟩ (.int .u8 xo)).setCell ⟨(bx + 1 + 1), 4, none⟩ (.slice e1 e2 e3)) = U3 at *
      refine ko hK' (hSx _ b3) (fun _ => ?_)
      clear hK'
      refine rd 11 rfl (fun K hK' => ?_)
      have w0 := Y5.cell 0
      have wf0 := Y5.frozen 0
      have w1 := Y5.cell 1
      have wf1 := Y5.frozen 1
      have w2 := Y5.cell 2
      have wf2 := Y5.frozen 2
      have w3 := Y5.cell 3
      have wf3 := Y5.frozen 3
      have w4 := Y5.cell 4
      have wf4 := Y5.frozen 4
      go_simp
      have W5 := (((((Y5.set 0 (.int .u8 k1)).set 1 (.int .u64 n1)).set 2 (.int .i64 v1)).set 3 (.int .u8 o1')).set 4 (.slice sl1 m1 c1))
      have W4 := (((((Y4.setOther (a := ⟨(bx + 1), 0, none⟩) (.int .u8 k1) (show (bx + 1 + 1) ≠ (bx + 1) by omega)).setOther (a := ⟨(bx + 1), 1, none⟩) (.int .u64 n1) (show (bx + 1 + 1) ≠ (bx + 1) by omega)).setOther (a := ⟨(bx + 1), 2, none⟩) (.int .i64 v1) (show (bx + 1 + 1) ≠ (bx + 1) by omega)).setOther (a := ⟨(bx + 1), 3, none⟩) (.int .u8 o1') (show (bx + 1 + 1) ≠ (bx + 1) by omega)).setOther (a := ⟨(bx + 1), 4, none⟩) (.slice sl1 m1 c1) (show (bx + 1 + 1) ≠ (bx + 1) by omega))
      have b4 : Below V.heap.size V (((((U3.setCell ⟨(bx + 1), 0, none⟩ (.int .u8 k1)).setCell ⟨(bx + 1), 1, none⟩ (.int .u64 n1)).setCell ⟨(bx + 1), 2, none⟩ (.int .i64 v1)).setCell ⟨(bx + 1), 3, none⟩ (.int .u8 o1')).setCell ⟨(bx + 1), 4, none⟩ (.slice sl1 m1 c1)) := (((((b3.setCell (by show V.heap.size ≤ (bx + 1); omega) _).setCell (by show V.heap.size ≤ (bx + 1); omega) _).setCell (by show V.heap.size ≤ (bx + 1); omega) _).setCell (by show V.heap.size ≤ (bx + 1); omega) _).setCell (by show V.heap.size ≤ (bx + 1); omega) _)
      refine ko hK' (hSx _ b4) (fun _ => ?_)
      clear hK'
      refine dn ?_
      go_wp2_with fail
      go_meet
      exact ⟨_, _, rfl, rfl, W4, W5, b4, by omega, by omega, W4.lt, W5.lt⟩
  case rest =>
    obtain ⟨g4, g5, rfl, rfl, A40, A50, hbc, hg4, hg5, hl4, hl5⟩ := hcut
    have hK0 : KK N (fun k => (P k ∧ k ≠ bx) ∧ k ≠ g4 ∧ k ≠ g5) q s wc := hK1.ext hbc (fun k hk => ⟨fun e => e.1, fun e => ⟨e, by omega, by omega⟩⟩) (fun k hk => ⟨hK1.up9 (by have := hbc.size; omega), by omega, by omega⟩)
    have hbw0 : Below N w wc := hbwV.trans (((Ch.ob hbc : Ch (fun k => P k ∧ k ≠ bx) V wc)).bl fun i hi => ⟨by have := (hK.out.n i hi).1; omega, (hK1.n i hi).2⟩)
    have hcP : Ch P w wc := hcV.trans (Ch.ob hbc)
    generalize hPP : (fun k => (P k ∧ k ≠ bx) ∧ k ≠ g4 ∧ k ≠ g5) = P' at *
    have hp4 : ¬ P' g4 := by rw [← hPP]; exact fun e => e.2.1 rfl
    have hp5 : ¬ P' g5 := by rw [← hPP]; exact fun e => e.2.2 rfl
    have hpt : ∀ k, P' k → P k := by rw [← hPP]; exact fun k e => e.1.1
    have hcA0 := Ch.refl P' wc
    clear hPP hbc hcV hV hsz A0 hK1 hbwV x4 y0_0 y0_1 y0_2 y0_3 y0_4 y1_0 y1_1 y1_2 y1_3 y1_4
    clear hbx hg4 hg5 hl4 hl5
    have A4x0_0 := A40.cell 0
    have A4x0_1 := A40.cell 1
    have A4x0_2 := A40.cell 2
    have A4x0_3 := A40.cell 3
    have A4x0_4 := A40.cell 4
    have A5x0_0 := A50.cell 0
    have A5x0_1 := A50.cell 1
    have A5x0_2 := A50.cell 2
    have A5x0_3 := A50.cell 3
    have A5x0_4 := A50.cell 4
    obtain ⟨cv0, gv0, hB0⟩ := hK0.b
    have p0_2 := hB0.c2
    unfold pF at p0_2
    clear hB0
    have ct0 := (hin.out _ _ hK0)
    replace ct0 := hid ct0
    go_upto_region 3 with (go_at_call 82; have ctx := ct0; clear ct0; go_must (refine ctx.out.mono ?_; rintro e w1 ⟨rfl, hK1, hc1⟩; have A41 := hc1.arr A40 hp4; have A51 := hc1.arr A50 hp5; have hbw1 := hbw0.trans (hK0.bel hc1); have hcA1 := hcA0.trans hc1))
    clear A4x0_0 A4x0_1 A4x0_2 A4x0_3 A4x0_4 A5x0_0 A5x0_1 A5x0_2 A5x0_3 A5x0_4 p0_2
    have A4x1_0 := A41.cell 0
    have A4x1_1 := A41.cell 1
    have A4x1_2 := A41.cell 2
    have A4x1_3 := A41.cell 3
    have A4x1_4 := A41.cell 4
    have A5x1_0 := A51.cell 0
    have A5x1_1 := A51.cell 1
    have A5x1_2 := A51.cell 2
    have A5x1_3 := A51.cell 3
    have A5x1_4 := A51.cell 4
    obtain ⟨cv1, gv1, hB1⟩ := hK1.b
    have p1_2 := hB1.c2
    unfold pF at p1_2
    clear hB1
    have ct1 := (value_any 8 _ q _ w1 _ a1 vs 1 hK1 hG.out (ExM.below hbw1 _ _ _ hM1.out) ok1.out hvs.out (by omega) (by omega) hl2.out.1)
    replace ct1 := hid ct1
    go_upto_region 4 with (go_at_call 80; have ctx := ct1; clear ct1; go_must (refine ctx.out.mono ?_; rintro e w2 ⟨rfl, hK2, hc2⟩; have A42 := hc2.arr A41 hp4; have A52 := hc2.arr A51 hp5; have hbw2 := hbw1.trans (hK1.bel hc2); have hcA2 := hcA1.trans hc2))
    clear A4x1_0 A4x1_1 A4x1_2 A4x1_3 A4x1_4 A5x1_0 A5x1_1 A5x1_2 A5x1_3 A5x1_4 p1_2
    have A4x2_0 := A42.cell 0
    have A4x2_1 := A42.cell 1
    have A4x2_2 := A42.cell 2
    have A4x2_3 := A42.cell 3
    have A4x2_4 := A42.cell 4
    have A5x2_0 := A52.cell 0
    have A5x2_1 := A52.cell 1
    have A5x2_2 := A52.cell 2
    have A5x2_3 := A52.cell 3
    have A5x2_4 := A52.cell 4
    obtain ⟨cv2, gv2, hB2⟩ := hK2.b
    have p2_2 := hB2.c2
    unfold pF at p2_2
    clear hB2
    have ct2 := (data_any (o := 18) (r := 1) (a := 0) (m := xn) w2 hK2 (by have h := hl3.out.1; simp [kVar, kSlot, kData, kProbe, kRaise, KS.to, KS.put, KS.here, KS.fresh] at h ⊢; omega) hnum.out)
    replace ct2 := hid ct2
    go_wp2_with (go_at_call 83; have ctx := ct2; clear ct2; go_must (refine ctx.out.mono ?_; rintro e w3 ⟨rfl, hK3, hc3⟩; have A43 := hc3.arr A42 hp4; have A53 := hc3.arr A52 hp5; have hbw3 := hbw2.trans (hK2.bel hc3); have hcA3 := hcA2.trans hc3))
    go_end0
    exact ⟨rfl, hK.out.next (hK3.b.choose_spec.choose_spec.wk hpt) (hcP.trans (hcA3.mono fun k _ => hpt k)), hcP.trans (hcA3.mono fun k _ => hpt k)⟩
set_option maxHeartbeats 4000000 in
theorem store_out {v f tg vs : Int} {g off m cap : Nat} {sb sc : Option Addr} {nb cb nc cc : Nat} {ca0 ca1 : List Value} {a0 a1 : ExT 8} (w : World) (hK : KK N P q s w) (hG : KG q) (hg : g < N) (hm : 2 ≤ m) (ra0 : w.rangeAt g off ca0) (hM0 : ExM N w 8 ca0 a0) (ok0 : okX vs 8 a0) (ra1 : w.rangeAt g (off + 5) ca1) (hM1 : ExM N w 8 ca1 a1) (ok1 : okX vs 8 a1) (hvs : vs ≤ 64) (hI : kIn q.E 8 a0 = false) (h0 : 0 ≤ s.nx) (hb : (kData 18 2 1 0 (kProbe 1 (kX q.E q.f 8 a1 2 (kX q.E q.f 8 a0 1 s)))).code.length ≤ 1000000) (hn : (kData 18 2 1 0 (kProbe 1 (kX q.E q.f 8 a1 2 (kX q.E q.f 8 a0 1 s)))).nx ≤ 1000000) :
    Calls Try.prog 50 #[.pointer (some ⟨q.g, 0, none⟩), .agg #[.int .u8 2, .int .i64 v, .int .i64 f, .int .i64 tg, .slice (some ⟨g, off, none⟩) m cap, .slice sb nb cb, .slice sc nc cc]] w (KZ N P q (kData 18 2 1 0 (kProbe 1 (kX q.E q.f 8 a1 2 (kX q.E q.f 8 a0 1 s)))) w) := by
  have hl5 : (kData 18 2 1 0 (kProbe 1 (kX q.E q.f 8 a1 2 (kX q.E q.f 8 a0 1 s)))).code.length ≤ 1000000 ∧ (kData 18 2 1 0 (kProbe 1 (kX q.E q.f 8 a1 2 (kX q.E q.f 8 a0 1 s)))).nx ≤ 1000000 := ⟨hb, hn⟩
  have hle4 : KLe (kProbe 1 (kX q.E q.f 8 a1 2 (kX q.E q.f 8 a0 1 s))) (kData 18 2 1 0 (kProbe 1 (kX q.E q.f 8 a1 2 (kX q.E q.f 8 a0 1 s)))) := kto_le _ _ _
  have hl4 : (kProbe 1 (kX q.E q.f 8 a1 2 (kX q.E q.f 8 a0 1 s))).code.length ≤ 1000000 ∧ (kProbe 1 (kX q.E q.f 8 a1 2 (kX q.E q.f 8 a0 1 s))).nx ≤ 1000000 := ⟨Nat.le_trans hle4.1 hl5.1, Int.le_trans hle4.2 hl5.2⟩
  have hle3 : KLe (kX q.E q.f 8 a1 2 (kX q.E q.f 8 a0 1 s)) (kProbe 1 (kX q.E q.f 8 a1 2 (kX q.E q.f 8 a0 1 s))) := kput_le _ _
  have hl3 : (kX q.E q.f 8 a1 2 (kX q.E q.f 8 a0 1 s)).code.length ≤ 1000000 ∧ (kX q.E q.f 8 a1 2 (kX q.E q.f 8 a0 1 s)).nx ≤ 1000000 := ⟨Nat.le_trans hle3.1 hl4.1, Int.le_trans hle3.2 hl4.2⟩
  have hle2 : KLe (kX q.E q.f 8 a0 1 s) (kX q.E q.f 8 a1 2 (kX q.E q.f 8 a0 1 s)) := (kX_le q.E q.f 8 a1 2 _).1
  have hl2 : (kX q.E q.f 8 a0 1 s).code.length ≤ 1000000 ∧ (kX q.E q.f 8 a0 1 s).nx ≤ 1000000 := ⟨Nat.le_trans hle2.1 hl3.1, Int.le_trans hle2.2 hl3.2⟩
  have hle1 : KLe s (kX q.E q.f 8 a0 1 s) := (kX_le q.E q.f 8 a0 1 _).1
  have hl1 : s.code.length ≤ 1000000 ∧ s.nx ≤ 1000000 := ⟨Nat.le_trans hle1.1 hl2.1, Int.le_trans hle1.2 hl2.2⟩
  have hle0 : KLe s s := KLe.refl _
  have hl0 : s.code.length ≤ 1000000 ∧ s.nx ≤ 1000000 := ⟨Nat.le_trans hle0.1 hl1.1, Int.le_trans hle0.2 hl1.2⟩
  have h00 : 0 ≤ s.nx := h0
  have h01 : 0 ≤ s.nx := Int.le_trans h00 hle0.2
  have h02 : 0 ≤ (kX q.E q.f 8 a0 1 s).nx := Int.le_trans h01 hle1.2
  have h03 : 0 ≤ (kX q.E q.f 8 a1 2 (kX q.E q.f 8 a0 1 s)).nx := Int.le_trans h02 hle2.2
  have h04 : 0 ≤ (kProbe 1 (kX q.E q.f 8 a1 2 (kX q.E q.f 8 a0 1 s))).nx := Int.le_trans h03 hle3.2
  have h05 : 0 ≤ (kData 18 2 1 0 (kProbe 1 (kX q.E q.f 8 a1 2 (kX q.E q.f 8 a0 1 s)))).nx := Int.le_trans h04 hle4.2
  clear h0 hb hn
  replace hl0 := hid hl0
  replace h00 := hid h00
  replace hl1 := hid hl1
  replace h01 := hid h01
  replace hl2 := hid hl2
  replace h02 := hid h02
  replace hl3 := hid hl3
  replace h03 := hid h03
  replace hl4 := hid hl4
  replace h04 := hid h04
  replace hl5 := hid hl5
  replace h05 := hid h05
  clear hle0
  clear hle1
  clear hle2
  clear hle3
  clear hle4
  obtain ⟨e1, e2, e3, hca0, hko0, -⟩ := id hM0
  subst hca0
  obtain ⟨k1, n1, v1, o1', sl1, m1, c1, hca1⟩ := hM1.cs
  subst hca1
  have hin : Hid (∀ (P' : Nat → Prop) (u : World), KK N P' q s u → Calls Try.prog 82 #[.pointer (some ⟨q.g, 0, none⟩), .agg #[.int .u8 a0.nd.k, .int .u64 a0.nd.n, .int .i64 a0.nd.v, .int .u8 a0.nd.o, .slice e1 e2 e3]] u fun e w' => e = .returned (.bool false) ∧ KK N P' q s w' ∧ Ch P' u w') := hid fun P' u hu => by
    have h := inData_any (k := a0.nd.k) (n := a0.nd.n) (v := a0.nd.v) (o := a0.nd.o) (sp := e1) (m := e2) (c := e3) u hu hG
    rw [kIn_is, hI] at h
    exact h
  obtain ⟨ob, hob⟩ : ∃ o1, o1 = Obj.cells #[.int .u8 2, .int .i64 v, .int .i64 f, .int .i64 tg, .slice (some ⟨g, off, none⟩) m cap, .slice sb nb cb, .slice sc nc cc] 94 := ⟨_, rfl⟩
  have hK1 := hK.al ob
  have A0 : Arr (w.alloc ob) w.heap.size 94 #[.int .u8 2, .int .i64 v, .int .i64 f, .int .i64 tg, .slice (some ⟨g, off, none⟩) m cap, .slice sb nb cb, .slice sc nc cc] := by rw [hob]; exact Arr.new w 94 _
  have hbwV : Below N w (w.alloc ob) := ((Ch.refl P w).al ob).bl hK.n
  have hcV : Ch P w (w.alloc ob) := (Ch.refl P w).al ob
  have hrr0 := rgk ra0 hbwV hg
  have hrr1 := rgk ra1 hbwV hg
  have y0_0 := hrr0 0 _ rfl
  have y0_1 := hrr0 1 _ rfl
  have y0_2 := hrr0 2 _ rfl
  have y0_3 := hrr0 3 _ rfl
  have y0_4 := hrr0 4 _ rfl
  simp only [Nat.add_zero, Nat.add_assoc, Nat.reduceAdd] at y0_0 y0_1 y0_2 y0_3 y0_4
  have y1_0 := hrr1 0 _ rfl
  have y1_1 := hrr1 1 _ rfl
  have y1_2 := hrr1 2 _ rfl
  have y1_3 := hrr1 3 _ rfl
  have y1_4 := hrr1 4 _ rfl
  simp only [Nat.add_zero, Nat.add_assoc, Nat.reduceAdd] at y1_0 y1_1 y1_2 y1_3 y1_4
  clear hrr0 hrr1
  have hmn0 : 0 < m := by omega
  have hmn1 : 1 < m := by omega
  have hm_0 : (0 : Int) < m := by omega
  have hm_1 : (1 : Int) < m := by omega
  have hgs : g < w.heap.size := (hK.n g hg).1
  replace hG := hid hG
  replace hK := hid hK
  replace hvs := hid hvs
  replace ra0 := hid ra0
  replace hM0 := hid hM0
  replace ok0 := hid ok0
  replace ra1 := hid ra1
  replace hM1 := hid hM1
  replace ok1 := hid ok1
  replace hI := hid hI
  have x4 := A0.cell 4
  generalize hsz : w.heap.size = bx at *
  have hbx : (w.alloc ob).heap.size = bx + 1 := by simp [hsz]
  replace hko0 := hid hko0
  generalize hxk : a0.nd.k = xk at *
  generalize hxn : a0.nd.n = xn at *
  generalize hxv : a0.nd.v = xv at *
  generalize hxo : a0.nd.o = xo at *
  replace hxk := hid hxk
  replace hxn := hid hxn
  replace hxv := hid hxv
  replace hxo := hid hxo
  subst hob
  unfold exC at *
  go_enter Try.func50, Try.ntmps50
  go_upto_region 1 with fail
  try rw [hsz]
  generalize hV : w.alloc (.cells #[.int .u8 2, .int .i64 v, .int .i64 f, .int .i64 tg, .slice (some ⟨g, off, none⟩) m cap, .slice sb nb cb, .slice sc nc cc] 94) = V at *
  go_cut [4, 5] from 6 to 13 (fun p r wc => ∃ g4 g5, p = .pointer (some ⟨g4, 0, none⟩) ∧ r = .pointer (some ⟨g5, 0, none⟩) ∧ Arr wc g4 92 #[.int .u8 xk, .int .u64 xn, .int .i64 xv, .int .u8 xo, .slice e1 e2 e3] ∧ Arr wc g5 92 #[.int .u8 k1, .int .u64 n1, .int .i64 v1, .int .u8 o1', .slice sl1 m1 c1] ∧ Below V.heap.size V wc ∧ V.heap.size ≤ g4 ∧ V.heap.size ≤ g5 ∧ g4 < wc.heap.size ∧ g5 < wc.heap.size)
  · skip
    have hSx : ∀ u : World, Below V.heap.size V u → u.cell? ⟨bx, 4, none⟩ = some (.slice (some ⟨g, off, none⟩) m cap) ∧ u.cell? ⟨g, off, none⟩ = some (.int .u8 xk) ∧ u.cell? ⟨g, off + 1, none⟩ = some (.int .u64 xn) ∧ u.cell? ⟨g, off + 2, none⟩ = some (.int .i64 xv) ∧ u.cell? ⟨g, off + 3, none⟩ = some (.int .u8 xo) ∧ u.cell? ⟨g, off + 4, none⟩ = some (.slice e1 e2 e3) ∧ u.cell? ⟨g, off + 5, none⟩ = some (.int .u8 k1) ∧ u.cell? ⟨g, off + 6, none⟩ = some (.int .u64 n1) ∧ u.cell? ⟨g, off + 7, none⟩ = some (.int .i64 v1) ∧ u.cell? ⟨g, off + 8, none⟩ = some (.int .u8 o1') ∧ u.cell? ⟨g, off + 9, none⟩ = some (.slice sl1 m1 c1) := fun u hu => by
      have hu1 : ∀ (b o : Nat) (y : Value), b < V.heap.size → V.cell? ⟨b, o, none⟩ = some y → u.cell? ⟨b, o, none⟩ = some y := fun b o y h1 h2 => (hu.cell (p := ⟨b, o, none⟩) h1).trans h2
      have hgV : g < V.heap.size := by omega
      have hbV : bx < V.heap.size := by omega
      exact ⟨hu1 _ _ _ hbV x4, hu1 _ _ _ hgV y0_0, hu1 _ _ _ hgV y0_1, hu1 _ _ _ hgV y0_2, hu1 _ _ _ hgV y0_3, hu1 _ _ _ hgV y0_4, hu1 _ _ _ hgV y1_0, hu1 _ _ _ hgV y1_1, hu1 _ _ _ hgV y1_2, hu1 _ _ _ hgV y1_3, hu1 _ _ _ hgV y1_4⟩
    refine rgn (fun u => u.cell? ⟨bx, 4, none⟩ = some (.slice (some ⟨g, off, none⟩) m cap) ∧ u.cell? ⟨g, off, none⟩ = some (.int .u8 xk) ∧ u.cell? ⟨g, off + 1, none⟩ = some (.int .u64 xn) ∧ u.cell? ⟨g, off + 2, none⟩ = some (.int .i64 xv) ∧ u.cell? ⟨g, off + 3, none⟩ = some (.int .u8 xo) ∧ u.cell? ⟨g, off + 4, none⟩ = some (.slice e1 e2 e3) ∧ u.cell? ⟨g, off + 5, none⟩ = some (.int .u8 k1) ∧ u.cell? ⟨g, off + 6, none⟩ = some (.int .u64 n1) ∧ u.cell? ⟨g, off + 7, none⟩ = some (.int .i64 v1) ∧ u.cell? ⟨g, off + 8, none⟩ = some (.int .u8 o1') ∧ u.cell? ⟨g, off + 9, none⟩ = some (.slice sl1 m1 c1)) (hSx _ (Below.refl _ V).drew) (fun _ => ?_)
    refine tk 0 rfl ?_ (hy := by (intro u hSw; obtain ⟨s0, s1, s2, s3, s4, s5, s6, s7, s8, s9, s10⟩ := hSw; go_simp; try (with_reducible rfl)))
    refine tk 1 rfl ?_ (hy := by (intro u hSw; obtain ⟨s0, s1, s2, s3, s4, s5, s6, s7, s8, s9, s10⟩ := hSw; go_simp; try (with_reducible rfl)))
    refine tk 2 rfl ?_ (hy := by (intro u hSw; obtain ⟨s0, s1, s2, s3, s4, s5, s6, s7, s8, s9, s10⟩ := hSw; go_simp; try (with_reducible rfl)))
    refine tk 3 rfl ?_ (hy := by (intro u hSw; obtain ⟨s0, s1, s2, s3, s4, s5, s6, s7, s8, s9, s10⟩ := hSw; go_simp; try (with_reducible rfl)))
    refine tk 4 rfl ?_ (hy := by (intro u hSw; obtain ⟨s0, s1, s2, s3, s4, s5, s6, s7, s8, s9, s10⟩ := hSw; go_simp; try (with_reducible rfl)))
    refine tk 5 rfl ?_ (hy := by (intro u hSw; obtain ⟨s0, s1, s2, s3, s4, s5, s6, s7, s8, s9, s10⟩ := hSw; go_simp; try (with_reducible rfl)))
    refine tk 6 rfl ?_ (hy := by (intro u hSw; obtain ⟨s0, s1, s2, s3, s4, s5, s6, s7, s8, s9, s10⟩ := hSw; go_simp; try (with_reducible rfl)))
    refine tk 7 rfl ?_ (hy := by (intro u hSw; obtain ⟨s0, s1, s2, s3, s4, s5, s6, s7, s8, s9, s10⟩ := hSw; go_simp; try (with_reducible rfl)))
    refine rd2 8 9 rfl rfl (fun K hK' => ?_) (fun K hK' => ?_)
    · go_simp
      have b1 : Below V.heap.size V ((V.alloc (.cells zEx 92)).drew) := ((Below.refl _ V).alloc (Nat.le_refl _) _).drew
      have b2 : Below V.heap.size V (((V.alloc (.cells zEx 92)).alloc (.cells zEx 92)).drew) := (((Below.refl _ V).alloc (Nat.le_refl _) _).alloc (by simp) _).drew
      have Z1 : Arr (((V.alloc (.cells zEx 92)).alloc (.cells zEx 92)).drew) V.heap.size 92 zEx := ((Arr.new V 92 zEx).alloc _).drew
      have Z2 : Arr (((V.alloc (.cells zEx 92)).alloc (.cells zEx 92)).drew) (V.heap.size + 1) 92 zEx := by have h := (Arr.new (V.alloc (.cells zEx 92)) 92 zEx).drew; simp only [World.size_alloc] at h; exact h
      unfold zEx at b1 b2 Z1 Z2
      rw [hbx] at Z1 Z2
      refine ko hK' (hSx _ b1) (fun _ => ?_)
      clear hK'
      refine rd 9 rfl (fun K hK' => ?_)
      go_simp
      refine ko hK' (hSx _ b2) (fun _ => ?_)
      clear hK'
      generalize hU2 : (((V.alloc (.cells #[.int .u8 0, .int .u64 0, .int .i64 0, .int .u8 0, .slice none 0 0] 92)).alloc (.cells #[.int .u8 0, .int .u64 0, .int .i64 0, .int .u8 0, .slice none 0 0] 92)).drew) = U2 at *
      refine rd 10 rfl (fun K hK' => ?_)
      have z0 := Z1.cell 0
      have zf0 := Z1.frozen 0
      have z1 := Z1.cell 1
      have zf1 := Z1.frozen 1
      have z2 := Z1.cell 2
      have zf2 := Z1.frozen 2
      have z3 := Z1.cell 3
      have zf3 := Z1.frozen 3
      have z4 := Z1.cell 4
      have zf4 := Z1.frozen 4
      go_simp
      have Y4 := (((((Z1.set 0 (.int .u8 xk)).set 1 (.int .u64 xn)).set 2 (.int .i64 xv)).set 3 (.int .u8 xo)).set 4 (.slice e1 e2 e3))
      have Y5 := (((((Z2.setOther (a := ⟨(bx + 1), 0, none⟩) (.int .u8 xk) (show (bx + 1 + 1) ≠ (bx + 1) by omega)).setOther (a := ⟨(bx + 1), 1, none⟩) (.int .u64 xn) (show (bx + 1 + 1) ≠ (bx + 1) by omega)).setOther (a := ⟨(bx + 1), 2, none⟩) (.int .i64 xv) (show (bx + 1 + 1) ≠ (bx + 1) by omega)).setOther (a := ⟨(bx + 1), 3, none⟩) (.int .u8 xo) (show (bx + 1 + 1) ≠ (bx + 1) by omega)).setOther (a := ⟨(bx + 1), 4, none⟩) (.slice e1 e2 e3) (show (bx + 1 + 1) ≠ (bx + 1) by omega))
      have b3 : Below V.heap.size V (((((U2.setCell ⟨(bx + 1), 0, none⟩ (.int .u8 xk)).setCell ⟨(bx + 1), 1, none⟩ (.int .u64 xn)).setCell ⟨(bx + 1), 2, none⟩ (.int .i64 xv)).setCell ⟨(bx + 1), 3, none⟩ (.int .u8 xo)).setCell ⟨(bx + 1), 4, none⟩ (.slice e1 e2 e3)) := (((((b2.setCell (by show V.heap.size ≤ (bx + 1); omega) _).setCell (by show V.heap.size ≤ (bx + 1); omega) _).setCell (by show V.heap.size ≤ (bx + 1); omega) _).setCell (by show V.heap.size ≤ (bx + 1); omega) _).setCell (by show V.heap.size ≤ (bx + 1); omega) _)
      generalize hU3 : (((((U2.setCell ⟨(bx + 1), 0, none⟩ (.int .u8 xk)).setCell ⟨(bx + 1), 1, none⟩ (.int .u64 xn)).setCell ⟨(bx + 1), 2, none⟩ (.int .i64 xv)).setCell ⟨(bx + 1), 3, none⟩ (.int .u8 xo)).setCell ⟨(bx + 1), 4, none⟩ (.slice e1 e2 e3)) = U3 at *
      refine ko hK' (hSx _ b3) (fun _ => ?_)
      clear hK'
      refine rd 11 rfl (fun K hK' => ?_)
      have w0 := Y5.cell 0
      have wf0 := Y5.frozen 0
      have w1 := Y5.cell 1
      have wf1 := Y5.frozen 1
      have w2 := Y5.cell 2
      have wf2 := Y5.frozen 2
      have w3 := Y5.cell 3
      have wf3 := Y5.frozen 3
      have w4 := Y5.cell 4
      have wf4 := Y5.frozen 4
      go_simp
      have W5 := (((((Y5.set 0 (.int .u8 k1)).set 1 (.int .u64 n1)).set 2 (.int .i64 v1)).set 3 (.int .u8 o1')).set 4 (.slice sl1 m1 c1))
      have W4 := (((((Y4.setOther (a := ⟨(bx + 1 + 1), 0, none⟩) (.int .u8 k1) (show (bx + 1) ≠ (bx + 1 + 1) by omega)).setOther (a := ⟨(bx + 1 + 1), 1, none⟩) (.int .u64 n1) (show (bx + 1) ≠ (bx + 1 + 1) by omega)).setOther (a := ⟨(bx + 1 + 1), 2, none⟩) (.int .i64 v1) (show (bx + 1) ≠ (bx + 1 + 1) by omega)).setOther (a := ⟨(bx + 1 + 1), 3, none⟩) (.int .u8 o1') (show (bx + 1) ≠ (bx + 1 + 1) by omega)).setOther (a := ⟨(bx + 1 + 1), 4, none⟩) (.slice sl1 m1 c1) (show (bx + 1) ≠ (bx + 1 + 1) by omega))
      have b4 : Below V.heap.size V (((((U3.setCell ⟨(bx + 1 + 1), 0, none⟩ (.int .u8 k1)).setCell ⟨(bx + 1 + 1), 1, none⟩ (.int .u64 n1)).setCell ⟨(bx + 1 + 1), 2, none⟩ (.int .i64 v1)).setCell ⟨(bx + 1 + 1), 3, none⟩ (.int .u8 o1')).setCell ⟨(bx + 1 + 1), 4, none⟩ (.slice sl1 m1 c1)) := (((((b3.setCell (by show V.heap.size ≤ (bx + 1 + 1); omega) _).setCell (by show V.heap.size ≤ (bx + 1 + 1); omega) _).setCell (by show V.heap.size ≤ (bx + 1 + 1); omega) _).setCell (by show V.heap.size ≤ (bx + 1 + 1); omega) _).setCell (by show V.heap.size ≤ (bx + 1 + 1); omega) _)
      refine ko hK' (hSx _ b4) (fun _ => ?_)
      clear hK'
      refine dn ?_
      go_wp2_with fail
      go_meet
      exact ⟨_, _, rfl, rfl, W4, W5, b4, by omega, by omega, W4.lt, W5.lt⟩
    · go_simp
      have b1 : Below V.heap.size V ((V.alloc (.cells zEx 92)).drew) := ((Below.refl _ V).alloc (Nat.le_refl _) _).drew
      have b2 : Below V.heap.size V (((V.alloc (.cells zEx 92)).alloc (.cells zEx 92)).drew) := (((Below.refl _ V).alloc (Nat.le_refl _) _).alloc (by simp) _).drew
      have Z1 : Arr (((V.alloc (.cells zEx 92)).alloc (.cells zEx 92)).drew) V.heap.size 92 zEx := ((Arr.new V 92 zEx).alloc _).drew
      have Z2 : Arr (((V.alloc (.cells zEx 92)).alloc (.cells zEx 92)).drew) (V.heap.size + 1) 92 zEx := by have h := (Arr.new (V.alloc (.cells zEx 92)) 92 zEx).drew; simp only [World.size_alloc] at h; exact h
      unfold zEx at b1 b2 Z1 Z2
      rw [hbx] at Z1 Z2
      refine ko hK' (hSx _ b1) (fun _ => ?_)
      clear hK'
      refine rd 8 rfl (fun K hK' => ?_)
      go_simp
      refine ko hK' (hSx _ b2) (fun _ => ?_)
      clear hK'
      generalize hU2 : (((V.alloc (.cells #[.int .u8 0, .int .u64 0, .int .i64 0, .int .u8 0, .slice none 0 0] 92)).alloc (.cells #[.int .u8 0, .int .u64 0, .int .i64 0, .int .u8 0, .slice none 0 0] 92)).drew) = U2 at *
      refine rd 10 rfl (fun K hK' => ?_)
      have z0 := Z2.cell 0
      have zf0 := Z2.frozen 0
      have z1 := Z2.cell 1
      have zf1 := Z2.frozen 1
      have z2 := Z2.cell 2
      have zf2 := Z2.frozen 2
      have z3 := Z2.cell 3
      have zf3 := Z2.frozen 3
      have z4 := Z2.cell 4
      have zf4 := Z2.frozen 4
      go_simp
      have Y4 := (((((Z2.set 0 (.int .u8 xk)).set 1 (.int .u64 xn)).set 2 (.int .i64 xv)).set 3 (.int .u8 xo)).set 4 (.slice e1 e2 e3))
      have Y5 := (((((Z1.setOther (a := ⟨(bx + 1 + 1), 0, none⟩) (.int .u8 xk) (show (bx + 1) ≠ (bx + 1 + 1) by omega)).setOther (a := ⟨(bx + 1 + 1), 1, none⟩) (.int .u64 xn) (show (bx + 1) ≠ (bx + 1 + 1) by omega)).setOther (a := ⟨(bx + 1 + 1), 2, none⟩) (.int .i64 xv) (show (bx + 1) ≠ (bx + 1 + 1) by omega)).setOther (a := ⟨(bx + 1 + 1), 3, none⟩) (.int .u8 xo) (show (bx + 1) ≠ (bx + 1 + 1) by omega)).setOther (a := ⟨(bx + 1 + 1), 4, none⟩) (.slice e1 e2 e3) (show (bx + 1) ≠ (bx + 1 + 1) by omega))
      have b3 : Below V.heap.size V (((((U2.setCell ⟨(bx + 1 + 1), 0, none⟩ (.int .u8 xk)).setCell ⟨(bx + 1 + 1), 1, none⟩ (.int .u64 xn)).setCell ⟨(bx + 1 + 1), 2, none⟩ (.int .i64 xv)).setCell ⟨(bx + 1 + 1), 3, none⟩ (.int .u8 xo)).setCell ⟨(bx + 1 + 1), 4, none⟩ (.slice e1 e2 e3)) := (((((b2.setCell (by show V.heap.size ≤ (bx + 1 + 1); omega) _).setCell (by show V.heap.size ≤ (bx + 1 + 1); omega) _).setCell (by show V.heap.size ≤ (bx + 1 + 1); omega) _).setCell (by show V.heap.size ≤ (bx + 1 + 1); omega) _).setCell (by show V.heap.size ≤ (bx + 1 + 1); omega) _)
      generalize hU3 : (((((U2.setCell ⟨(bx + 1 + 1), 0, none⟩ (.int .u8 xk)).setCell ⟨(bx + 1 + 1), 1, none⟩ (.int .u64 xn)).setCell ⟨(bx + 1 + 1), 2, none⟩ (.int .i64 xv)).setCell ⟨(bx + 1 + 1), 3, none⟩ (.int .u8 xo)).setCell ⟨(bx + 1 + 1), 4, none⟩ (.slice e1 e2 e3)) = U3 at *
      refine ko hK' (hSx _ b3) (fun _ => ?_)
      clear hK'
      refine rd 11 rfl (fun K hK' => ?_)
      have w0 := Y5.cell 0
      have wf0 := Y5.frozen 0
      have w1 := Y5.cell 1
      have wf1 := Y5.frozen 1
      have w2 := Y5.cell 2
      have wf2 := Y5.frozen 2
      have w3 := Y5.cell 3
      have wf3 := Y5.frozen 3
      have w4 := Y5.cell 4
      have wf4 := Y5.frozen 4
      go_simp
      have W5 := (((((Y5.set 0 (.int .u8 k1)).set 1 (.int .u64 n1)).set 2 (.int .i64 v1)).set 3 (.int .u8 o1')).set 4 (.slice sl1 m1 c1))
      have W4 := (((((Y4.setOther (a := ⟨(bx + 1), 0, none⟩) (.int .u8 k1) (show (bx + 1 + 1) ≠ (bx + 1) by omega)).setOther (a := ⟨(bx + 1), 1, none⟩) (.int .u64 n1) (show (bx + 1 + 1) ≠ (bx + 1) by omega)).setOther (a := ⟨(bx + 1), 2, none⟩) (.int .i64 v1) (show (bx + 1 + 1) ≠ (bx + 1) by omega)).setOther (a := ⟨(bx + 1), 3, none⟩) (.int .u8 o1') (show (bx + 1 + 1) ≠ (bx + 1) by omega)).setOther (a := ⟨(bx + 1), 4, none⟩) (.slice sl1 m1 c1) (show (bx + 1 + 1) ≠ (bx + 1) by omega))
      have b4 : Below V.heap.size V (((((U3.setCell ⟨(bx + 1), 0, none⟩ (.int .u8 k1)).setCell ⟨(bx + 1), 1, none⟩ (.int .u64 n1)).setCell ⟨(bx + 1), 2, none⟩ (.int .i64 v1)).setCell ⟨(bx + 1), 3, none⟩ (.int .u8 o1')).setCell ⟨(bx + 1), 4, none⟩ (.slice sl1 m1 c1)) := (((((b3.setCell (by show V.heap.size ≤ (bx + 1); omega) _).setCell (by show V.heap.size ≤ (bx + 1); omega) _).setCell (by show V.heap.size ≤ (bx + 1); omega) _).setCell (by show V.heap.size ≤ (bx + 1); omega) _).setCell (by show V.heap.size ≤ (bx + 1); omega) _)
      refine ko hK' (hSx _ b4) (fun _ => ?_)
      clear hK'
      refine dn ?_
      go_wp2_with fail
      go_meet
      exact ⟨_, _, rfl, rfl, W4, W5, b4, by omega, by omega, W4.lt, W5.lt⟩
  case rest =>
    obtain ⟨g4, g5, rfl, rfl, A40, A50, hbc, hg4, hg5, hl4, hl5⟩ := hcut
    have hK0 : KK N (fun k => (P k ∧ k ≠ bx) ∧ k ≠ g4 ∧ k ≠ g5) q s wc := hK1.ext hbc (fun k hk => ⟨fun e => e.1, fun e => ⟨e, by omega, by omega⟩⟩) (fun k hk => ⟨hK1.up9 (by have := hbc.size; omega), by omega, by omega⟩)
    have hbw0 : Below N w wc := hbwV.trans (((Ch.ob hbc : Ch (fun k => P k ∧ k ≠ bx) V wc)).bl fun i hi => ⟨by have := (hK.out.n i hi).1; omega, (hK1.n i hi).2⟩)
    have hcP : Ch P w wc := hcV.trans (Ch.ob hbc)
    generalize hPP : (fun k => (P k ∧ k ≠ bx) ∧ k ≠ g4 ∧ k ≠ g5) = P' at *
    have hp4 : ¬ P' g4 := by rw [← hPP]; exact fun e => e.2.1 rfl
    have hp5 : ¬ P' g5 := by rw [← hPP]; exact fun e => e.2.2 rfl
    have hpt : ∀ k, P' k → P k := by rw [← hPP]; exact fun k e => e.1.1
    have hcA0 := Ch.refl P' wc
    clear hPP hbc hcV hV hsz A0 hK1 hbwV x4 y0_0 y0_1 y0_2 y0_3 y0_4 y1_0 y1_1 y1_2 y1_3 y1_4
    clear hbx hg4 hg5 hl4 hl5
    have A4x0_0 := A40.cell 0
    have A4x0_1 := A40.cell 1
    have A4x0_2 := A40.cell 2
    have A4x0_3 := A40.cell 3
    have A4x0_4 := A40.cell 4
    have A5x0_0 := A50.cell 0
    have A5x0_1 := A50.cell 1
    have A5x0_2 := A50.cell 2
    have A5x0_3 := A50.cell 3
    have A5x0_4 := A50.cell 4
    obtain ⟨cv0, gv0, hB0⟩ := hK0.b
    have p0_2 := hB0.c2
    unfold pF at p0_2
    clear hB0
    have ct0 := (hin.out _ _ hK0)
    replace ct0 := hid ct0
    go_upto_region 5 with (go_at_call 82; have ctx := ct0; clear ct0; go_must (refine ctx.out.mono ?_; rintro e w1 ⟨rfl, hK1, hc1⟩; have A41 := hc1.arr A40 hp4; have A51 := hc1.arr A50 hp5; have hbw1 := hbw0.trans (hK0.bel hc1); have hcA1 := hcA0.trans hc1))
    clear A4x0_0 A4x0_1 A4x0_2 A4x0_3 A4x0_4 A5x0_0 A5x0_1 A5x0_2 A5x0_3 A5x0_4 p0_2
    have A4x1_0 := A41.cell 0
    have A4x1_1 := A41.cell 1
    have A4x1_2 := A41.cell 2
    have A4x1_3 := A41.cell 3
    have A4x1_4 := A41.cell 4
    have A5x1_0 := A51.cell 0
    have A5x1_1 := A51.cell 1
    have A5x1_2 := A51.cell 2
    have A5x1_3 := A51.cell 3
    have A5x1_4 := A51.cell 4
    obtain ⟨cv1, gv1, hB1⟩ := hK1.b
    have p1_2 := hB1.c2
    unfold pF at p1_2
    clear hB1
    have ct1 := (value_any 8 _ q _ w1 _ a0 vs 1 hK1 hG.out (ExM.below hbw1 _ _ _ hM0.out) ok0.out hvs.out (by omega) (by omega) hl2.out.1)
    replace ct1 := hid ct1
    go_upto_region 6 with (go_at_call 80; have ctx := ct1; clear ct1; go_must (refine ctx.out.mono ?_; rintro e w2 ⟨rfl, hK2, hc2⟩; have A42 := hc2.arr A41 hp4; have A52 := hc2.arr A51 hp5; have hbw2 := hbw1.trans (hK1.bel hc2); have hcA2 := hcA1.trans hc2))
    clear A4x1_0 A4x1_1 A4x1_2 A4x1_3 A4x1_4 A5x1_0 A5x1_1 A5x1_2 A5x1_3 A5x1_4 p1_2
    have A4x2_0 := A42.cell 0
    have A4x2_1 := A42.cell 1
    have A4x2_2 := A42.cell 2
    have A4x2_3 := A42.cell 3
    have A4x2_4 := A42.cell 4
    have A5x2_0 := A52.cell 0
    have A5x2_1 := A52.cell 1
    have A5x2_2 := A52.cell 2
    have A5x2_3 := A52.cell 3
    have A5x2_4 := A52.cell 4
    obtain ⟨cv2, gv2, hB2⟩ := hK2.b
    have p2_2 := hB2.c2
    unfold pF at p2_2
    clear hB2
    have ct2 := (value_any 8 _ q _ w2 _ a1 vs 2 hK2 hG.out (ExM.below hbw2 _ _ _ hM1.out) ok1.out hvs.out (by omega) (by omega) hl3.out.1)
    replace ct2 := hid ct2
    go_upto_region 7 with (go_at_call 80; have ctx := ct2; clear ct2; go_must (refine ctx.out.mono ?_; rintro e w3 ⟨rfl, hK3, hc3⟩; have A43 := hc3.arr A42 hp4; have A53 := hc3.arr A52 hp5; have hbw3 := hbw2.trans (hK2.bel hc3); have hcA3 := hcA2.trans hc3))
    clear A4x2_0 A4x2_1 A4x2_2 A4x2_3 A4x2_4 A5x2_0 A5x2_1 A5x2_2 A5x2_3 A5x2_4 p2_2
    have A4x3_0 := A43.cell 0
    have A4x3_1 := A43.cell 1
    have A4x3_2 := A43.cell 2
    have A4x3_3 := A43.cell 3
    have A4x3_4 := A43.cell 4
    have A5x3_0 := A53.cell 0
    have A5x3_1 := A53.cell 1
    have A5x3_2 := A53.cell 2
    have A5x3_3 := A53.cell 3
    have A5x3_4 := A53.cell 4
    obtain ⟨cv3, gv3, hB3⟩ := hK3.b
    have p3_2 := hB3.c2
    unfold pF at p3_2
    clear hB3
    have ct3 := (probe_any (r := 1) w3 hK3 (by have h := hl4.out.1; simp [kVar, kSlot, kData, kProbe, kRaise, KS.to, KS.put, KS.here, KS.fresh] at h ⊢; omega))
    replace ct3 := hid ct3
    go_upto_region 8 with (go_at_call 84; have ctx := ct3; clear ct3; go_must (refine ctx.out.mono ?_; rintro e w4 ⟨rfl, hK4, hc4⟩; have A44 := hc4.arr A43 hp4; have A54 := hc4.arr A53 hp5; have hbw4 := hbw3.trans (hK3.bel hc4); have hcA4 := hcA3.trans hc4))
    clear A4x3_0 A4x3_1 A4x3_2 A4x3_3 A4x3_4 A5x3_0 A5x3_1 A5x3_2 A5x3_3 A5x3_4 p3_2
    have A4x4_0 := A44.cell 0
    have A4x4_1 := A44.cell 1
    have A4x4_2 := A44.cell 2
    have A4x4_3 := A44.cell 3
    have A4x4_4 := A44.cell 4
    have A5x4_0 := A54.cell 0
    have A5x4_1 := A54.cell 1
    have A5x4_2 := A54.cell 2
    have A5x4_3 := A54.cell 3
    have A5x4_4 := A54.cell 4
    obtain ⟨cv4, gv4, hB4⟩ := hK4.b
    have p4_2 := hB4.c2
    unfold pF at p4_2
    clear hB4
    have ct4 := (data_any (o := 18) (r := 2) (a := 1) (m := 0) w4 hK4 (by have h := hl5.out.1; simp [kVar, kSlot, kData, kProbe, kRaise, KS.to, KS.put, KS.here, KS.fresh] at h ⊢; omega) (by omega))
    replace ct4 := hid ct4
    go_wp2_with (go_at_call 83; have ctx := ct4; clear ct4; go_must (refine ctx.out.mono ?_; rintro e w5 ⟨rfl, hK5, hc5⟩; have A45 := hc5.arr A44 hp4; have A55 := hc5.arr A54 hp5; have hbw5 := hbw4.trans (hK4.bel hc5); have hcA5 := hcA4.trans hc5))
    go_end0
    exact ⟨rfl, hK.out.next (hK5.b.choose_spec.choose_spec.wk hpt) (hcP.trans (hcA5.mono fun k _ => hpt k)), hcP.trans (hcA5.mono fun k _ => hpt k)⟩
end Go.Proofs.Ytimmiidkjpbffaa
