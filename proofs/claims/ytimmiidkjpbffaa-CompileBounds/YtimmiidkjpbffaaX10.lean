/- Kb, Kc. -/
import Derived.Test.YtimmiidkjpbffaaX09
import Derived.Handy
import Derived.BigQuiet
import Derived.BigRegion
import Derived.Great.BuildSlice
/- Layer compile: whatever expression. -/
namespace Go.Proofs.Ytimmiidkjpbffaa
open Go.RowKit
set_option maxRecDepth 100000
set_option linter.unusedVariables false
set_option linter.unusedSimpArgs false

variable {P : Nat → Prop} {q : KQ} {s : KS} {N : Nat}
set_option maxHeartbeats 1000000 in
theorem value_go1 {s' : KS} {n v o r : Int} {sp : Option Addr} {m c : Nat} (w : World) (hK : KK N P q s w)
    (hc : ∀ (P' : Nat → Prop) (u : World), KK N P' q s u → Below N w u → Calls Try.prog 58 #[.pointer (some ⟨q.g, 0, none⟩), .agg #[.int .u8 1, .int .u64 n, .int .i64 v, .int .u8 o, .slice sp m c], .int .u8 r] u (KZ N P' q s' u)) :
    Calls Try.prog 80 #[.pointer (some ⟨q.g, 0, none⟩), .agg #[.int .u8 1, .int .u64 n, .int .i64 v, .int .u8 o, .slice sp m c], .int .u8 r] w (KZ N P q s' w) := by
  have hK1 := hK.al (.cells #[.int .u8 1, .int .u64 n, .int .i64 v, .int .u8 o, .slice sp m c] 92)
  have A1 := (Arr.new w 92 #[.int .u8 1, .int .u64 n, .int .i64 v, .int .u8 o, .slice sp m c]).drew
  have hbw : Below N w (w.alloc (.cells #[.int .u8 1, .int .u64 n, .int .i64 v, .int .u8 o, .slice sp m c] 92)).drew := ((Ch.refl P w).al _).dw.bl hK.n
  have hc1 := hc _ _ hK1.dw hbw
  have hfin : ∀ (s' : KS) (w' : World), KK N (fun k => P k ∧ k ≠ w.heap.size) q s' w' → Ch (fun k => P k ∧ k ≠ w.heap.size) (w.alloc (.cells #[.int .u8 1, .int .u64 n, .int .i64 v, .int .u8 o, .slice sp m c] 92)) w' → KK N P q s' w' ∧ Ch P w w' := fun _ _ h1 h2 => hK.out1 h1 h2
  have hpx : ¬ (P w.heap.size ∧ w.heap.size ≠ w.heap.size) := fun e => e.2 rfl
  obtain ⟨cv, gv, hB⟩ := hK1.dw.b
  have hS0 := hB.cX (k := 1) (by omega) (by omega)
  unfold mF at hS0
  have cX2 : ∀ (s2 : KS) (u : World), KK N (fun k => P k ∧ k ≠ w.heap.size) q s2 u → u.cell? ⟨q.g, 21, none⟩ = some (.func (Fn.func 58) #[.pointer (some ⟨q.g, 0, none⟩)] #[]) := fun s2 u h => by
    obtain ⟨cv, gv, hB⟩ := h.b
    have := hB.cX (k := 1) (by omega) (by omega)
    unfold mF at this
    exact this
  clear hB hS0
  replace hK := hid hK
  replace hc := hid hc
  replace hc1 := hid hc1
  replace hfin := hid hfin
  replace cX2 := hid cX2
  have x0 := A1.cell 0
  have x1 := A1.cell 1
  have x2 := A1.cell 2
  have x3 := A1.cell 3
  have x4 := A1.cell 4
  have xx := cX2.out _ _ hK1.dw
  replace hK1 := hid hK1
  go_enter Try.func80, Try.ntmps80
  go_upto_region 1 with fail
  refine rgn (fun u => u.cell? ⟨q.g, 21, none⟩ = some (.func (Fn.func 58) #[.pointer (some ⟨q.g, 0, none⟩)] #[]) ∧ u.cell? ⟨w.heap.size, 0, none⟩ = some (.int .u8 1) ∧ u.cell? ⟨w.heap.size, 1, none⟩ = some (.int .u64 n) ∧ u.cell? ⟨w.heap.size, 2, none⟩ = some (.int .i64 v) ∧ u.cell? ⟨w.heap.size, 3, none⟩ = some (.int .u8 o) ∧ u.cell? ⟨w.heap.size, 4, none⟩ = some (.slice sp m c)) ⟨xx, x0, x1, x2, x3, x4⟩ (fun _ => ?_)
  refine tk 0 rfl ?_ (hy := by (intro u hSw; obtain ⟨s1, s2, s3, s4, s5, s6⟩ := hSw; go_simp; try (with_reducible rfl)))
  refine tk 1 rfl ?_ (hy := by (intro u hSw; obtain ⟨s1, s2, s3, s4, s5, s6⟩ := hSw; go_simp; try (with_reducible rfl)))
  refine tk 2 rfl ?_ (hy := by (intro u hSw; obtain ⟨s1, s2, s3, s4, s5, s6⟩ := hSw; go_simp; try (with_reducible rfl)))
  refine tk 3 rfl ?_ (hy := by (intro u hSw; obtain ⟨s1, s2, s3, s4, s5, s6⟩ := hSw; go_simp; try (with_reducible rfl)))
  refine tk 4 rfl ?_ (hy := by (intro u hSw; obtain ⟨s1, s2, s3, s4, s5, s6⟩ := hSw; go_simp; try (with_reducible rfl)))
  refine tk 5 rfl ?_ (hy := by (intro u hSw; obtain ⟨s1, s2, s3, s4, s5, s6⟩ := hSw; go_simp; try (with_reducible rfl)))
  refine tk 6 rfl ?_ (hy := by (intro u hSw; obtain ⟨s1, s2, s3, s4, s5, s6⟩ := hSw; go_simp; try (with_reducible rfl)))
  refine tk 7 rfl ?_ (hy := by (intro u hSw; obtain ⟨s1, s2, s3, s4, s5, s6⟩ := hSw; go_simp; try (with_reducible rfl)))
  refine tk 8 rfl ?_ (hy := by (intro u hSw; obtain ⟨s1, s2, s3, s4, s5, s6⟩ := hSw; go_simp; try (with_reducible rfl)))
  refine rd 9 rfl (fun K hK' => ?_)
  go_simp
  refine hc1.out.mono ?_
  rintro e w2 ⟨rfl, hK2, hc2⟩
  have A2 := hc2.arr A1 hpx
  refine ko hK' ⟨cX2.out _ _ hK2, A2.cell 0, A2.cell 1, A2.cell 2, A2.cell 3, A2.cell 4⟩ (fun _ => ?_)
  clear hK'
  refine dn ?_
  go_wp2_with fail
  go_end0
  exact ⟨rfl, hfin.out _ _ hK2 ((Ch.refl _ _).dw.trans hc2)⟩
set_option maxHeartbeats 1000000 in
theorem value_go2 {s' : KS} {n v o r : Int} {sp : Option Addr} {m c : Nat} (w : World) (hK : KK N P q s w)
    (hc : ∀ (P' : Nat → Prop) (u : World), KK N P' q s u → Below N w u → Calls Try.prog 59 #[.pointer (some ⟨q.g, 0, none⟩), .agg #[.int .u8 2, .int .u64 n, .int .i64 v, .int .u8 o, .slice sp m c], .int .u8 r] u (KZ N P' q s' u)) :
    Calls Try.prog 80 #[.pointer (some ⟨q.g, 0, none⟩), .agg #[.int .u8 2, .int .u64 n, .int .i64 v, .int .u8 o, .slice sp m c], .int .u8 r] w (KZ N P q s' w) := by
  have hK1 := hK.al (.cells #[.int .u8 2, .int .u64 n, .int .i64 v, .int .u8 o, .slice sp m c] 92)
  have A1 := (Arr.new w 92 #[.int .u8 2, .int .u64 n, .int .i64 v, .int .u8 o, .slice sp m c]).drew
  have hbw : Below N w (w.alloc (.cells #[.int .u8 2, .int .u64 n, .int .i64 v, .int .u8 o, .slice sp m c] 92)).drew := ((Ch.refl P w).al _).dw.bl hK.n
  have hc1 := hc _ _ hK1.dw hbw
  have hfin : ∀ (s' : KS) (w' : World), KK N (fun k => P k ∧ k ≠ w.heap.size) q s' w' → Ch (fun k => P k ∧ k ≠ w.heap.size) (w.alloc (.cells #[.int .u8 2, .int .u64 n, .int .i64 v, .int .u8 o, .slice sp m c] 92)) w' → KK N P q s' w' ∧ Ch P w w' := fun _ _ h1 h2 => hK.out1 h1 h2
  have hpx : ¬ (P w.heap.size ∧ w.heap.size ≠ w.heap.size) := fun e => e.2 rfl
  obtain ⟨cv, gv, hB⟩ := hK1.dw.b
  have hS0 := hB.cX (k := 2) (by omega) (by omega)
  unfold mF at hS0
  have cX2 : ∀ (s2 : KS) (u : World), KK N (fun k => P k ∧ k ≠ w.heap.size) q s2 u → u.cell? ⟨q.g, 22, none⟩ = some (.func (Fn.func 59) #[.pointer (some ⟨q.g, 0, none⟩)] #[]) := fun s2 u h => by
    obtain ⟨cv, gv, hB⟩ := h.b
    have := hB.cX (k := 2) (by omega) (by omega)
    unfold mF at this
    exact this
  clear hB hS0
  replace hK := hid hK
  replace hc := hid hc
  replace hc1 := hid hc1
  replace hfin := hid hfin
  replace cX2 := hid cX2
  have x0 := A1.cell 0
  have x1 := A1.cell 1
  have x2 := A1.cell 2
  have x3 := A1.cell 3
  have x4 := A1.cell 4
  have xx := cX2.out _ _ hK1.dw
  replace hK1 := hid hK1
  go_enter Try.func80, Try.ntmps80
  go_upto_region 1 with fail
  refine rgn (fun u => u.cell? ⟨q.g, 22, none⟩ = some (.func (Fn.func 59) #[.pointer (some ⟨q.g, 0, none⟩)] #[]) ∧ u.cell? ⟨w.heap.size, 0, none⟩ = some (.int .u8 2) ∧ u.cell? ⟨w.heap.size, 1, none⟩ = some (.int .u64 n) ∧ u.cell? ⟨w.heap.size, 2, none⟩ = some (.int .i64 v) ∧ u.cell? ⟨w.heap.size, 3, none⟩ = some (.int .u8 o) ∧ u.cell? ⟨w.heap.size, 4, none⟩ = some (.slice sp m c)) ⟨xx, x0, x1, x2, x3, x4⟩ (fun _ => ?_)
  refine tk 0 rfl ?_ (hy := by (intro u hSw; obtain ⟨s1, s2, s3, s4, s5, s6⟩ := hSw; go_simp; try (with_reducible rfl)))
  refine tk 1 rfl ?_ (hy := by (intro u hSw; obtain ⟨s1, s2, s3, s4, s5, s6⟩ := hSw; go_simp; try (with_reducible rfl)))
  refine tk 2 rfl ?_ (hy := by (intro u hSw; obtain ⟨s1, s2, s3, s4, s5, s6⟩ := hSw; go_simp; try (with_reducible rfl)))
  refine tk 3 rfl ?_ (hy := by (intro u hSw; obtain ⟨s1, s2, s3, s4, s5, s6⟩ := hSw; go_simp; try (with_reducible rfl)))
  refine tk 4 rfl ?_ (hy := by (intro u hSw; obtain ⟨s1, s2, s3, s4, s5, s6⟩ := hSw; go_simp; try (with_reducible rfl)))
  refine tk 5 rfl ?_ (hy := by (intro u hSw; obtain ⟨s1, s2, s3, s4, s5, s6⟩ := hSw; go_simp; try (with_reducible rfl)))
  refine tk 6 rfl ?_ (hy := by (intro u hSw; obtain ⟨s1, s2, s3, s4, s5, s6⟩ := hSw; go_simp; try (with_reducible rfl)))
  refine tk 7 rfl ?_ (hy := by (intro u hSw; obtain ⟨s1, s2, s3, s4, s5, s6⟩ := hSw; go_simp; try (with_reducible rfl)))
  refine tk 8 rfl ?_ (hy := by (intro u hSw; obtain ⟨s1, s2, s3, s4, s5, s6⟩ := hSw; go_simp; try (with_reducible rfl)))
  refine rd 9 rfl (fun K hK' => ?_)
  go_simp
  refine hc1.out.mono ?_
  rintro e w2 ⟨rfl, hK2, hc2⟩
  have A2 := hc2.arr A1 hpx
  refine ko hK' ⟨cX2.out _ _ hK2, A2.cell 0, A2.cell 1, A2.cell 2, A2.cell 3, A2.cell 4⟩ (fun _ => ?_)
  clear hK'
  refine dn ?_
  go_wp2_with fail
  go_end0
  exact ⟨rfl, hfin.out _ _ hK2 ((Ch.refl _ _).dw.trans hc2)⟩
set_option maxHeartbeats 1000000 in
theorem value_go3 {s' : KS} {n v o r : Int} {sp : Option Addr} {m c : Nat} (w : World) (hK : KK N P q s w)
    (hc : ∀ (P' : Nat → Prop) (u : World), KK N P' q s u → Below N w u → Calls Try.prog 60 #[.pointer (some ⟨q.g, 0, none⟩), .agg #[.int .u8 3, .int .u64 n, .int .i64 v, .int .u8 o, .slice sp m c], .int .u8 r] u (KZ N P' q s' u)) :
    Calls Try.prog 80 #[.pointer (some ⟨q.g, 0, none⟩), .agg #[.int .u8 3, .int .u64 n, .int .i64 v, .int .u8 o, .slice sp m c], .int .u8 r] w (KZ N P q s' w) := by
  have hK1 := hK.al (.cells #[.int .u8 3, .int .u64 n, .int .i64 v, .int .u8 o, .slice sp m c] 92)
  have A1 := (Arr.new w 92 #[.int .u8 3, .int .u64 n, .int .i64 v, .int .u8 o, .slice sp m c]).drew
  have hbw : Below N w (w.alloc (.cells #[.int .u8 3, .int .u64 n, .int .i64 v, .int .u8 o, .slice sp m c] 92)).drew := ((Ch.refl P w).al _).dw.bl hK.n
  have hc1 := hc _ _ hK1.dw hbw
  have hfin : ∀ (s' : KS) (w' : World), KK N (fun k => P k ∧ k ≠ w.heap.size) q s' w' → Ch (fun k => P k ∧ k ≠ w.heap.size) (w.alloc (.cells #[.int .u8 3, .int .u64 n, .int .i64 v, .int .u8 o, .slice sp m c] 92)) w' → KK N P q s' w' ∧ Ch P w w' := fun _ _ h1 h2 => hK.out1 h1 h2
  have hpx : ¬ (P w.heap.size ∧ w.heap.size ≠ w.heap.size) := fun e => e.2 rfl
  obtain ⟨cv, gv, hB⟩ := hK1.dw.b
  have hS0 := hB.cX (k := 3) (by omega) (by omega)
  unfold mF at hS0
  have cX2 : ∀ (s2 : KS) (u : World), KK N (fun k => P k ∧ k ≠ w.heap.size) q s2 u → u.cell? ⟨q.g, 23, none⟩ = some (.func (Fn.func 60) #[.pointer (some ⟨q.g, 0, none⟩)] #[]) := fun s2 u h => by
    obtain ⟨cv, gv, hB⟩ := h.b
    have := hB.cX (k := 3) (by omega) (by omega)
    unfold mF at this
    exact this
  clear hB hS0
  replace hK := hid hK
  replace hc := hid hc
  replace hc1 := hid hc1
  replace hfin := hid hfin
  replace cX2 := hid cX2
  have x0 := A1.cell 0
  have x1 := A1.cell 1
  have x2 := A1.cell 2
  have x3 := A1.cell 3
  have x4 := A1.cell 4
  have xx := cX2.out _ _ hK1.dw
  replace hK1 := hid hK1
  go_enter Try.func80, Try.ntmps80
  go_upto_region 1 with fail
  refine rgn (fun u => u.cell? ⟨q.g, 23, none⟩ = some (.func (Fn.func 60) #[.pointer (some ⟨q.g, 0, none⟩)] #[]) ∧ u.cell? ⟨w.heap.size, 0, none⟩ = some (.int .u8 3) ∧ u.cell? ⟨w.heap.size, 1, none⟩ = some (.int .u64 n) ∧ u.cell? ⟨w.heap.size, 2, none⟩ = some (.int .i64 v) ∧ u.cell? ⟨w.heap.size, 3, none⟩ = some (.int .u8 o) ∧ u.cell? ⟨w.heap.size, 4, none⟩ = some (.slice sp m c)) ⟨xx, x0, x1, x2, x3, x4⟩ (fun _ => ?_)
  refine tk 0 rfl ?_ (hy := by (intro u hSw; obtain ⟨s1, s2, s3, s4, s5, s6⟩ := hSw; go_simp; try (with_reducible rfl)))
  refine tk 1 rfl ?_ (hy := by (intro u hSw; obtain ⟨s1, s2, s3, s4, s5, s6⟩ := hSw; go_simp; try (with_reducible rfl)))
  refine tk 2 rfl ?_ (hy := by (intro u hSw; obtain ⟨s1, s2, s3, s4, s5, s6⟩ := hSw; go_simp; try (with_reducible rfl)))
  refine tk 3 rfl ?_ (hy := by (intro u hSw; obtain ⟨s1, s2, s3, s4, s5, s6⟩ := hSw; go_simp; try (with_reducible rfl)))
  refine tk 4 rfl ?_ (hy := by (intro u hSw; obtain ⟨s1, s2, s3, s4, s5, s6⟩ := hSw; go_simp; try (with_reducible rfl)))
  refine tk 5 rfl ?_ (hy := by (intro u hSw; obtain ⟨s1, s2, s3, s4, s5, s6⟩ := hSw; go_simp; try (with_reducible rfl)))
  refine tk 6 rfl ?_ (hy := by (intro u hSw; obtain ⟨s1, s2, s3, s4, s5, s6⟩ := hSw; go_simp; try (with_reducible rfl)))
  refine tk 7 rfl ?_ (hy := by (intro u hSw; obtain ⟨s1, s2, s3, s4, s5, s6⟩ := hSw; go_simp; try (with_reducible rfl)))
  refine tk 8 rfl ?_ (hy := by (intro u hSw; obtain ⟨s1, s2, s3, s4, s5, s6⟩ := hSw; go_simp; try (with_reducible rfl)))
  refine rd 9 rfl (fun K hK' => ?_)
  go_simp
  refine hc1.out.mono ?_
  rintro e w2 ⟨rfl, hK2, hc2⟩
  have A2 := hc2.arr A1 hpx
  refine ko hK' ⟨cX2.out _ _ hK2, A2.cell 0, A2.cell 1, A2.cell 2, A2.cell 3, A2.cell 4⟩ (fun _ => ?_)
  clear hK'
  refine dn ?_
  go_wp2_with fail
  go_end0
  exact ⟨rfl, hfin.out _ _ hK2 ((Ch.refl _ _).dw.trans hc2)⟩
set_option maxHeartbeats 1000000 in
theorem value_go4 {s' : KS} {n v o r : Int} {sp : Option Addr} {m c : Nat} (w : World) (hK : KK N P q s w)
    (hc : ∀ (P' : Nat → Prop) (u : World), KK N P' q s u → Below N w u → Calls Try.prog 61 #[.pointer (some ⟨q.g, 0, none⟩), .agg #[.int .u8 4, .int .u64 n, .int .i64 v, .int .u8 o, .slice sp m c], .int .u8 r] u (KZ N P' q s' u)) :
    Calls Try.prog 80 #[.pointer (some ⟨q.g, 0, none⟩), .agg #[.int .u8 4, .int .u64 n, .int .i64 v, .int .u8 o, .slice sp m c], .int .u8 r] w (KZ N P q s' w) := by
  have hK1 := hK.al (.cells #[.int .u8 4, .int .u64 n, .int .i64 v, .int .u8 o, .slice sp m c] 92)
  have A1 := (Arr.new w 92 #[.int .u8 4, .int .u64 n, .int .i64 v, .int .u8 o, .slice sp m c]).drew
  have hbw : Below N w (w.alloc (.cells #[.int .u8 4, .int .u64 n, .int .i64 v, .int .u8 o, .slice sp m c] 92)).drew := ((Ch.refl P w).al _).dw.bl hK.n
  have hc1 := hc _ _ hK1.dw hbw
  have hfin : ∀ (s' : KS) (w' : World), KK N (fun k => P k ∧ k ≠ w.heap.size) q s' w' → Ch (fun k => P k ∧ k ≠ w.heap.size) (w.alloc (.cells #[.int .u8 4, .int .u64 n, .int .i64 v, .int .u8 o, .slice sp m c] 92)) w' → KK N P q s' w' ∧ Ch P w w' := fun _ _ h1 h2 => hK.out1 h1 h2
  have hpx : ¬ (P w.heap.size ∧ w.heap.size ≠ w.heap.size) := fun e => e.2 rfl
  obtain ⟨cv, gv, hB⟩ := hK1.dw.b
  have hS0 := hB.cX (k := 4) (by omega) (by omega)
  unfold mF at hS0
  have cX2 : ∀ (s2 : KS) (u : World), KK N (fun k => P k ∧ k ≠ w.heap.size) q s2 u → u.cell? ⟨q.g, 24, none⟩ = some (.func (Fn.func 61) #[.pointer (some ⟨q.g, 0, none⟩)] #[]) := fun s2 u h => by
    obtain ⟨cv, gv, hB⟩ := h.b
    have := hB.cX (k := 4) (by omega) (by omega)
    unfold mF at this
    exact this
  clear hB hS0
  replace hK := hid hK
  replace hc := hid hc
  replace hc1 := hid hc1
  replace hfin := hid hfin
  replace cX2 := hid cX2
  have x0 := A1.cell 0
  have x1 := A1.cell 1
  have x2 := A1.cell 2
  have x3 := A1.cell 3
  have x4 := A1.cell 4
  have xx := cX2.out _ _ hK1.dw
  replace hK1 := hid hK1
  go_enter Try.func80, Try.ntmps80
  go_upto_region 1 with fail
  refine rgn (fun u => u.cell? ⟨q.g, 24, none⟩ = some (.func (Fn.func 61) #[.pointer (some ⟨q.g, 0, none⟩)] #[]) ∧ u.cell? ⟨w.heap.size, 0, none⟩ = some (.int .u8 4) ∧ u.cell? ⟨w.heap.size, 1, none⟩ = some (.int .u64 n) ∧ u.cell? ⟨w.heap.size, 2, none⟩ = some (.int .i64 v) ∧ u.cell? ⟨w.heap.size, 3, none⟩ = some (.int .u8 o) ∧ u.cell? ⟨w.heap.size, 4, none⟩ = some (.slice sp m c)) ⟨xx, x0, x1, x2, x3, x4⟩ (fun _ => ?_)
  refine tk 0 rfl ?_ (hy := by (intro u hSw; obtain ⟨s1, s2, s3, s4, s5, s6⟩ := hSw; go_simp; try (with_reducible rfl)))
  refine tk 1 rfl ?_ (hy := by (intro u hSw; obtain ⟨s1, s2, s3, s4, s5, s6⟩ := hSw; go_simp; try (with_reducible rfl)))
  refine tk 2 rfl ?_ (hy := by (intro u hSw; obtain ⟨s1, s2, s3, s4, s5, s6⟩ := hSw; go_simp; try (with_reducible rfl)))
  refine tk 3 rfl ?_ (hy := by (intro u hSw; obtain ⟨s1, s2, s3, s4, s5, s6⟩ := hSw; go_simp; try (with_reducible rfl)))
  refine tk 4 rfl ?_ (hy := by (intro u hSw; obtain ⟨s1, s2, s3, s4, s5, s6⟩ := hSw; go_simp; try (with_reducible rfl)))
  refine tk 5 rfl ?_ (hy := by (intro u hSw; obtain ⟨s1, s2, s3, s4, s5, s6⟩ := hSw; go_simp; try (with_reducible rfl)))
  refine tk 6 rfl ?_ (hy := by (intro u hSw; obtain ⟨s1, s2, s3, s4, s5, s6⟩ := hSw; go_simp; try (with_reducible rfl)))
  refine tk 7 rfl ?_ (hy := by (intro u hSw; obtain ⟨s1, s2, s3, s4, s5, s6⟩ := hSw; go_simp; try (with_reducible rfl)))
  refine tk 8 rfl ?_ (hy := by (intro u hSw; obtain ⟨s1, s2, s3, s4, s5, s6⟩ := hSw; go_simp; try (with_reducible rfl)))
  refine rd 9 rfl (fun K hK' => ?_)
  go_simp
  refine hc1.out.mono ?_
  rintro e w2 ⟨rfl, hK2, hc2⟩
  have A2 := hc2.arr A1 hpx
  refine ko hK' ⟨cX2.out _ _ hK2, A2.cell 0, A2.cell 1, A2.cell 2, A2.cell 3, A2.cell 4⟩ (fun _ => ?_)
  clear hK'
  refine dn ?_
  go_wp2_with fail
  go_end0
  exact ⟨rfl, hfin.out _ _ hK2 ((Ch.refl _ _).dw.trans hc2)⟩
set_option maxHeartbeats 1000000 in
theorem value_s {d : Nat} (hE : VA N d) : VA N (d + 1) := by
  intro P q s w cs t vs r hK hG hM hok hvs hr hrd hb
  obtain ⟨hmy, hkids⟩ := okX_s hok
  obtain ⟨sp, m, cap, rfl, hko, hS⟩ := hM
  have hl := hS.len.out
  obtain ⟨⟨k, n, v, o, l⟩, ht⟩ : ∃ q : ExN (ExT d), q = t.nd := ⟨_, rfl⟩
  have he : kX q.E q.f (d + 1) t r s = kXone q.E q.f (kX q.E q.f d) (kIn q.E d) (kNum d) t.nd.k t.nd.n t.nd.v t.nd.o t.nd.l r s := rfl
  rw [he] at hb ⊢
  rw [← ht] at hmy hkids hko hS hl hb ⊢
  replace hl : m = l.length := hl
  replace hb : (kXone q.E q.f (kX q.E q.f d) (kIn q.E d) (kNum d) k n v o l r s).code.length ≤ 1000000 := hb
  clear he ht hok
  have hkn : U64 n := hko.n
  show Calls Try.prog 80 #[.pointer (some ⟨q.g, 0, none⟩), .agg #[.int .u8 k, .int .u64 n, .int .i64 v, .int .u8 o, .slice sp m cap], .int .u8 r] w (KZ N P q (kXone q.E q.f (kX q.E q.f d) (kIn q.E d) (kNum d) k n v o l r s) w)
  unfold kXone at hb ⊢
  by_cases h1 : k = 1
  · subst h1
    rw [if_pos rfl] at hb ⊢
    refine value_go1 w hK fun P' u hu hbu => constant_any (hs := ⟨_, _, _, rfl⟩) u hu hkn hb
  rw [if_neg h1] at hb ⊢
  by_cases h2 : k = 2
  · subst h2
    rw [if_pos rfl] at hb ⊢
    have hv2 : 0 ≤ v ∧ v ≤ 64 := by simp [mayE] at hmy; omega
    exact value_go2 w hK fun P' u hu hbu => read_any u hu hG hv2 (by simpa [kVar, kSlot, KS.to] using hb)
  rw [if_neg h2] at hb ⊢
  by_cases h3 : k = 3
  · subst h3
    have hl2 : l.length = 2 := by simp [mayE] at hmy; omega
    obtain ⟨g, off, rfl, hg, hR⟩ := hS.at0 (by omega)
    match l, hl2, hR, hkids, hb with
    | [a, b], _, hR, hkids, hb =>
      obtain ⟨ca, ra, hMa⟩ := hR 0 a rfl
      obtain ⟨cb, rb', hMb⟩ := hR 1 b rfl
      rw [Nat.zero_mul, Nat.add_zero] at ra
      rw [Nat.one_mul] at rb'
      exact value_go3 w hK fun P' u hu hbu => binary_any hE u hu hG (by rw [hl]; exact Nat.le_refl 2) hg (rgk ra hbu hg) (rgk rb' hbu hg) (ExM.below hbu d ca a hMa) (ExM.below hbu d cb b hMb) (hkids a (by simp)) (hkids b (by simp)) hvs hr (by omega) hb
  · have h4 : k = 4 := by
      by_cases h4 : k = 4
      · exact h4
      · simp [mayE, h1, h2, h3, h4] at hmy
    subst h4
    have hl2 : l.length = 1 := by simp [mayE] at hmy; omega
    obtain ⟨g, off, rfl, hg, hR⟩ := hS.at0 (by omega)
    match l, hl2, hR, hkids, hb with
    | [a], _, hR, hkids, hb =>
      obtain ⟨ca, ra, hMa⟩ := hR 0 a rfl
      rw [Nat.zero_mul, Nat.add_zero] at ra
      exact value_go4 w hK fun P' u hu hbu => load61_any hE u hu hG (by rw [hl]; exact Nat.le_refl 1) hg (rgk ra hbu hg) (ExM.below hbu d ca a hMa) (hkids a (by simp)) hvs hr (by omega) hb
theorem value_any : ∀ d : Nat, VA N d
  | 0 => fun P q s w cs t vs r hK hG hM hok => absurd hok fun h => okX_0 h
  | d + 1 => value_s (value_any d)
end Go.Proofs.Ytimmiidkjpbffaa
/- Layer compile: addresses; what statements come to in length. -/
namespace Go.Proofs.Ytimmiidkjpbffaa
open Go.RowKit
set_option maxRecDepth 100000
set_option linter.unusedVariables false
set_option linter.unusedSimpArgs false

variable {P : Nat → Prop} {q : KQ} {s : KS} {N : Nat}
theorem kAdr_le (E : KE) (f : Int) (d : Nat) (t : ExT d) (r : Int) (s : KS) : KLe s (kAdr E f d t r s) ∧ (kAdr E f d t r s).nx = s.nx := by
  unfold kAdr
  split
  · exact ⟨kto_le _ _ _, rfl⟩
  · have h := kX_le E f d t r s
    exact ⟨h.1.trans ((kput_le _ _).trans (kput_le _ _)), h.2⟩
theorem kAll_le {α : Type} (F : α → KS → KS) (hF : ∀ a s, KLe s (F a s)) : ∀ (l : List α) (s : KS), KLe s (kAll F l s)
  | [], s => KLe.refl s
  | a :: r, s => (hF a s).trans (kAll_le F hF r (F a s))
theorem kA_le (l : List (ExT 8)) (i : Nat) (E : KE) (f r : Int) (s : KS) : KLe s (kA l i E f r s) := by
  unfold kA
  split
  · exact KLe.refl s
  · exact (kX_le _ _ _ _ _ _).1
theorem kAd_le (l : List (ExT 8)) (i : Nat) (E : KE) (f r : Int) (s : KS) : KLe s (kAd l i E f r s) := by
  unfold kAd
  split
  · exact KLe.refl s
  · exact (kAdr_le _ _ _ _ _ _).1
theorem kArg_le (E : KE) (f g : Int) : ∀ (l : List (ExT 8)) (j : Int) (s : KS), KLe s (kArg E f g l j s)
  | [], j, s => KLe.refl s
  | a :: r, j, s => ((kX_le E f 8 a 1 s).1.trans (kto_le _ _ _)).trans (kArg_le E f g r (j + 1) _)
theorem kOne_le (E : KE) (f lv : Int) {α : Type} (B : List α → KS → KS) (hB : ∀ l s, KLe s (B l s)) (t : StN α) (s : KS) : KLe s (kOne E f lv B t s) := by
  unfold kOne
  repeat' split
  · exact (kA_le _ _ _ _ _ _).trans (kto_le _ _ _)
  · exact (kA_le _ _ _ _ _ _).trans (kto_le _ _ _)
  · exact (((kA_le _ _ _ _ _ _).trans (kA_le _ _ _ _ _ _)).trans (kput_le _ _)).trans (kto_le _ _ _)
  · exact ((((((((kfresh_le _).trans (kfresh_le _)).trans (kA_le _ _ _ _ _ _)).trans (kto_le _ _ _)).trans (hB _ _)).trans (kto_le _ _ _)).trans (khere_le _ _)).trans (hB _ _)).trans (khere_le _ _)
  · exact (((((((kfresh_le _).trans (kfresh_le _)).trans (khere_le _ _)).trans (kA_le _ _ _ _ _ _)).trans (kto_le _ _ _)).trans (hB _ _)).trans (kto_le _ _ _)).trans (khere_le _ _)
  · exact (kA_le _ _ _ _ _ _).trans (kto_le _ _ _)
  · exact (((((kArg_le _ _ _ _ _ _).trans (kfresh_le _)).trans (kto_le _ _ _)).trans (kto_le _ _ _)).trans (khere_le _ _)).trans (kto_le _ _ _)
  · exact (((kAd_le _ _ _ _ _ _).trans (kAd_le _ _ _ _ _ _)).trans (kA_le _ _ _ _ _ _)).trans (kput_le _ _)
  · exact (((((((((kAd_le _ _ _ _ _ _).trans (kA_le _ _ _ _ _ _)).trans (kA_le _ _ _ _ _ _)).trans (kfresh_le _)).trans (kto_le _ _ _)).trans (kput_le _ _)).trans (khere_le _ _)).trans (kput_le _ _))).trans (kput_le _ _)
  · exact (((kAd_le _ _ _ _ _ _).trans (kA_le _ _ _ _ _ _)).trans (kput_le _ _)).trans (kto_le _ _ _)
  · exact ((kAd_le _ _ _ _ _ _).trans (kput_le _ _)).trans (kto_le _ _ _)
theorem kS_le (E : KE) (f lv : Int) : ∀ (d : Nat) (t : StT d) (s : KS), KLe s (kS E f lv d t s)
  | 0, _, s => KLe.refl s
  | d + 1, t, s => kOne_le E f lv _ (fun l s => kAll_le _ (kS_le E f lv d) l s) t.nd s
set_option maxHeartbeats 2000000 in
theorem address_any {d : Nat} {cs : List Value} {t : ExT d} {vs r : Int} (w : World) (hK : KK N P q s w) (hG : KG q) (hM : ExM N w d cs t) (ok : okX vs d t) (hvs : vs ≤ 64) (hr : 0 ≤ r) (hrd : r + d ≤ 100) (hb : (kAdr q.E q.f d t r s).code.length ≤ 1000000) :
    Calls Try.prog 87 #[.pointer (some ⟨q.g, 0, none⟩), .agg cs.toArray, .int .u8 r] w (KZ N P q (kAdr q.E q.f d t r s) w) := by
  cases d with
  | zero => exact absurd ok fun h => okX_0 h
  | succ d =>
  obtain ⟨sa, na, cpa, hca, hko, hSa⟩ := id hM
  subst hca
  obtain ⟨o1, ho1⟩ : ∃ o1, o1 = Obj.cells #[.int .u8 t.nd.k, .int .u64 t.nd.n, .int .i64 t.nd.v, .int .u8 t.nd.o, .slice sa na cpa] 92 := ⟨_, rfl⟩
  have hK1 := hK.al o1
  have hfin : ∀ (s' : KS) (w' : World), KK N (fun k => P k ∧ k ≠ w.heap.size) q s' w' → Ch (fun k => P k ∧ k ≠ w.heap.size) (w.alloc o1) w' → KK N P q s' w' ∧ Ch P w w' := fun _ _ h1 h2 => hK.out1 h1 h2
  have A1 : Arr (w.alloc o1) w.heap.size 92 #[.int .u8 t.nd.k, .int .u64 t.nd.n, .int .i64 t.nd.v, .int .u8 t.nd.o, .slice sa na cpa] := by rw [ho1]; exact Arr.new w 92 _
  have hbw1 : Below N w (w.alloc o1) := ((Ch.refl P w).al o1).bl hK.n
  have hin1 := inData_any (k := t.nd.k) (n := t.nd.n) (v := t.nd.v) (o := t.nd.o) (sp := sa) (m := na) (c := cpa) _ hK1 hG
  rw [kIn_is] at hin1
  unfold kAdr at hb ⊢
  by_cases hI : kIn q.E (d + 1) t = true
  · rw [if_pos hI] at hb ⊢
    rw [hI] at hin1
    have hbl : s.code.length + 1 ≤ 1000000 := by simpa [kData, KS.to] using hb
    have hnum : 0 ≤ t.nd.n ∧ t.nd.n ≤ 1024 := by
      have h1 := hko.n.1
      have h2 := hG.d.2
      unfold kIn at hI
      simp at hI
      omega
    have hnn : kNum (d + 1) t = t.nd.n := rfl
    have hw : IntKind.u32.wrap t.nd.n = t.nd.n := by simp only [IntKind.wrap]; first | omega | (simp [IntKind.bits, IntKind.signed]; omega)
    have hda := fun (u : World) (hu : KK N (fun k => P k ∧ k ≠ w.heap.size) q s u) => putTo_k (l := 33) (o := 2) (a := r) (b := 0) (c := 0) (i := t.nd.n) u hu hbl
    rw [hnn]
    generalize hPP : (fun k => P k ∧ k ≠ w.heap.size) = P' at *
    have hx1 : ¬ P' w.heap.size := by rw [← hPP]; exact fun e => e.2 rfl
    subst ho1
    clear hPP hM ok hI hnn hSa hb hnum
    unfold kData
    replace hda := hid hda
    replace hin1 := hid hin1
    replace hfin := hid hfin
    replace hG := hid hG
    replace hK := hid hK
    replace hK1 := hid hK1
    replace hko := hid hko
    generalize t.nd.k = xk at *
    generalize t.nd.n = xn at *
    generalize t.nd.v = xv at *
    generalize t.nd.o = xo at *
    unfold exC at *
    have x0 := A1.cell 0
    have x1 := A1.cell 1
    have x2 := A1.cell 2
    have x3 := A1.cell 3
    have x4 := A1.cell 4
    go_enter Try.func87, Try.ntmps87
    go_upto_if 8 with (go_at_call 82; go_must (refine hin1.out.mono ?_; rintro e w2 ⟨rfl, hK3, hc3⟩))
    have y1 := (hc3.arr A1 hx1).cell 1
    have hda2 := hid (hda.out w2 hK3)
    go_wp2_with (go_at_call 62; go_must (refine hda2.out.mono ?_; rintro e w4 ⟨rfl, hK4, hc4⟩))
    go_end0
    exact ⟨rfl, hfin.out _ _ hK4 (hc3.trans hc4)⟩
  · rw [if_neg hI] at hb ⊢
    have hI' : kIn q.E (d + 1) t = false := by simpa using hI
    rw [hI'] at hin1
    have hbl : (kX q.E q.f (d + 1) t r s).code.length + 2 ≤ 1000000 := by simpa [kRaise, kProbe, KS.put, Nat.add_assoc] using hb
    have hv := fun (u : World) (hu : KK N (fun k => P k ∧ k ≠ w.heap.size) q s u) (hbu : Below N w u) => value_any (d + 1) _ q s u _ t vs r hu hG (ExM.below hbu _ _ t hM) ok hvs hr hrd (by omega)
    have hpr := fun (u : World) (hu : KK N (fun k => P k ∧ k ≠ w.heap.size) q (kX q.E q.f (d + 1) t r s) u) => probe_any (r := r) u hu (by omega)
    have hra := fun (u : World) (hu : KK N (fun k => P k ∧ k ≠ w.heap.size) q (kProbe r (kX q.E q.f (d + 1) t r s)) u) => raise_any (r := r) u hu (by simpa [kProbe, KS.put] using hbl)
    generalize hPP : (fun k => P k ∧ k ≠ w.heap.size) = P' at *
    have hx1 : ¬ P' w.heap.size := by rw [← hPP]; exact fun e => e.2 rfl
    subst ho1
    clear hPP hM ok hI hI' hSa hb
    replace hra := hid hra
    replace hpr := hid hpr
    replace hv := hid hv
    replace hin1 := hid hin1
    replace hfin := hid hfin
    replace hG := hid hG
    replace hK := hid hK
    replace hko := hid hko
    generalize kX q.E q.f (d + 1) t r s = s1 at *
    generalize t.nd.k = xk at *
    generalize t.nd.n = xn at *
    generalize t.nd.v = xv at *
    generalize t.nd.o = xo at *
    unfold exC at *
    have x0 := A1.cell 0
    have x1 := A1.cell 1
    have x2 := A1.cell 2
    have x3 := A1.cell 3
    have x4 := A1.cell 4
    go_enter Try.func87, Try.ntmps87
    go_upto_region 3 with (go_at_call 82; go_must (refine hin1.out.mono ?_; rintro e w2 ⟨rfl, hK3, hc3⟩))
    have A2 := hc3.arr A1 hx1
    have y0 := A2.cell 0
    have y1 := A2.cell 1
    have y2 := A2.cell 2
    have y3 := A2.cell 3
    have y4 := A2.cell 4
    have hv2 := hid (hv.out w2 hK3 (hbw1.trans (hK1.bel hc3)))
    go_upto_region 4 with (go_at_call 80; go_must (refine hv2.out.mono ?_; rintro e w4 ⟨rfl, hK4, hc4⟩))
    have hp2 := hid (hpr.out w4 hK4)
    go_upto_region 5 with (go_at_call 84; go_must (refine hp2.out.mono ?_; rintro e w5 ⟨rfl, hK5, hc5⟩))
    have hr2 := hid (hra.out w5 hK5)
    go_wp2_with (go_at_call 88; go_must (refine hr2.out.mono ?_; rintro e w6 ⟨rfl, hK6, hc6⟩))
    go_end0
    exact ⟨rfl, hfin.out _ _ hK6 (((hc3.trans hc4).trans hc5).trans hc6)⟩
end Go.Proofs.Ytimmiidkjpbffaa
