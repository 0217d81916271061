/- Ke. -/
import Derived.Test.YtagebcbnenehfaaGreatX17
namespace Go.Proofs.YtagebcbnenehfaaGreat
open Go.RowKit
set_option maxRecDepth 100000
set_option linter.unusedVariables false
set_option linter.unusedSimpArgs false
set_option maxHeartbeats 40000000
section
def Am.acc (a : Am) : Acc := ⟨a.ad, a.va, a.pa⟩
def fnx (gC : Nat) : Value := .func (Fn.func 152) #[] #[.pointer (some ⟨gC, 0, none⟩)]
def eiL (d : Int) (R : List Int) (gC : Nat) (v : Value) (q : Bool) : List Value := .int .i64 d :: (by8 R ++ [fnx gC, v, .bool q])
structure EI (N : Nat) (w : World) (gE gC : Nat) (d : Nat) (sb : Option Addr) (nb cb : Nat) (pre : List Int) (l : List Am) (R : List Int) (q : Bool) : Prop where
 blk : Arr w gE 107 (eiL d R gC (.slice sb nb cb) q).toArray
 lst : ∃ sp n cap, Arr w gC 31 #[.slice sp n cap] ∧ AS N w sp n cap l
 pre : BS N w sb nb cb pre
 r32 : R.length = 32
 ne : gE ≠ gC
 leE : N ≤ gE
 leC : N ≤ gC
 d12 : d ≤ 12
def C2E (gE gC k : Nat) : Prop := k = gE ∨ k = gC
def refV (x : Int) : List PanicEntry := [{ v := .iface 148 (.agg #[.int .i64 x]), recovered := false }]
theorem eiL_at {d : Int} {R : List Int} {gC : Nat} {v : Value} {q : Bool} (h : R.length = 32) (k : Nat) : (eiL d R gC v q).toArray[33 + k]? = [fnx gC, v, .bool q][k]? := by
 rw [List.getElem?_toArray, eiL, show 33 + k = (32 + k) + 1 by omega, List.getElem?_cons_succ, List.getElem?_append_right (by rw [by8_len, h]; omega), by8_len, h]
 congr 1
 omega
theorem eiL_rt {w : World} {g : Nat} {d : Int} {R : List Int} {gC : Nat} {v : Value} {q : Bool} (h : Arr w g 107 (eiL d R gC v q).toArray) : w.rangeAt g 1 (by8 R) := fun j u hu => by
 rw [h.cell, List.getElem?_toArray, eiL, show 1 + j = j + 1 by omega, List.getElem?_cons_succ, List.getElem?_append_left (by
   rcases Nat.lt_or_ge j (by8 R).length with h | h
   · exact h
   · rw [List.getElem?_eq_none h] at hu; cases hu)]
 exact hu
theorem EI.below {N : Nat} {w w' : World} {gE gC d : Nat} {sb : Option Addr} {nb cb : Nat} {pre : List Int} {l : List Am} {R : List Int} {q : Bool} (h : EI N w gE gC d sb nb cb pre l R q) (hb : Below w.heap.size w w') : EI N w' gE gC d sb nb cb pre l R q := by
 obtain ⟨sp, n, cap, hC, hA⟩ := h.lst
 have hN : N ≤ w.heap.size := Nat.le_trans h.leE (Nat.le_of_lt h.blk.lt)
 exact ⟨h.blk.bel hb, ⟨sp, n, cap, hC.bel hb, hA.below (hb.mono hN)⟩, h.pre.below (hb.mono hN), h.r32, h.ne, h.leE, h.leC, h.d12⟩
theorem EI.frame {N : Nat} {w w' : World} {gE gC d : Nat} {sb : Option Addr} {nb cb : Nat} {pre : List Int} {l : List Am} {R : List Int} {q : Bool} (h : EI N w gE gC d sb nb cb pre l R q) (hb : Below N w w') (hE : w'.heap[gE]? = w.heap[gE]?) (hC : w'.heap[gC]? = w.heap[gC]?) : EI N w' gE gC d sb nb cb pre l R q := by
 obtain ⟨sp, n, cap, hc, hA⟩ := h.lst
 exact ⟨hE.trans h.blk, ⟨sp, n, cap, hC.trans hc, hA.below hb⟩, h.pre.below hb, h.r32, h.ne, h.leE, h.leC, h.d12⟩
theorem Chg.kRow {S : Nat → Prop} {a b : World} (h : Chg S a b) {g : Nat} (D : Array Value) (hg : g < a.heap.size → S g) : Chg S a (b.setRow g D) :=
 ⟨h.os, h.tape, h.output, by simpa using h.size, fun i hi hs => (setRow_other b g i D (fun e => hs (by subst e; exact hg hi))).trans (h.block i hi hs)⟩
def TkPost (N : Nat) (gE gC d : Nat) (sb : Option Addr) (nb cb : Nat) (pre : List Int) (l : List Am) (R : List Int) (q : Bool) (x : Int) (w : World) (F : Am → Value) (e : Ending) (w' : World) : Prop :=
 Chg (C2E gE gC) w w' ∧ ((∃ a r, l = a :: r ∧ okA d R x a.acc = true ∧ e = .returned (F a) ∧ AmOK N w' a ∧ EI N w' gE gC d sb nb cb pre r R q) ∨ ((∀ a r, l = a :: r → okA d R x a.acc = false) ∧ e = .panicked (refV 210)))
variable {N : Nat} {gE gC d : Nat} {sb : Option Addr} {nb cb : Nat} {pre : List Int} {l : List Am} {R : List Int} {q : Bool} {x : Int}
theorem take_nil (w : World) (hE : EI N w gE gC d sb nb cb pre [] R q) :
   Calls Tryz.prog 241 #[.pointer (some ⟨gE, 0, none⟩), .int .u64 x] w (TkPost N gE gC d sb nb cb pre [] R q x w (fun a => .agg a.arr)) := by
 obtain ⟨sp, n, cap, hC, hA⟩ := hE.lst
 obtain rfl : n = 0 := hA.len.out
 have e33 := (hE.blk.cell 33).trans (eiL_at hE.r32 0)
 have q33 : ∀ o, (w.alloc o).cell? ⟨gE, 33, none⟩ = some (.func (Fn.func 152) #[] #[.pointer (some ⟨gC, 0, none⟩)]) := fun o => (World.cell?_alloc_lt _ _ _ hE.blk.lt).trans e33
 have hnx := fun o => next_nil (N := N) (w.alloc o) (hC.alloc o)
 unfold zAm at hnx
 go_enter Tryz.func241, Tryz.ntmps241
 go_upto_region 2 with (go_at_call 152; go_must (refine (hnx _).mono ?_; rintro e w1 ⟨rfl, hb1⟩))
 go_quiet (fail)
 go_wp2_with fail
 exact ⟨rfl, Chg.of_below (Below.drewN (((alloc_bel' w _).trans (hb1.mono (by simp))).alloc (by have := hb1.size; simp at this; omega) _) _), .inr ⟨(fun a r h => by cases h), rfl⟩⟩
structure Nx (N : Nat) (w0 w1 : World) (gE gC d : Nat) (sb : Option Addr) (nb cb : Nat) (pre : List Int) (l : List Am) (R : List Int) (q : Bool) (a : Am) : Prop where
 ei : EI N w1 gE gC d sb nb cb pre l R q
 chg : Chg (C2E gE gC) w0 w1
 am : AmOK N w1 a
theorem nx_of {a : Am} {r : List Am} {w w1 : World} {g off n cap : Nat} {ad : Addr} (hE : EI N w gE gC d sb nb cb pre (a :: r) R q) (hA : AS N w (some ⟨g, off, none⟩) (n + 1) (cap + 1) (a :: r)) (o : Obj)
   (h1 : Arr w1 gC 31 #[.slice (some ad) n cap]) (h2 : 0 < n → ad = ⟨g, off + 3, none⟩) (h3 : Chg (fun k => k = gC) (w.alloc o) w1) : Nx N w w1 gE gC d sb nb cb pre r R q a := by
 have hs : w.heap.size ≤ w1.heap.size := by have := h3.size; simp at this; omega
 have hltE := hE.blk.lt
 have hN : N ≤ w.heap.size := Nat.le_trans hE.leE (Nat.le_of_lt hltE)
 have hbN : Below N w w1 := ((alloc_bel' w o).mono hN).trans (h3.below (fun i hi => ⟨by simp; omega, fun e => by have := hE.leC; omega⟩))
 have hEb : w1.heap[gE]? = w.heap[gE]? := (h3.block gE (by simp; omega) hE.ne).trans (Below.heap_alloc _ _ _ hltE)
 refine ⟨⟨hEb.trans hE.blk, ⟨some ad, n, cap, h1, (hA.tail h2).below hbN⟩, hE.pre.below hbN, hE.r32, hE.ne, hE.leE, hE.leC, hE.d12⟩, ?_, (hA.ok a (List.mem_cons_self)).below hbN⟩
 exact (Chg.of_below (alloc_bel' w o)).trans (h3.mono (fun i _ e => .inr e))
theorem take_ad {a : Am} {r : List Am} (w : World) (hE : EI N w gE gC d sb nb cb pre (a :: r) R q) (hx : a.ad ≠ x) (hno : okA d R x a.acc = false) :
   Calls Tryz.prog 241 #[.pointer (some ⟨gE, 0, none⟩), .int .u64 x] w (TkPost N gE gC d sb nb cb pre (a :: r) R q x w (fun a => .agg a.arr)) := by
 have hne : (a.ad != x) = true := by simpa using hx
 obtain ⟨sp, n0, cap0, hC, hA⟩ := hE.lst
 obtain ⟨n, rfl⟩ : ∃ n, n0 = n + 1 := ⟨r.length, by have := hA.len.out; simpa using this⟩
 obtain ⟨g, off, rfl, hg, hR⟩ := hA.at0 (by omega)
 obtain ⟨cap, rfl⟩ : ∃ c, cap0 = c + 1 := ⟨cap0 - 1, by have := hA.le; omega⟩
 have e33 := (hE.blk.cell 33).trans (eiL_at hE.r32 0)
 have q33 : ∀ o, (w.alloc o).cell? ⟨gE, 33, none⟩ = some (.func (Fn.func 152) #[] #[.pointer (some ⟨gC, 0, none⟩)]) := fun o => (World.cell?_alloc_lt _ _ _ hE.blk.lt).trans e33
 have hnx := fun o => next_cons (N := N) (w.alloc o) (hC.alloc o) (hA.below (alloc_bel' w o |>.mono (Nat.le_trans hE.leE (Nat.le_of_lt hE.blk.lt))))
 have hX := fun (o : Obj) (w1 : World) (ad : Addr) => nx_of (w1 := w1) (ad := ad) hE hA o
 unfold Am.arr at hnx
 have hCl := hC.lt
 clear hR hg hC
 go_enter Tryz.func241, Tryz.ntmps241
 go_upto_region 2 with (go_at_call 152; go_must (refine (hnx _).mono ?_; rintro e w1 ⟨rfl, ad, h1, h2, h3⟩; replace hX := hX _ w1 ad h1 h2 h3; have hE1 := hX.ei; have q0 : ∀ o, (w1.alloc o).cell? ⟨gE, 0, none⟩ = some (.int .i64 (d : Int)) := fun o => (World.cell?_alloc_lt _ _ _ hE1.blk.lt).trans (hE1.blk.cell 0); have hlt01 : w.heap.size < w1.heap.size := (by have := h3.size; simp at this; omega); have hz1 : ∃ Z, Arr w1 w.heap.size 83 Z ∧ Z.size = 3 := ⟨_, (h3.block w.heap.size (by simp) (fun e => by have := hE.blk.lt; have := hCl; omega)).trans (Arr.new w 83 zAm), rfl⟩; clear hnx h1 h2 h3 hA))
 go_quiet (fail)
 go_wp2_with fail
 exact ⟨rfl, (hX.chg.alloc _).kDrewN _, .inr ⟨(fun a' r' h => by cases h; exact hno), rfl⟩⟩
theorem take_ln {a : Am} {r : List Am} (w : World) (hE : EI N w gE gC d sb nb cb pre (a :: r) R q) (hx : a.ad = x) (hl : a.n ≠ d) (hno : okA d R x a.acc = false) :
   Calls Tryz.prog 241 #[.pointer (some ⟨gE, 0, none⟩), .int .u64 x] w (TkPost N gE gC d sb nb cb pre (a :: r) R q x w (fun a => .agg a.arr)) := by
 subst hx
 have hln : ((a.n : Int) != (d : Int)) = true := by simp only [bne_iff_ne, ne_eq]; omega
 have hln2 : (a.n != d) = true := by simpa using hl
 have hln3 : (a.n == d) = false := by simpa using hl
 have hln4 : ((a.n : Int) == (d : Int)) = false := by simp only [beq_eq_false_iff_ne, ne_eq]; omega
 clear hl
 obtain ⟨sp, n0, cap0, hC, hA⟩ := hE.lst
 obtain ⟨n, rfl⟩ : ∃ n, n0 = n + 1 := ⟨r.length, by have := hA.len.out; simpa using this⟩
 obtain ⟨g, off, rfl, hg, hR⟩ := hA.at0 (by omega)
 obtain ⟨cap, rfl⟩ : ∃ c, cap0 = c + 1 := ⟨cap0 - 1, by have := hA.le; omega⟩
 have e33 := (hE.blk.cell 33).trans (eiL_at hE.r32 0)
 have q33 : ∀ o, (w.alloc o).cell? ⟨gE, 33, none⟩ = some (.func (Fn.func 152) #[] #[.pointer (some ⟨gC, 0, none⟩)]) := fun o => (World.cell?_alloc_lt _ _ _ hE.blk.lt).trans e33
 have hnx := fun o => next_cons (N := N) (w.alloc o) (hC.alloc o) (hA.below (alloc_bel' w o |>.mono (Nat.le_trans hE.leE (Nat.le_of_lt hE.blk.lt))))
 have hX := fun (o : Obj) (w1 : World) (ad : Addr) => nx_of (w1 := w1) (ad := ad) hE hA o
 unfold Am.arr at hnx
 have hCl := hC.lt
 clear hR hg hC
 go_enter Tryz.func241, Tryz.ntmps241
 go_upto_region 2 with (go_at_call 152; go_must (refine (hnx _).mono ?_; rintro e w1 ⟨rfl, ad, h1, h2, h3⟩; replace hX := hX _ w1 ad h1 h2 h3; have hE1 := hX.ei; have q0 : ∀ o, (w1.alloc o).cell? ⟨gE, 0, none⟩ = some (.int .i64 (d : Int)) := fun o => (World.cell?_alloc_lt _ _ _ hE1.blk.lt).trans (hE1.blk.cell 0); have hlt01 : w.heap.size < w1.heap.size := (by have := h3.size; simp at this; omega); have hz1 : ∃ Z, Arr w1 w.heap.size 83 Z ∧ Z.size = 3 := ⟨_, (h3.block w.heap.size (by simp) (fun e => by have := hE.blk.lt; have := hCl; omega)).trans (Arr.new w 83 zAm), rfl⟩; clear hnx h1 h2 h3 hA))
 go_quiet (fail)
 go_wp2_with fail
 exact ⟨rfl, (hX.chg.alloc _).kDrewN _, .inr ⟨(fun a' r' h => by cases h; exact hno), rfl⟩⟩
def SE (w1 : World) (gE : Nat) (a : Am) (R : List Int) (u : World) : Prop := Below w1.heap.size w1 u ∧ (u.cell? ⟨w1.heap.size, 0, none⟩ = some (.int .u64 a.ad) ∧ u.cell? ⟨w1.heap.size, 1, none⟩ = some (.int .u64 a.va) ∧ u.cell? ⟨w1.heap.size, 2, none⟩ = some (.slice a.sp a.n a.cap)) ∧ u.cell? ⟨gE, 0, none⟩ = some (.int .i64 (a.n : Int)) ∧ u.rangeAt gE 1 (by8 R)
theorem SE.below {w1 u u' : World} {gE : Nat} {a : Am} {R : List Int} (h : SE w1 gE a R u) (hb : Below u.heap.size u u') : SE w1 gE a R u' := by
 obtain ⟨h1, ⟨h2, h3, h4⟩, h5, h6⟩ := h
 exact ⟨h1.trans (hb.mono h1.size), ⟨(hb.cell (block_lt_of_cell h2)).trans h2, (hb.cell (block_lt_of_cell h3)).trans h3, (hb.cell (block_lt_of_cell h4)).trans h4⟩, (hb.cell (block_lt_of_cell h5)).trans h5, fun j v hv => (hb.cell (block_lt_of_cell (h6 j v hv))).trans (h6 j v hv)⟩
theorem take_ck {a : Am} {r : List Am} (w : World) (hE : EI N w gE gC d sb nb cb pre (a :: r) R q) (hU : U64 x) (hx : a.ad = x) (hl : a.n = d) {bk : Bool} (hbk : ckW R x a.va a.pa = bk) (hok : okA d R x a.acc = bk) :
   Calls Tryz.prog 241 #[.pointer (some ⟨gE, 0, none⟩), .int .u64 x] w (TkPost N gE gC d sb nb cb pre (a :: r) R q x w (fun a => .agg a.arr)) := by
 subst hx hl
 obtain ⟨sp, n0, cap0, hC, hA⟩ := hE.lst
 obtain ⟨n, rfl⟩ : ∃ n, n0 = n + 1 := ⟨r.length, by have := hA.len.out; simpa using this⟩
 obtain ⟨g, off, rfl, hg, hR⟩ := hA.at0 (by omega)
 obtain ⟨cap, rfl⟩ : ∃ c, cap0 = c + 1 := ⟨cap0 - 1, by have := hA.le; omega⟩
 have e33 := (hE.blk.cell 33).trans (eiL_at hE.r32 0)
 have q33 : ∀ o, (w.alloc o).cell? ⟨gE, 33, none⟩ = some (.func (Fn.func 152) #[] #[.pointer (some ⟨gC, 0, none⟩)]) := fun o => (World.cell?_alloc_lt _ _ _ hE.blk.lt).trans e33
 have hnx := fun o => next_cons (N := N) (w.alloc o) (hC.alloc o) (hA.below (alloc_bel' w o |>.mono (Nat.le_trans hE.leE (Nat.le_of_lt hE.blk.lt))))
 have hX := fun (o : Obj) (w1 : World) (ad : Addr) => nx_of (w1 := w1) (ad := ad) hE hA o
 unfold Am.arr at hnx
 have hCl := hC.lt
 clear hR hg hC
 go_enter Tryz.func241, Tryz.ntmps241
 go_upto_region 2 with (go_at_call 152; go_must (refine (hnx _).mono ?_; rintro e w1 ⟨rfl, ad, h1, h2, h3⟩; replace hX := hX _ w1 ad h1 h2 h3; have hE1 := hX.ei; have q0 : ∀ o, (w1.alloc o).cell? ⟨gE, 0, none⟩ = some (.int .i64 (a.n : Int)) := fun o => (World.cell?_alloc_lt _ _ _ hE1.blk.lt).trans (hE1.blk.cell 0); have hlt01 : w.heap.size < w1.heap.size := (by have := h3.size; simp at this; omega); have hz1 : ∃ Z, Arr w1 w.heap.size 83 Z ∧ Z.size = 3 := ⟨_, (h3.block w.heap.size (by simp) (fun e => by have := hE.blk.lt; have := hCl; omega)).trans (Arr.new w 83 zAm), rfl⟩; clear hnx h1 h2 h3 hA))
 have rt1 : ∀ o, (w1.alloc o).rangeAt gE 1 (by8 R) := fun o j v hv => (World.cell?_alloc_lt _ _ _ hE1.blk.lt).trans (eiL_rt hE1.blk j v hv)
 have hck := fun (u : World) (hb : Below w1.heap.size w1 u) => checkM_any R a.ad a.va N a.sp a.n a.cap a.pa u hE1.r32 hU (hX.am.path.below (hb.mono (Nat.le_trans hE1.leE (Nat.le_of_lt hE1.blk.lt))))
 rw [hbk] at hck
 have b0 := Arr.new w1 83 #[.int .u64 a.ad, .int .u64 a.va, .slice a.sp a.n a.cap]
 refine rgn (SE w1 gE a R) (⟨(alloc_bel' _ _).drew, ⟨b0.cell 0, b0.cell 1, b0.cell 2⟩, q0 _, rt1 _⟩) (fun hHeld => ?_)
 refine tk 0 rfl ?_
 refine tk 1 rfl ?_
 refine tk 2 rfl ?_
 refine tk 3 rfl ?_
 refine tk 4 rfl (hy := by (intro u hSw; obtain ⟨-, ⟨s1, s2, s3⟩, s4, -⟩ := hSw; go_simp; try (with_reducible rfl))) ?_
 refine tk 5 rfl ?_
 refine tk 6 rfl ?_
 refine tk 7 rfl ?_
 refine tk 8 rfl ?_
 refine tk 9 rfl ?_
 refine tk 10 rfl (hy := by (intro u hSw; obtain ⟨-, ⟨s1, s2, s3⟩, s4, -⟩ := hSw; go_simp; try (with_reducible rfl))) ?_
 refine tk 11 rfl ?_
 refine tk 12 rfl ?_
 refine tk 13 rfl ?_
 refine tk 14 rfl ?_
 refine tk 15 rfl (hy := by (intro u hSw; obtain ⟨-, ⟨s1, s2, s3⟩, s4, -⟩ := hSw; go_simp; try (with_reducible rfl))) ?_
 refine tk 16 rfl ?_
 refine tk 17 rfl ?_
 refine tk 18 rfl ?_
 refine tk 19 rfl ?_
 refine tk 20 rfl ?_
 refine tk 21 rfl ?_
 refine tl 22 rfl (y24 (by rfl) (.tmp 36) rfl (gE) (1) rfl R hE1.r32 (fun u hu => hu.2.2.2)) ?_
 refine tk 23 rfl ?_
 refine tk 24 rfl ?_
 refine tk 25 rfl (hy := by (intro u hSw; obtain ⟨-, ⟨s1, s2, s3⟩, s4, -⟩ := hSw; go_simp; try (with_reducible rfl))) ?_
 refine tk 26 rfl ?_
 refine tk 27 rfl (hy := by (intro u hSw; obtain ⟨-, ⟨s1, s2, s3⟩, s4, -⟩ := hSw; go_simp; try (with_reducible rfl))) ?_
 refine rd 28 rfl (fun K hK => ?_)
 go_simp
 refine (hck _ hHeld.1).mono ?_; rintro e w2 ⟨rfl, hb2⟩; have hS2 := hHeld.below hb2
 go_wp2_with fail
 refine ko hK hS2 (fun hHeld => ?_)
 clear hK K
 refine tk 29 rfl ?_
 refine tk 30 rfl ?_
 refine dn ?_
 have hS3 := hS2
 obtain ⟨B3, ⟨s1, s2, s3⟩, -, -⟩ := hS3
 have z0 := (Arr.new w 83 zAm)
 have hcg := hX.chg.kB (B3.mono (Nat.le_refl _))
 have hlt1 : w.heap.size < w1.heap.size := hlt01
 have zz : ∃ Z, Arr w2 w.heap.size 83 Z ∧ Z.size = 3 := by
   obtain ⟨Z, h1, h2⟩ := hz1
   exact ⟨Z, h1.below B3 hlt1, h2⟩
 cases bk with
 | false =>
   go_wp2_with fail
   exact ⟨rfl, hcg, .inr ⟨(fun a' r' h => by cases h; exact hok), rfl⟩⟩
 | true =>
   obtain ⟨Z, hZ, hZ3⟩ := zz
   have s123 : w2.rangeAt w1.heap.size 0 a.cells := fun j v hv => by
     match j, hv with
     | 0, hv => cases hv; exact s1
     | 1, hv => cases hv; exact s2
     | 2, hv => cases hv; exact s3
   go_wp2_with (first
     | (refine wpList_load_mid (by rfl) 83 (.tmp 5) (by rfl) w1.heap.size 0 (by rfl) a.cells _ s123 Tryz.underlying83 rfl size83 ?_)
     | (refine wpList_store_row (by rfl) 83 (.tmp 4) (.tmp 48) (by rfl) w.heap.size a.arr (by rfl) (by rfl) 83 _ hZ size83 hZ3 a.oneA ?_))
   have hN : N ≤ w.heap.size := Nat.le_trans hE.leE (Nat.le_of_lt hE.blk.lt)
   have hbr : Below w.heap.size w2 (w2.setRow w.heap.size a.arr) := below_setRow (Below.refl _ _) (Nat.le_refl _) _
   have hE2 := hE1.below B3
   have hlE := hE.blk.lt
   refine bodyPost_ret (v := .agg a.arr) (results_cell_row Tryz.results241 _ _ w.heap.size 83 _ (0, 0) _ rfl (hZ.setRow _) Tryz.underlying83 rfl size83) rfl ⟨hcg.kRow _ (fun h => absurd h (by omega)), .inl ⟨a, r, rfl, hok, rfl, (hX.am.below (B3.mono (by omega))).below (hbr.mono hN), hE2.frame (hbr.mono hN) (hbr.block _ hlE) (hbr.block _ hCl)⟩⟩
theorem take_any (w : World) (hE : EI N w gE gC d sb nb cb pre l R q) (hU : U64 x) :
   Calls Tryz.prog 241 #[.pointer (some ⟨gE, 0, none⟩), .int .u64 x] w (TkPost N gE gC d sb nb cb pre l R q x w (fun a => .agg a.arr)) := by
 cases l with
 | nil => exact take_nil w hE
 | cons a r =>
   obtain ⟨sp, n0, cap0, hC, hA⟩ := hE.lst
   have hpl := (hA.ok a List.mem_cons_self).path.len.out
   by_cases h1 : a.ad = x
   · by_cases h2 : a.n = d
     · cases h3 : ckW R x a.va a.pa with
       | true => exact take_ck w hE hU h1 h2 h3 (by unfold okA Am.acc; rw [h3, Bool.and_true]; exact decide_eq_true ⟨h1, by rw [← hpl, h2]⟩)
       | false => exact take_ck w hE hU h1 h2 h3 (by unfold okA Am.acc; rw [h3, Bool.and_false])
     · exact take_ln w hE h1 h2 (by unfold okA Am.acc; rw [decide_eq_false (fun h => h2 (by rw [hpl]; exact h.2)), Bool.false_and])
   · exact take_ad w hE h1 (by unfold okA Am.acc; rw [decide_eq_false (fun h => h1 h.1), Bool.false_and])
end
end Go.Proofs.YtagebcbnenehfaaGreat
