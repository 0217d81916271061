/- Ar, Kf0, QTj. -/
import Derived.Test.YtagebcbnenehfaaGreatX19
namespace Go.Proofs.YtagebcbnenehfaaGreat
open Go.RowKit
set_option maxRecDepth 100000
set_option linter.unusedVariables false
set_option linter.unusedSimpArgs false
set_option maxHeartbeats 40000000
theorem mcA_rg {w : World} {g ty : Nat} {m : Mc} {sp : Option Addr} {n cap : Nat} (h : Arr w g ty (mcA m sp n cap)) : w.rangeAt g 1 (by64 m.rg) := fun j u hu => by
 rw [h.cell]
 simp only [mcA, mcL, List.getElem?_toArray]
 rw [show 1 + j = j + 1 by omega, List.getElem?_cons_succ, List.getElem?_append_left (List.getElem?_eq_some_iff.1 hu).1]
 exact hu
theorem y58 {ops : Array Oper} {S : World → Prop} {op : Oper} {a : Act} (hw : Region.wanted op (yielded ops a.tmps) = true) (x : Operand) (ho : op.op = .load 23 x)
   (b o : Nat) (hx : a.eval x = .pointer (some ⟨b, o, none⟩)) (rg : List Int) (hX : rg.length = 16) (hS : ∀ w, S w → w.rangeAt b o (by64 rg)) : YieldsIf Tryz.prog ops S op (.agg (rgA rg)) a :=
 yieldsIf_load_mid hw 23 x ho b o hx (by64 rg) _ hS Tryz.underlying23 rfl (by rw [by64_len, hX]; exact size58)
def coR (m : Mc) : List Int := if mayM m = true then cmt m.pc m.rg m.st (Nat.log2 m.me.length : Nat) (rW m.me) else Z32
def coE (m : Mc) : Int := if mayM m = true then 0 else 2
theorem refCommit_any (m : Mc) (sp : Option Addr) (n cap : Nat) (N : Nat) (w : World) (hok : m.ok) (hM : MS N w sp n cap m.me) :
   Calls Tryz.prog 20 #[.agg (mcA m sp n cap)] w fun e w' => e = .returned (.tuple #[.agg (h8 (coR m)), .int .i64 (coE m)]) ∧ Below w.heap.size w w' := by
 have A0 := (Arr.new w 27 (mcA m sp n cap)).alloc (.cells (h8 Z32) 30)
 have A1 := Arr.new (w.alloc (.cells (mcA m sp n cap) 27)) 30 (h8 Z32)
 simp only [World.size_alloc] at A1
 have hb0 := (alloc_bel' w (.cells (mcA m sp n cap) 27)).alloc (by simp) (.cells (h8 Z32) 30)
 rw [h8_Z] at A0 A1 hb0
 have hmay := fun U => refMay_anyV m sp n cap U hok hM.len hM.small
 have hs0 := mcA_size hok.r16 sp n cap
 have e0 := mcA_0 m sp n cap
 have e17 := mcA_17 hok.r16 sp n cap
 have e18 := mcA_18 hok.r16 sp n cap
 have hrg := fun (u : World) (h : Arr u w.heap.size 27 (mcA m sp n cap)) => mcA_rg h
 have hMh := hM.here
 unfold coR coE
 cases hmm : mayM m with
 | false =>
   rw [hmm] at hmay
   rw [if_neg (by decide), if_neg (by decide)]
   generalize mcA m sp n cap = C at *
   clear hmm
   go_enter Tryz.func20, Tryz.ntmps20
   go_wp2_with (first
     | (refine ld45 (by rfl) (.tmp 1) (by rfl) w.heap.size (by rfl) C hs0 A0 ?_)
     | (go_at_call 33; go_must (refine (hmay _).mono ?_; rintro e w1 ⟨rfl, hb1⟩; have A11 := A1.below hb1 A1.lt; have hB1 := hb0.trans (hb1.mono (by simp; omega))))
     | (refine st24 (by rfl) _ _ (by rfl) (w.heap.size + 1) Z32 Z32 (by rfl) (by rfl) Z32_len Z32_len A11 ?_))
   exact bodyPost_ret (v := .tuple #[.agg (h8 Z32), .int .i64 2]) (resP Tryz.results20 rfl rfl Z32_len (A11.setRow _)) rfl ⟨rfl, below_setRow hB1 (by omega) _⟩
 | true =>
   rw [hmm] at hmay
   rw [if_pos rfl, if_pos rfl]
   have hmm' := hmm
   unfold mayM at hmm'
   rw [Bool.and_eq_true, decide_eq_true_eq] at hmm'
   obtain ⟨hsb, hst⟩ := hmm'
   obtain ⟨d, hd, he⟩ := szB_pow hsb
   have hn : Hid (n = 2 ^ d) := Hid.mk' (by rw [hM.len.out, he])
   rw [he, Nat.log2_two_pow]
   have hn4 : n ≤ 4096 := by rw [hn.out]; exact pow12 hd
   have hdep := fun U => refDepth_any d n hd hn U
   have hroot := fun U (h : MS w.heap.size U sp n cap m.me) => refRootM_any sp n cap m.me w.heap.size U h
   rw [(rW_pow hd he).2] at hroot
   have hRl := rW_len m.me
   have hpt := fun U => refParts_any m.pc m.rg m.st (d : Nat) (rW m.me) U hok.r16 hRl hok.st
   have hcOK : cOK m.st (d : Nat) := ⟨by omega, by omega, hst⟩
   have hcm : cmR m.pc m.rg m.st (d : Nat) (rW m.me) = cmt m.pc m.rg m.st (d : Nat) (rW m.me) ∧ cmE m.st (d : Nat) = 0 := by unfold cmR cmE; rw [if_pos hcOK, if_pos hcOK]; exact ⟨rfl, rfl⟩
   rw [hcm.1, hcm.2] at hpt
   have hC32 : (cmt m.pc m.rg m.st (d : Nat) (rW m.me)).length = 32 := shl_len _
   generalize cmt m.pc m.rg m.st (d : Nat) (rW m.me) = CC at *
   clear hcm hcOK he hsb hmm
   have h16 := hok.r16
   generalize rW m.me = R at *
   generalize mcA m sp n cap = C at *
   go_enter Tryz.func20, Tryz.ntmps20
   go_upto_region 4 with (first
     | (refine ld45 (by rfl) (.tmp 1) (by rfl) w.heap.size (by rfl) C hs0 A0 ?_)
     | (go_at_call 33; go_must (refine (hmay _).mono ?_; rintro e w1 ⟨rfl, hb1⟩; have A01 := A0.below hb1 A0.lt; have A11 := A1.below hb1 A1.lt; have hB1 := hb0.trans (hb1.mono (by simp; omega)); have c18 := (A01.cell 18).trans e18))
     | (go_at_call 34; go_must (refine (hroot _ (hMh.below hB1)).mono ?_; rintro e w2 ⟨rfl, hb2⟩; have hs2 := hb2.size; have A02 := (A01.below hb2 A01.lt).alloc (.cells (h8 R) 30); have A12 := (A11.below hb2 A11.lt).alloc (.cells (h8 R) 30); have Q2 := Arr.new w2 30 (h8 R); have hB2 := (hB1.trans (hb2.mono (by have := hB1.size; omega))).alloc (by have := hB1.size; omega) (.cells (h8 R) 30)))
     | (refine st24n (by rfl) _ _ (by rfl) w2 w2.heap.size rfl (by rfl) R (by rfl) (by rfl) hRl ?_))
   generalize hV : w2.alloc (.cells (h8 R) 30) = V at *
   clear hV c18
   have hgR : w.heap.size + 2 ≤ w2.heap.size := by have := A11.lt; omega
   generalize w2.heap.size = gR at *
   have hVs := hB2.size
   refine rgn (fun u => Arr u w.heap.size 27 C ∧ Arr u gR 30 (h8 R)) ⟨A02, Q2⟩ (fun hHeld => ?_)
   refine tk 0 rfl ?_
   refine tk 1 rfl (hy := by (intro u hSw; have hc := (hSw.1.cell 0).trans e0; go_simp; try (with_reducible rfl))) ?_
   refine tk 2 rfl ?_
   refine tl 3 rfl (y58 (by rfl) (.tmp 18) rfl w.heap.size 1 rfl m.rg h16 (fun u hu => hrg u hu.1)) ?_
   refine tk 4 rfl ?_
   refine tk 5 rfl (hy := by (intro u hSw; have hc := (hSw.1.cell 17).trans e17; go_simp; try (with_reducible rfl))) ?_
   refine tk 6 rfl ?_
   refine tk 7 rfl (hy := by (intro u hSw; have hc := (hSw.1.cell 18).trans e18; go_simp; try (with_reducible rfl))) ?_
   refine tk 8 rfl ?_
   refine tl 10 rfl (y24 (by rfl) (.tmp 4) rfl (gR) (0) rfl R hRl (fun u hu => hu.2.range)) ?_
   refine rd 9 rfl (fun K hK => ?_)
   go_simp
   refine (hdep _).mono ?_; rintro e u1 ⟨rfl, h⟩; replace h := h.symm; subst h
   go_wp2_with fail
   refine ko hK ⟨A02, Q2⟩ (fun hHeld => ?_)
   clear hK K
   refine rd 11 rfl (fun K hK => ?_)
   go_simp
   refine (hpt _).mono ?_; rintro e u2 ⟨rfl, hb3⟩; have D : Below V.heap.size V u2 := ((Below.refl _ _).drew).trans (hb3.mono (by simp)); have A03 := A02.below D A02.lt; have Q3 := Q2.below D Q2.lt; have A13 := A12.below D A12.lt
   go_wp2_with fail
   refine ko hK ⟨A03, Q3⟩ (fun hHeld => ?_)
   clear hK K
   refine tk 12 rfl ?_
   refine tk 13 rfl ?_
   refine rd 14 rfl (fun K hK => ?_)
   refine step_want rfl (wp_store_row 30 (.tmp 2) (.tmp 28) rfl (w.heap.size + 1) (h8 CC) rfl rfl 30 _ A13 (s24h8 hC32) (by rw [h8_size, hC32]; rfl) (h8_one CC) ?_)
   refine ko hK ⟨A03.setRowOther _ (by omega), Q3.setRowOther _ (by omega)⟩ (fun hHeld => ?_)
   clear hK K
   refine tk 15 rfl ?_
   refine dn ?_
   go_wp2_with fail
   exact bodyPost_ret (v := .tuple #[.agg (h8 CC), .int .i64 0]) (resP Tryz.results20 rfl rfl hC32 (A13.setRow _)) rfl ⟨rfl, below_setRow (hB2.trans (D.mono hVs)) (by omega) _⟩
theorem ldR {ops : Array Oper} {rest : List Oper} {o : Oper} {a : Act} {w : World} {Q : Exit → Act → World → Prop} (hgd : Region.wanted o (yielded ops a.tmps) = true) (ty : TypeId) (x : Operand) (ho : o.op = .load ty x)
   (g : Nat) (hx : a.eval x = .pointer (some ⟨g, 0, none⟩)) (C : Array Value) {ty' : TypeId} (hA : Arr w g ty' C) {d : TypeDesc} (hu : Tryz.prog.underlying ty = some d) (hd : d.isRow = true) (hs : (Tryz.prog.info? ty).map (·.size) = some C.size)
   (h : wpList Tryz.prog ops Q rest (a.put o.dst (.agg C)) w) : wpList Tryz.prog ops Q (o :: rest) a w :=
 wpList_want hgd fun _ hK => wp_load_mid ty x ho g 0 hx C.toList _ (fun j v hv => by rw [Nat.zero_add, hA.cell]; simpa using hv) hu hd (by rw [Array.length_toList]; exact hs) (hK _ _ (by simpa using h))
theorem ldM {ops : Array Oper} {rest : List Oper} {o : Oper} {a : Act} {w : World} {Q : Exit → Act → World → Prop} (hgd : Region.wanted o (yielded ops a.tmps) = true) (ty : TypeId) (x : Operand) (ho : o.op = .load ty x)
   (g off : Nat) (hx : a.eval x = .pointer (some ⟨g, off, none⟩)) (C : List Value) (hA : w.rangeAt g off C) {d : TypeDesc} (hu : Tryz.prog.underlying ty = some d) (hd : d.isRow = true) (hs : (Tryz.prog.info? ty).map (·.size) = some C.length)
   (h : wpList Tryz.prog ops Q rest (a.put o.dst (.agg C.toArray)) w) : wpList Tryz.prog ops Q (o :: rest) a w :=
 wpList_want hgd fun _ hK => wp_load_mid ty x ho g off hx C _ hA hu hd hs (hK _ _ h)
theorem size23 : (Tryz.prog.info? 23).map (·.size) = some 16 := by kernel_rfl
theorem size88 : (Tryz.prog.info? 88).map (·.size) = some 5 := by kernel_rfl
theorem outB_range (s : St) (t : Nat) : 0 ≤ outB s t ∧ outB s t ≤ 255 := by unfold outB; omega
theorem shaB_range (B : Nat → Int) (n t : Nat) : 0 ≤ shaB B n t ∧ shaB B n t ≤ 255 := outB_range _ _
end Go.Proofs.YtagebcbnenehfaaGreat
