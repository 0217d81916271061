/- Kh, Ki. -/
import Derived.Test.YtimmiidkjpbffaaX14
import Derived.Handy
import Derived.BigQuiet
import Derived.BigRegion
import Derived.Great.BuildSlice
import Derived.Test.YtimmiidkjpbffaaX06
/- Layer compile: calls. -/
namespace Go.Proofs.Ytimmiidkjpbffaa
open Go.RowKit
set_option maxRecDepth 100000
set_option linter.unusedVariables false
set_option linter.unusedSimpArgs false

variable {P : Nat → Prop} {q : KQ} {s : KS} {N : Nat}
theorem kArg_drop {E : KE} {f g : Int} {l : List (ExT 8)} {j : Nat} {a : ExT 8} (h : l[j]? = some a) (s : KS) : kArg E f g (l.drop j) j s = kArg E f g (l.drop (j + 1)) ((j + 1 : Nat) : Int) (kSlot 18 1 (kHome E g j) (kX E f 8 a 1 s)) := by
  obtain ⟨hj, rfl⟩ := List.getElem?_eq_some_iff.1 h
  rw [List.drop_eq_getElem_cons hj, kArg]
  norm_cast
set_option maxHeartbeats 4000000 in
theorem call_any {v f tg vs : Int} {sa sb sc : Option Addr} {m cap nb cb nc cc jf : Nat} {l : List (ExT 8)} (w : World) (hK : KK N P q s w) (hG : KG q) (hS : RS N w 5 (ExM N w 8) sa m cap l) (hok : ∀ a ∈ l, okX vs 8 a) (hm : m ≤ 64) (hvs : vs ≤ 64) (hv : 0 ≤ v ∧ v ≤ 64) (hf : f = (jf : Int)) (hjf : jf < q.E.fr.length) (h0 : 0 ≤ s.nx) (hb : (kVar q.E q.f 18 1 v ((((kArg q.E q.f f l 0 s).fresh.to (kArg q.E q.f f l 0 s).nx ⟨2, 15, 0, 0, 0⟩).to f ⟨19, 0, 0, 0, 0⟩).here (kArg q.E q.f f l 0 s).nx)).code.length ≤ 1000000) (hn : (kVar q.E q.f 18 1 v ((((kArg q.E q.f f l 0 s).fresh.to (kArg q.E q.f f l 0 s).nx ⟨2, 15, 0, 0, 0⟩).to f ⟨19, 0, 0, 0, 0⟩).here (kArg q.E q.f f l 0 s).nx)).nx ≤ 1000000) :
    Calls Try.prog 54 #[.pointer (some ⟨q.g, 0, none⟩), .agg #[.int .u8 6, .int .i64 v, .int .i64 f, .int .i64 tg, .slice sa m cap, .slice sb nb cb, .slice sc nc cc]] w (KZ N P q (kVar q.E q.f 18 1 v ((((kArg q.E q.f f l 0 s).fresh.to (kArg q.E q.f f l 0 s).nx ⟨2, 15, 0, 0, 0⟩).to f ⟨19, 0, 0, 0, 0⟩).here (kArg q.E q.f f l 0 s).nx)) w) := by
  have h0 : 0 ≤ (kArg q.E q.f f l 0 s).nx := Int.le_trans h0 (kArg_le _ _ _ _ _ _).2
  have hl5 : (kVar q.E q.f 18 1 v ((((kArg q.E q.f f l 0 s).fresh.to (kArg q.E q.f f l 0 s).nx ⟨2, 15, 0, 0, 0⟩).to f ⟨19, 0, 0, 0, 0⟩).here (kArg q.E q.f f l 0 s).nx)).code.length ≤ 1000000 ∧ (kVar q.E q.f 18 1 v ((((kArg q.E q.f f l 0 s).fresh.to (kArg q.E q.f f l 0 s).nx ⟨2, 15, 0, 0, 0⟩).to f ⟨19, 0, 0, 0, 0⟩).here (kArg q.E q.f f l 0 s).nx)).nx ≤ 1000000 := ⟨hb, hn⟩
  have hle4 : KLe ((((kArg q.E q.f f l 0 s).fresh.to (kArg q.E q.f f l 0 s).nx ⟨2, 15, 0, 0, 0⟩).to f ⟨19, 0, 0, 0, 0⟩).here (kArg q.E q.f f l 0 s).nx) (kVar q.E q.f 18 1 v ((((kArg q.E q.f f l 0 s).fresh.to (kArg q.E q.f f l 0 s).nx ⟨2, 15, 0, 0, 0⟩).to f ⟨19, 0, 0, 0, 0⟩).here (kArg q.E q.f f l 0 s).nx)) := kto_le _ _ _
  have hl4 : ((((kArg q.E q.f f l 0 s).fresh.to (kArg q.E q.f f l 0 s).nx ⟨2, 15, 0, 0, 0⟩).to f ⟨19, 0, 0, 0, 0⟩).here (kArg q.E q.f f l 0 s).nx).code.length ≤ 1000000 ∧ ((((kArg q.E q.f f l 0 s).fresh.to (kArg q.E q.f f l 0 s).nx ⟨2, 15, 0, 0, 0⟩).to f ⟨19, 0, 0, 0, 0⟩).here (kArg q.E q.f f l 0 s).nx).nx ≤ 1000000 := ⟨Nat.le_trans hle4.1 hl5.1, Int.le_trans hle4.2 hl5.2⟩
  have hle3 : KLe (((kArg q.E q.f f l 0 s).fresh.to (kArg q.E q.f f l 0 s).nx ⟨2, 15, 0, 0, 0⟩).to f ⟨19, 0, 0, 0, 0⟩) ((((kArg q.E q.f f l 0 s).fresh.to (kArg q.E q.f f l 0 s).nx ⟨2, 15, 0, 0, 0⟩).to f ⟨19, 0, 0, 0, 0⟩).here (kArg q.E q.f f l 0 s).nx) := khere_le _ _
  have hl3 : (((kArg q.E q.f f l 0 s).fresh.to (kArg q.E q.f f l 0 s).nx ⟨2, 15, 0, 0, 0⟩).to f ⟨19, 0, 0, 0, 0⟩).code.length ≤ 1000000 ∧ (((kArg q.E q.f f l 0 s).fresh.to (kArg q.E q.f f l 0 s).nx ⟨2, 15, 0, 0, 0⟩).to f ⟨19, 0, 0, 0, 0⟩).nx ≤ 1000000 := ⟨Nat.le_trans hle3.1 hl4.1, Int.le_trans hle3.2 hl4.2⟩
  have hle2 : KLe ((kArg q.E q.f f l 0 s).fresh.to (kArg q.E q.f f l 0 s).nx ⟨2, 15, 0, 0, 0⟩) (((kArg q.E q.f f l 0 s).fresh.to (kArg q.E q.f f l 0 s).nx ⟨2, 15, 0, 0, 0⟩).to f ⟨19, 0, 0, 0, 0⟩) := kto_le _ _ _
  have hl2 : ((kArg q.E q.f f l 0 s).fresh.to (kArg q.E q.f f l 0 s).nx ⟨2, 15, 0, 0, 0⟩).code.length ≤ 1000000 ∧ ((kArg q.E q.f f l 0 s).fresh.to (kArg q.E q.f f l 0 s).nx ⟨2, 15, 0, 0, 0⟩).nx ≤ 1000000 := ⟨Nat.le_trans hle2.1 hl3.1, Int.le_trans hle2.2 hl3.2⟩
  have hle1 : KLe (kArg q.E q.f f l 0 s).fresh ((kArg q.E q.f f l 0 s).fresh.to (kArg q.E q.f f l 0 s).nx ⟨2, 15, 0, 0, 0⟩) := kto_le _ _ _
  have hl1 : (kArg q.E q.f f l 0 s).fresh.code.length ≤ 1000000 ∧ (kArg q.E q.f f l 0 s).fresh.nx ≤ 1000000 := ⟨Nat.le_trans hle1.1 hl2.1, Int.le_trans hle1.2 hl2.2⟩
  have hle0 : KLe (kArg q.E q.f f l 0 s) (kArg q.E q.f f l 0 s).fresh := kfresh_le _
  have hl0 : (kArg q.E q.f f l 0 s).code.length ≤ 1000000 ∧ (kArg q.E q.f f l 0 s).nx ≤ 1000000 := ⟨Nat.le_trans hle0.1 hl1.1, Int.le_trans hle0.2 hl1.2⟩
  have h00 : 0 ≤ (kArg q.E q.f f l 0 s).nx := h0
  have h01 : 0 ≤ (kArg q.E q.f f l 0 s).fresh.nx := Int.le_trans h00 hle0.2
  have h02 : 0 ≤ ((kArg q.E q.f f l 0 s).fresh.to (kArg q.E q.f f l 0 s).nx ⟨2, 15, 0, 0, 0⟩).nx := Int.le_trans h01 hle1.2
  have h03 : 0 ≤ (((kArg q.E q.f f l 0 s).fresh.to (kArg q.E q.f f l 0 s).nx ⟨2, 15, 0, 0, 0⟩).to f ⟨19, 0, 0, 0, 0⟩).nx := Int.le_trans h02 hle2.2
  have h04 : 0 ≤ ((((kArg q.E q.f f l 0 s).fresh.to (kArg q.E q.f f l 0 s).nx ⟨2, 15, 0, 0, 0⟩).to f ⟨19, 0, 0, 0, 0⟩).here (kArg q.E q.f f l 0 s).nx).nx := Int.le_trans h03 hle3.2
  have h05 : 0 ≤ (kVar q.E q.f 18 1 v ((((kArg q.E q.f f l 0 s).fresh.to (kArg q.E q.f f l 0 s).nx ⟨2, 15, 0, 0, 0⟩).to f ⟨19, 0, 0, 0, 0⟩).here (kArg q.E q.f f l 0 s).nx)).nx := Int.le_trans h04 hle4.2
  clear h0 hb hn
  replace hl0 := hid hl0
  replace h00 := hid h00
  replace hl1 := hid hl1
  replace h01 := hid h01
  replace hl2 := hid hl2
  replace h02 := hid h02
  replace hl3 := hid hl3
  replace h03 := hid h03
  replace hl4 := hid hl4
  replace h04 := hid h04
  replace hl5 := hid hl5
  replace h05 := hid h05
  clear hle0
  clear hle1
  clear hle2
  clear hle3
  clear hle4
  have hlen := hS.len
  obtain ⟨o1, ho1⟩ : ∃ o1, o1 = Obj.cells #[.int .u8 6, .int .i64 v, .int .i64 f, .int .i64 tg, .slice sa m cap, .slice sb nb cb, .slice sc nc cc] 94 := ⟨_, rfl⟩
  have hK1 := hK.al o1
  have hfin : ∀ (s' : KS) (w' : World), KK N (fun k => P k ∧ k ≠ w.heap.size) q s' w' → Ch (fun k => P k ∧ k ≠ w.heap.size) (w.alloc o1) w' → KK N P q s' w' ∧ Ch P w w' := fun _ _ h1 h2 => hK.out1 h1 h2
  have A0 : Arr (w.alloc o1) w.heap.size 94 #[.int .u8 6, .int .i64 v, .int .i64 f, .int .i64 tg, .slice sa m cap, .slice sb nb cb, .slice sc nc cc] := by rw [ho1]; exact Arr.new w 94 _
  have hbwV : Below N w (w.alloc o1) := ((Ch.refl P w).al o1).bl hK.n
  generalize hPP : (fun k => P k ∧ k ≠ w.heap.size) = P' at *
  have hpx : ¬ P' w.heap.size := by rw [← hPP]; exact fun e => e.2 rfl
  subst ho1
  clear hPP
  replace hfin := hid hfin
  replace hG := hid hG
  replace hK := hid hK
  replace hvs := hid hvs
  replace hv := hid hv
  replace hok := hid hok
  replace hlen := hid hlen
  replace hf := hid hf
  have hF : ∃ fin, fin = (kArg q.E q.f f l 0 s) := ⟨_, rfl⟩
  obtain ⟨fin, hF⟩ := hF
  have hlF : Hid (fin.code.length ≤ 1000000) := hid (by rw [hF]; exact hl0.out.1)
  replace hF := hid hF
  have x4 := A0.cell 4
  go_enter Try.func54, Try.ntmps54
  go_upto_region 2 with fail
  generalize hV : w.alloc (.cells #[.int .u8 6, .int .i64 v, .int .i64 f, .int .i64 tg, .slice sa m cap, .slice sb nb cb, .slice sc nc cc] 94) = V at *
  clear hV x4
  go_loopw [10] (fun i wr => ∃ (j : Nat) (sj : KS), i = .int .i64 (j : Int) ∧ j ≤ m ∧ Hid (kArg q.E q.f f (l.drop j) j sj = fin) ∧ KK N P' q sj wr ∧ Ch P' V wr)
    (fun i _ => m - (intOf i).toNat)
  case atStart => exact ⟨0, s, rfl, by omega, hid (by rw [List.drop_zero, hF.out]; rfl), hK1, Ch.refl P' V⟩
  case round =>
    obtain ⟨j, sj, rfl, hj, hs, hKj, hcj⟩ := hrel
    have hbj : Below N w wr := hbwV.trans (hK1.bel hcj)
    have Aj := hcj.arr A0 hpx
    by_cases hlt : j < m
    · skip
      obtain ⟨t, ht⟩ : ∃ t, l[j]? = some t := ⟨l[j]'(by rw [← hlen.out]; exact hlt), List.getElem?_eq_getElem _⟩
      have hokt := hok.out t (List.mem_of_getElem? ht)
      rw [kArg_drop ht] at hs
      obtain ⟨g, off, rfl, hg, hR⟩ := hS.at0 (by omega)
      obtain ⟨cs, hrg, hM⟩ := hR j t ht
      obtain ⟨ek, en, ev, eo, es, em, ec, rfl⟩ := hM.cs
      have hle1 : (kSlot 18 1 (kHome q.E f j) (kX q.E q.f 8 t 1 sj)).code.length ≤ 1000000 := by have h := hlF.out; rw [← hs.out] at h; exact Nat.le_trans (kArg_le _ _ _ _ _ _).1 h
      have hle2 : (kX q.E q.f 8 t 1 sj).code.length + 1 ≤ 1000000 := by simpa [kSlot, KS.to] using hle1
      have hrg2 := rgk hrg hbj hg
      have c0 := hrg2 0 _ rfl
      have c1 := hrg2 1 _ rfl
      have c2 := hrg2 2 _ rfl
      have c3 := hrg2 3 _ rfl
      have c4 := hrg2 4 _ rfl
      simp only [Nat.add_zero] at c0
      have hlt' : (j : Int) < m := by omega
      have hj0 : (0 : Int) ≤ j := by omega
      have hK2 := hKj.al (.cells (exC ek en ev eo (.slice es em ec)).toArray 92)
      have hpw : ¬ (P' wr.heap.size ∧ wr.heap.size ≠ wr.heap.size) := fun e => e.2 rfl
      have hb2 : Below N wr (wr.alloc (.cells (exC ek en ev eo (.slice es em ec)).toArray 92)) := ((Ch.refl P' wr).al _).bl hKj.n
      have ct1 := value_any 8 _ q sj (wr.alloc (.cells (exC ek en ev eo (.slice es em ec)).toArray 92)) _ t vs 1 hK2 hG.out (ExM.below (hbj.trans hb2) _ _ t hM) hokt hvs.out (by omega) (by omega) (by omega)
      have hup : ∀ (s' : KS) (w' : World), KK N (fun k => P' k ∧ k ≠ wr.heap.size) q s' w' → Ch (fun k => P' k ∧ k ≠ wr.heap.size) (wr.alloc (.cells (exC ek en ev eo (.slice es em ec)).toArray 92)) w' → KK N P' q s' w' ∧ Ch P' wr w' := fun _ _ h1 h2 => hKj.out1 h1 h2
      have E2 := Arr.new wr 92 (exC ek en ev eo (.slice es em ec)).toArray
      have hhm := fun (u : World) (hu : KK N P' q (kX q.E q.f 8 t 1 sj) u) => home_any (f := f) (v := (j : Int)) u hu hf.out (List.getElem?_eq_getElem hjf) (hG.out.r _ _ (List.getElem?_eq_getElem hjf)) ⟨by omega, by omega⟩
      have hsl := fun (u : World) (hu : KK N P' q (kX q.E q.f 8 t 1 sj) u) => slot_any (o := 18) (r := 1) (n := kHome q.E f j) u hu hle2 (hG.out.home hf.out hjf ⟨by omega, by omega⟩)
      replace ct1 := hid ct1
      replace hup := hid hup
      replace hhm := hid hhm
      replace hsl := hid hsl
      replace hle1 := hid hle1
      replace hle2 := hid hle2
      replace hM := hid hM
      replace hokt := hid hokt
      replace hrg := hid hrg
      replace ht := hid ht
      clear hR hrg2 hS
      unfold exC at *
      have e0 := E2.cell 0
      have e1 := E2.cell 1
      have e2 := E2.cell 2
      have e3 := E2.cell 3
      have e4 := E2.cell 4
      go_upto_region 5 with (go_at_call 80; have ctx := ct1; clear ct1; go_must (refine ctx.out.mono ?_; rintro e w2 ⟨rfl, hK3, hc3⟩))
      obtain ⟨hK4, hc4⟩ := hup.out _ _ hK3 hc3
      have A2 := hc4.arr Aj hpx
      have z2 := A2.cell 2
      have h1' := hid (hhm.out w2 hK4)
      have h2' := hid (hsl.out w2 hK4)
      clear e0 e1 e2 e3 e4 c0 c1 c2 c3 c4 E2 hup hK3 hc3 hK2 hb2 hhm hsl
      go_wp2_with (first | (go_at_call 66; go_must (refine h1'.out.mono ?_; rintro e w3 ⟨rfl, rfl⟩)) | (go_at_call 65; go_must (refine h2'.out.mono ?_; rintro e w4 ⟨rfl, hK5, hc5⟩)))
      go_roundw
      case rel =>
        exact ⟨j + 1, _, by go_num, by omega, hs, hK5, (hcj.trans hc4).trans hc5⟩
      case measure => simp [intOf]; omega
    · skip
      obtain rfl : j = m := by omega
      have hsf : sj = fin := by have h := hs.out; rw [hlen.out, List.drop_length] at h; exact h
      subst hsf
      have hFF := hF.out
      subst hFF
      have hlt' : ¬ (j : Int) < j := by omega
      have hK0 := hKj
      have A10 := Aj
      have hbw0 := hbj
      have hcA0 := hcj
      clear hKj Aj hbj hcj hS hlF hF hs hlt hlt' hj
      go_upto_region 7 with fail
      have A1x0_0 := A10.cell 0
      have A1x0_1 := A10.cell 1
      have A1x0_2 := A10.cell 2
      have A1x0_3 := A10.cell 3
      have A1x0_4 := A10.cell 4
      have A1x0_5 := A10.cell 5
      have A1x0_6 := A10.cell 6
      obtain ⟨cv0, gv0, hB0⟩ := hK0.b
      have p0_2 := hB0.c2
      unfold pF at p0_2
      clear hB0
      have ct0 := (fresh_k wr hK0 h00.out hl0.out.2)
      replace ct0 := hid ct0
      go_upto_region 8 with (go_at_call 85; have ctx := ct0; clear ct0; go_must (refine ctx.out.mono ?_; rintro e w1 ⟨rfl, hK1, hc1⟩; have A11 := hc1.arr A10 hpx; have hbw1 := hbw0.trans (hK0.bel hc1); have hcA1 := hcA0.trans hc1))
      clear A1x0_0 A1x0_1 A1x0_2 A1x0_3 A1x0_4 A1x0_5 A1x0_6 p0_2
      have A1x1_0 := A11.cell 0
      have A1x1_1 := A11.cell 1
      have A1x1_2 := A11.cell 2
      have A1x1_3 := A11.cell 3
      have A1x1_4 := A11.cell 4
      have A1x1_5 := A11.cell 5
      have A1x1_6 := A11.cell 6
      obtain ⟨cv1, gv1, hB1⟩ := hK1.b
      have p1_2 := hB1.c2
      unfold pF at p1_2
      clear hB1
      have ct1 := (putTo_k (l := (kArg q.E q.f f l 0 s).nx) (o := 2) (a := 15) (b := 0) (c := 0) (i := 0) w1 hK1 (by have h := hl2.out.1; simp [kVar, kSlot, kData, kProbe, kRaise, KS.to, KS.put, KS.here, KS.fresh] at h ⊢; omega))
      replace ct1 := hid ct1
      go_upto_region 9 with (go_at_call 62; have ctx := ct1; clear ct1; go_must (refine ctx.out.mono ?_; rintro e w2 ⟨rfl, hK2, hc2⟩; have A12 := hc2.arr A11 hpx; have hbw2 := hbw1.trans (hK1.bel hc2); have hcA2 := hcA1.trans hc2))
      clear A1x1_0 A1x1_1 A1x1_2 A1x1_3 A1x1_4 A1x1_5 A1x1_6 p1_2
      have A1x2_0 := A12.cell 0
      have A1x2_1 := A12.cell 1
      have A1x2_2 := A12.cell 2
      have A1x2_3 := A12.cell 3
      have A1x2_4 := A12.cell 4
      have A1x2_5 := A12.cell 5
      have A1x2_6 := A12.cell 6
      obtain ⟨cv2, gv2, hB2⟩ := hK2.b
      have p2_2 := hB2.c2
      unfold pF at p2_2
      clear hB2
      have ct2 := (putTo_k (l := f) (o := 19) (a := 0) (b := 0) (c := 0) (i := 0) w2 hK2 (by have h := hl3.out.1; simp [kVar, kSlot, kData, kProbe, kRaise, KS.to, KS.put, KS.here, KS.fresh] at h ⊢; omega))
      replace ct2 := hid ct2
      go_upto_region 10 with (go_at_call 62; have ctx := ct2; clear ct2; go_must (refine ctx.out.mono ?_; rintro e w3 ⟨rfl, hK3, hc3⟩; have A13 := hc3.arr A12 hpx; have hbw3 := hbw2.trans (hK2.bel hc3); have hcA3 := hcA2.trans hc3))
      clear A1x2_0 A1x2_1 A1x2_2 A1x2_3 A1x2_4 A1x2_5 A1x2_6 p2_2
      have A1x3_0 := A13.cell 0
      have A1x3_1 := A13.cell 1
      have A1x3_2 := A13.cell 2
      have A1x3_3 := A13.cell 3
      have A1x3_4 := A13.cell 4
      have A1x3_5 := A13.cell 5
      have A1x3_6 := A13.cell 6
      obtain ⟨cv3, gv3, hB3⟩ := hK3.b
      have p3_2 := hB3.c2
      unfold pF at p3_2
      clear hB3
      have ct3 := (here_k (l := (kArg q.E q.f f l 0 s).nx) w3 hK3 (by have h := hl4.out.1; simpa [KS.here] using h))
      replace ct3 := hid ct3
      go_upto_region 11 with (go_at_call 64; have ctx := ct3; clear ct3; go_must (refine ctx.out.mono ?_; rintro e w4 ⟨rfl, hK4, hc4⟩; have A14 := hc4.arr A13 hpx; have hbw4 := hbw3.trans (hK3.bel hc4); have hcA4 := hcA3.trans hc4))
      clear A1x3_0 A1x3_1 A1x3_2 A1x3_3 A1x3_4 A1x3_5 A1x3_6 p3_2
      have A1x4_0 := A14.cell 0
      have A1x4_1 := A14.cell 1
      have A1x4_2 := A14.cell 2
      have A1x4_3 := A14.cell 3
      have A1x4_4 := A14.cell 4
      have A1x4_5 := A14.cell 5
      have A1x4_6 := A14.cell 6
      obtain ⟨cv4, gv4, hB4⟩ := hK4.b
      have p4_2 := hB4.c2
      unfold pF at p4_2
      clear hB4
      have ct4 := (variable_any (o := 18) (r := 1) (v := v) w4 hK4 hG.out (by have h := hl5.out.1; simp [kVar, kSlot, kData, kProbe, kRaise, KS.to, KS.put, KS.here, KS.fresh] at h ⊢; omega) hv.out)
      replace ct4 := hid ct4
      go_wp2_with (go_at_call 81; have ctx := ct4; clear ct4; go_must (refine ctx.out.mono ?_; rintro e w5 ⟨rfl, hK5, hc5⟩; have A15 := hc5.arr A14 hpx; have hbw5 := hbw4.trans (hK4.bel hc5); have hcA5 := hcA4.trans hc5))
      go_end0
      exact ⟨rfl, hfin.out _ _ hK5 hcA5⟩
end Go.Proofs.Ytimmiidkjpbffaa
/- Layer compile: whatever statement. -/
namespace Go.Proofs.Ytimmiidkjpbffaa
open Go.RowKit
set_option maxRecDepth 100000
set_option linter.unusedVariables false
set_option linter.unusedSimpArgs false

variable {P : Nat → Prop} {q : KQ} {s : KS} {N : Nat}
theorem okS_0 {ps : List Int} {vs : Int} {t : StT 0} (h : okS ps vs 0 t) : False := by obtain ⟨n, m, h⟩ := h; cases h
/-- One statement's contract, by its kind. -/
theorem stmt1 {d kk : Nat} (hE : SL N d) {cs : List Value} {t : StT (d + 1)} {ps : List Int} {vs : Int} (w : World) (hK : KK N P q s w) (hG : KG q) (hSG : SG q ps vs) (hM : StM N w (d + 1) cs t) (hok : okS ps vs (d + 1) t) (hk : t.nd.k = (kk : Int)) (h0 : 0 ≤ s.nx) (hb : (kS q.E q.f q.lv (d + 1) t s).code.length ≤ 1000000) (hn : (kS q.E q.f q.lv (d + 1) t s).nx ≤ 1000000) :
    Calls Try.prog (48 + kk) #[.pointer (some ⟨q.g, 0, none⟩), .agg cs.toArray] w (KZ N P q (kS q.E q.f q.lv (d + 1) t s) w) := by
  obtain ⟨hmy, hka, hkt, hke⟩ := okS_s hok
  obtain ⟨sa, na, ca, sb, nb, cb, sc, nc, cc, rfl, hko, hS, hT, hEl⟩ := hM
  have hl := hS.len.out
  have he : kS q.E q.f q.lv (d + 1) t s = kOne q.E q.f q.lv (kAll (kS q.E q.f q.lv d)) t.nd s := rfl
  rw [he] at hb hn ⊢
  clear he hok
  generalize t.nd = u at *
  obtain ⟨k, v, f, tg, a, th, el⟩ := u
  replace hk : k = (kk : Int) := hk
  replace hl : na = a.length := hl
  subst hk
  have hvs := hSG.v
  show Calls Try.prog (48 + kk) #[.pointer (some ⟨q.g, 0, none⟩), .agg #[.int .u8 (kk : Int), .int .i64 v, .int .i64 f, .int .i64 tg, .slice sa na ca, .slice sb nb cb, .slice sc nc cc]] w _
  unfold kOne at hb hn ⊢
  simp only at hb hn ⊢
  by_cases h1 : kk = 1
  · subst h1
    rw [if_pos (by rfl)] at hb hn ⊢
    have hv2 : 0 ≤ v ∧ v ≤ 64 := by simp [mayS] at hmy; omega
    have hla : a.length = 1 := by simp [mayS] at hmy; omega
    obtain ⟨g, off, rfl, hg, hR⟩ := hS.at0 (by omega)
    match a, hla, hR, hka, hb, hn with
    | [a0], _, hR, hka, hb, hn =>
      obtain ⟨ca0, ra0, hM0⟩ := hR 0 a0 rfl
      rw [Nat.zero_mul, Nat.add_zero] at ra0
      have ok0 := hka a0 (by simp)
      have hm : 1 ≤ na := by rw [hl]; exact Nat.le_refl _
      exact set_any (d := 0) w hK hG hg hm ra0 hM0 ok0 hvs hv2 h0 hb hn
  by_cases h2 : kk = 2
  · subst h2
    rw [if_neg (by decide)] at hb hn ⊢
    rw [if_pos (by rfl)] at hb hn ⊢
    have hla : a.length = 2 := by simp [mayS] at hmy; omega
    obtain ⟨g, off, rfl, hg, hR⟩ := hS.at0 (by omega)
    match a, hla, hR, hka, hb, hn with
    | [a0, a1], _, hR, hka, hb, hn =>
      obtain ⟨ca0, ra0, hM0⟩ := hR 0 a0 rfl
      obtain ⟨ca1, ra1, hM1⟩ := hR 1 a1 rfl
      rw [Nat.zero_mul, Nat.add_zero] at ra0
      rw [Nat.one_mul] at ra1
      have ok0 := hka a0 (by simp)
      have ok1 := hka a1 (by simp)
      have hm : 2 ≤ na := by rw [hl]; exact Nat.le_refl _
      by_cases hI : kIn q.E 8 a0 = true
      · have hI' : kInAt [a0, a1] 0 q.E = true := hI
        rw [if_pos hI'] at hb hn ⊢
        exact store_in w hK hG hg hm ra0 hM0 ok0 ra1 hM1 ok1 hvs hI h0 hb hn
      · have hI' : ¬ kInAt [a0, a1] 0 q.E = true := hI
        rw [if_neg hI'] at hb hn ⊢
        exact store_out w hK hG hg hm ra0 hM0 ok0 ra1 hM1 ok1 hvs (by simpa using hI) h0 hb hn
  by_cases h3 : kk = 3
  · subst h3
    rw [if_neg (by decide)] at hb hn ⊢
    rw [if_neg (by decide)] at hb hn ⊢
    rw [if_pos (by rfl)] at hb hn ⊢
    have hla : a.length = 1 := by simp [mayS] at hmy; omega
    obtain ⟨g, off, rfl, hg, hR⟩ := hS.at0 (by omega)
    match a, hla, hR, hka, hb, hn with
    | [a0], _, hR, hka, hb, hn =>
      obtain ⟨ca0, ra0, hM0⟩ := hR 0 a0 rfl
      rw [Nat.zero_mul, Nat.add_zero] at ra0
      have ok0 := hka a0 (by simp)
      have hm : 1 ≤ na := by rw [hl]; exact Nat.le_refl _
      exact choose_any w hK hG hg hm ra0 hM0 ok0 hvs hE hSG hT hkt hEl hke h0 hb hn
  by_cases h4 : kk = 4
  · subst h4
    rw [if_neg (by decide)] at hb hn ⊢
    rw [if_neg (by decide)] at hb hn ⊢
    rw [if_neg (by decide)] at hb hn ⊢
    rw [if_pos (by rfl)] at hb hn ⊢
    have hla : a.length = 1 := by simp [mayS] at hmy; omega
    obtain ⟨g, off, rfl, hg, hR⟩ := hS.at0 (by omega)
    match a, hla, hR, hka, hb, hn with
    | [a0], _, hR, hka, hb, hn =>
      obtain ⟨ca0, ra0, hM0⟩ := hR 0 a0 rfl
      rw [Nat.zero_mul, Nat.add_zero] at ra0
      have ok0 := hka a0 (by simp)
      have hm : 1 ≤ na := by rw [hl]; exact Nat.le_refl _
      exact repeat_any w hK hG hg hm ra0 hM0 ok0 hvs hE hSG hT hkt h0 hb hn
  by_cases h5 : kk = 5
  · subst h5
    rw [if_neg (by decide)] at hb hn ⊢
    rw [if_neg (by decide)] at hb hn ⊢
    rw [if_neg (by decide)] at hb hn ⊢
    rw [if_neg (by decide)] at hb hn ⊢
    rw [if_pos (by rfl)] at hb hn ⊢
    have hla : a.length = 1 := by simp [mayS] at hmy; omega
    obtain ⟨g, off, rfl, hg, hR⟩ := hS.at0 (by omega)
    match a, hla, hR, hka, hb, hn with
    | [a0], _, hR, hka, hb, hn =>
      obtain ⟨ca0, ra0, hM0⟩ := hR 0 a0 rfl
      rw [Nat.zero_mul, Nat.add_zero] at ra0
      have ok0 := hka a0 (by simp)
      have hm : 1 ≤ na := by rw [hl]; exact Nat.le_refl _
      exact answer_any (d := 0) w hK hG hg hm ra0 hM0 ok0 hvs h0 hb hn
  by_cases h6 : kk = 6
  · subst h6
    rw [if_neg (by decide)] at hb hn ⊢
    rw [if_neg (by decide)] at hb hn ⊢
    rw [if_neg (by decide)] at hb hn ⊢
    rw [if_neg (by decide)] at hb hn ⊢
    rw [if_neg (by decide)] at hb hn ⊢
    rw [if_pos (by rfl)] at hb hn ⊢
    have hv2 : 0 ≤ v ∧ v ≤ 64 := by simp [mayS] at hmy; omega
    have htk : tkB ps f a.length = true := by simp [mayS] at hmy; exact hmy.2.1
    unfold tkB at htk
    have htk := of_decide_eq_true htk
    obtain ⟨f0, f1, f2⟩ := htk
    have hm64 : na ≤ 64 := by
      have hmem : ps.getD f.toNat 0 ∈ ps := by
        rw [List.getD_eq_getElem?_getD, List.getElem?_eq_getElem (by omega)]
        exact List.getElem_mem _
      have := hSG.c _ hmem
      omega
    have hjf : f.toNat < q.E.fr.length := by have := hSG.p; omega
    exact call_any w hK hG hS hka hm64 hvs hv2 (show f = (f.toNat : Int) by omega) hjf h0 hb hn
  by_cases h7 : kk = 7
  · subst h7
    rw [if_neg (by decide)] at hb hn ⊢
    rw [if_neg (by decide)] at hb hn ⊢
    rw [if_neg (by decide)] at hb hn ⊢
    rw [if_neg (by decide)] at hb hn ⊢
    rw [if_neg (by decide)] at hb hn ⊢
    rw [if_neg (by decide)] at hb hn ⊢
    rw [if_pos (by rfl)] at hb hn ⊢
    have htg : 0 ≤ tg ∧ tg ≤ 256 := by simp [mayS] at hmy; omega
    have hla : a.length = 3 := by simp [mayS] at hmy; omega
    obtain ⟨g, off, rfl, hg, hR⟩ := hS.at0 (by omega)
    match a, hla, hR, hka, hb, hn with
    | [a0, a1, a2], _, hR, hka, hb, hn =>
      obtain ⟨ca0, ra0, hM0⟩ := hR 0 a0 rfl
      obtain ⟨ca1, ra1, hM1⟩ := hR 1 a1 rfl
      obtain ⟨ca2, ra2, hM2⟩ := hR 2 a2 rfl
      rw [Nat.zero_mul, Nat.add_zero] at ra0
      rw [Nat.one_mul] at ra1
      rw [show (2 * 5 : Nat) = 10 from rfl] at ra2
      have ok0 := hka a0 (by simp)
      have ok1 := hka a1 (by simp)
      have ok2 := hka a2 (by simp)
      have hm : 3 ≤ na := by rw [hl]; exact Nat.le_refl _
      by_cases hI : kIn q.E 8 a1 = true
      · have hI' : kInAt [a0, a1, a2] 1 q.E = true := hI
        rw [if_pos hI'] at hb hn ⊢
        exact hash_in (d := 0) w hK hG hg hm ra0 hM0 ok0 ra1 hM1 ok1 ra2 hM2 ok2 hvs hI htg h0 hb hn
      · have hI' : ¬ kInAt [a0, a1, a2] 1 q.E = true := hI
        rw [if_neg hI'] at hb hn ⊢
        exact hash_out (d := 0) w hK hG hg hm ra0 hM0 ok0 ra1 hM1 ok1 ra2 hM2 ok2 hvs (by simpa using hI) htg h0 hb hn
  by_cases h8 : kk = 8
  · subst h8
    rw [if_neg (by decide)] at hb hn ⊢
    rw [if_neg (by decide)] at hb hn ⊢
    rw [if_neg (by decide)] at hb hn ⊢
    rw [if_neg (by decide)] at hb hn ⊢
    rw [if_neg (by decide)] at hb hn ⊢
    rw [if_neg (by decide)] at hb hn ⊢
    rw [if_neg (by decide)] at hb hn ⊢
    rw [if_pos (by rfl)] at hb hn ⊢
    have hv2 : 0 ≤ v ∧ v ≤ 64 := by simp [mayS] at hmy; omega
    have hla : a.length = 2 := by simp [mayS] at hmy; omega
    obtain ⟨g, off, rfl, hg, hR⟩ := hS.at0 (by omega)
    match a, hla, hR, hka, hb, hn with
    | [a0, a1], _, hR, hka, hb, hn =>
      obtain ⟨ca0, ra0, hM0⟩ := hR 0 a0 rfl
      obtain ⟨ca1, ra1, hM1⟩ := hR 1 a1 rfl
      rw [Nat.zero_mul, Nat.add_zero] at ra0
      rw [Nat.one_mul] at ra1
      have ok0 := hka a0 (by simp)
      have ok1 := hka a1 (by simp)
      have hm : 2 ≤ na := by rw [hl]; exact Nat.le_refl _
      exact piece_any (d := 0) w hK hG hg hm ra0 hM0 ok0 ra1 hM1 ok1 hvs hv2 h0 hb hn
  by_cases h9 : kk = 9
  · subst h9
    rw [if_neg (by decide)] at hb hn ⊢
    rw [if_neg (by decide)] at hb hn ⊢
    rw [if_neg (by decide)] at hb hn ⊢
    rw [if_neg (by decide)] at hb hn ⊢
    rw [if_neg (by decide)] at hb hn ⊢
    rw [if_neg (by decide)] at hb hn ⊢
    rw [if_neg (by decide)] at hb hn ⊢
    rw [if_neg (by decide)] at hb hn ⊢
    have hv2 : 0 ≤ v ∧ v ≤ 64 := by simp [mayS] at hmy; omega
    have hla : a.length = 1 := by simp [mayS] at hmy; omega
    obtain ⟨g, off, rfl, hg, hR⟩ := hS.at0 (by omega)
    match a, hla, hR, hka, hb, hn with
    | [a0], _, hR, hka, hb, hn =>
      obtain ⟨ca0, ra0, hM0⟩ := hR 0 a0 rfl
      rw [Nat.zero_mul, Nat.add_zero] at ra0
      have ok0 := hka a0 (by simp)
      have hm : 1 ≤ na := by rw [hl]; exact Nat.le_refl _
      exact length_any (d := 0) w hK hG hg hm ra0 hM0 ok0 hvs hv2 h0 hb hn
  · exfalso
    have e1 : ¬ ((kk : Int) = 1) := by omega
    have e2 : ¬ ((kk : Int) = 2) := by omega
    have e3 : ¬ ((kk : Int) = 3) := by omega
    have e4 : ¬ ((kk : Int) = 4) := by omega
    have e5 : ¬ ((kk : Int) = 5) := by omega
    have e6 : ¬ ((kk : Int) = 6) := by omega
    have e7 : ¬ ((kk : Int) = 7) := by omega
    have e8 : ¬ ((kk : Int) = 8) := by omega
    have e9 : ¬ ((kk : Int) = 9) := by omega
    unfold mayS at hmy
    simp [e1, e2, e3, e4, e5, e6, e7, e8, e9] at hmy
end Go.Proofs.Ytimmiidkjpbffaa
