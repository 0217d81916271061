/- Layer frame: the walk of FrameForms. -/
import Derived.Test.YtbjlmekafnpllabJe
import Derived.Test.YtbjlmekafnpllabHa
import Derived.Test.YtbjlmekafnpllabFi
namespace Go.Proofs.Ytbjlmekafnpllab
open Go.RowKit
set_option linter.unusedVariables false
set_option linter.unusedSimpArgs false

theorem FrOK.r {N : Nat} {w : World} {f : Fr} (h : FrOK N w f) (hm : f.may = true) : FrR f := by
  obtain ⟨h1, h2, h3⟩ := (Fr.may_iff f).1 hm
  exact ⟨h.body.bts, by rw [← h.body.len.out]; exact h3, h.ch0, h.ch1, h1, h2⟩
theorem wr_ok {f : Fr} {N : Nat} {w : World} (hf : FrOK N w f) (hN : N ≤ w.heap.size) (hm : f.may = true) :
    Calls Try.prog 8 #[.agg #[.int .u64 f.ch, .int .i64 f.seq, .bool f.last, .slice f.sp f.n f.cap]] w fun e w' => ∃ sp n cap, e = .returned (.tuple #[.slice sp n cap, .int .i64 0]) ∧ Hid (BS w'.heap.size w' sp n cap f.form) ∧ Below w.heap.size w w' := by
  refine (write_any f N w hf hN).mono ?_
  rintro e w' ⟨hb, ⟨hno, -⟩ | ⟨-, v, he, hown⟩⟩
  · rw [hm] at hno; cases hno
  · have hr := hf.r hm
    have hl := (wf4_len f.ch.toNat f.seq.toNat (tn f.last) f.bs).2
    have hl2 := hr.len
    obtain ⟨sp, cap, rfl, hB, -⟩ := own_bs hown (wf_fm hr.bts).bts (by unfold Fr.form; omega)
    exact ⟨sp, _, cap, he, Hid.mk' hB, hb⟩
theorem wr_no {f : Fr} {N : Nat} {w : World} (hf : FrOK N w f) (hN : N ≤ w.heap.size) (hm : f.may = false) :
    Calls Try.prog 8 #[.agg #[.int .u64 f.ch, .int .i64 f.seq, .bool f.last, .slice f.sp f.n f.cap]] w fun e w' => e = .returned (.tuple #[.slice none 0 0, .int .i64 2]) ∧ Below w.heap.size w w' := by
  refine (write_any f N w hf hN).mono ?_
  rintro e w' ⟨hb, ⟨-, he⟩ | ⟨hy, -⟩⟩
  · exact ⟨he, hb⟩
  · rw [hm] at hy; cases hy
theorem rd_ok {N : Nat} {sp : Option Addr} {n cap : Nat} {L : List Int} {w : World} (hS : BS N w sp n cap L) {f : Fr} (hf : FrR f) (hfe : f.form = L) :
    Calls Try.prog 10 #[.slice sp n cap] w fun e w' => ∃ sp n cap, e = .returned (.tuple #[.agg #[.int .u64 f.ch, .int .i64 f.seq, .bool f.last, .slice sp n cap], .int .i64 0]) ∧ Hid (BS w'.heap.size w' sp n cap f.bs) ∧ Below w.heap.size w w' := by
  refine (readF_any N sp n cap L w hS).mono ?_
  rintro e w' ⟨hb, ⟨hno, -⟩ | ⟨g, he, hok, hr, hm, hform⟩⟩
  · exact absurd hfe (hno f hf)
  · obtain ⟨e1, e2, e3, e4⟩ := form_inj hr.bts hf.bts hr.len hf.len ⟨hr.c0, hr.c1⟩ ⟨hf.c0, hf.c1⟩ ⟨hr.s0, hr.s1⟩ ⟨hf.s0, hf.s1⟩ (hform.trans hfe.symm)
    have hB := hok.body
    rw [e4] at hB
    refine ⟨g.sp, g.n, g.cap, ?_, Hid.mk' hB, hb⟩
    rw [he, Fr.val, e1, e2, e3]
theorem rd_no {N : Nat} {sp : Option Addr} {n cap : Nat} {L : List Int} {w : World} (hS : BS N w sp n cap L) (hno : ¬ ∃ f, FrR f ∧ f.form = L) (c : Int) (hc : (if whole L = 0 then 8 else whole L) = c) :
    Calls Try.prog 10 #[.slice sp n cap] w fun e w' => e = .returned (.tuple #[.agg #[.int .u64 0, .int .i64 0, .bool false, .slice none 0 0], .int .i64 c]) ∧ Below w.heap.size w w' := by
  refine (readF_any N sp n cap L w hS).mono ?_
  rintro e w' ⟨hb, ⟨-, c', hc', e', he⟩ | ⟨g, he, hok, hr, hm, hform⟩⟩
  · rw [hc] at e'; subst e'; exact ⟨he, hb⟩
  · exact absurd ⟨g, hr, hform⟩ hno

set_option maxRecDepth 100000 in
set_option maxHeartbeats 1000000 in
theorem forms_nn (f : Fr) (sp : Option Addr) (n cap : Nat) (L : List Int) (w : World) (hf : FrOK w.heap.size w f) (hS : BS w.heap.size w sp n cap L) (hm : f.may = false) (hno : ¬ ∃ g, FrR g ∧ g.form = L) :
    Calls Try.prog 6 #[.agg #[.int .u64 f.ch, .int .i64 f.seq, .bool f.last, .slice f.sp f.n f.cap], .slice sp n cap] w fun e w' => e = .returned (.bool true) ∧ Below w.heap.size w w' := by
  obtain ⟨c, hc⟩ : ∃ c, (if whole L = 0 then 8 else whole L) = c := ⟨_, rfl⟩
  have hc0 : (c != 0) = true := by rw [← hc]; split <;> simp <;> assumption
  replace hc := Hid.mk' hc
  replace hno := Hid.mk' hno
  have hsm := hf.body.small
  replace hm := Hid.mk' hm
  have hb0 := alloc_bel' w (.cells #[.int .u64 f.ch, .int .i64 f.seq, .bool f.last, .slice f.sp f.n f.cap] 25)
  have X1 := Arr.new w 25 #[.int .u64 f.ch, .int .i64 f.seq, .bool f.last, .slice f.sp f.n f.cap]
  have hf1 := hf.below hb0
  go_enter Try.func6, Try.ntmps6
  go_wp2_with (first
    | (go_at_call 8; go_must (refine (wr_no hf1 (by simp) hm.out).mono ?_; rintro e w4 ⟨rfl, hb2⟩; have hs4 := hb2.size; simp at hs4; have hw4 := hb0.trans (hb2.mono (by simp)); have hS4 := hS.below hw4; have X4 := X1.below hb2 (by simp)))
    | (go_at_call 10; go_must (refine (rd_no hS4 hno.out c hc.out).mono ?_; rintro e w5 ⟨rfl, hb5⟩; have hs5 := hb5.size; have hw5 := hw4.trans (hb5.mono (by omega)); have X5 := (X4.below hb5 (by omega)).alloc (.cells #[.int .u64 0, .int .i64 0, .bool false, .slice none 0 0] 25)))
    | (go_at_call 14; go_must (refine (anchored_any _).mono ?_; rintro e w7 ⟨rfl, hb7⟩; have hs7 := hb7.size; simp at hs7; have hw7 := (hw5.alloc (by omega) (.cells #[.int .u64 0, .int .i64 0, .bool false, .slice none 0 0] 25)).trans (hb7.mono (by simp; omega)); have X7 := X5.below hb7 (by simp; omega); have z0 := X7.cell 0; have z1 := X7.cell 1; have z2 := X7.cell 2; have z3 := X7.cell 3; simp at z0 z1 z2 z3))
    | (go_at_call 20; go_must (refine (refMayF_any f _ hsm).mono ?_; rw [hm.out]; rintro e w8 ⟨rfl, hb8⟩)))
  go_ret
  exact ⟨by simp, hw7.trans (hb8.mono (by omega))⟩

set_option maxRecDepth 100000 in
set_option maxHeartbeats 1000000 in
theorem forms_ny (f : Fr) (sp : Option Addr) (n cap : Nat) (L : List Int) (w : World) (hf : FrOK w.heap.size w f) (hS : BS w.heap.size w sp n cap L) (hm : f.may = false) (f1 : Fr) (hf1r : FrR f1) (hfe : f1.form = L) :
    Calls Try.prog 6 #[.agg #[.int .u64 f.ch, .int .i64 f.seq, .bool f.last, .slice f.sp f.n f.cap], .slice sp n cap] w fun e w' => e = .returned (.bool true) ∧ Below w.heap.size w w' := by
  replace hfe := Hid.mk' hfe
  have hsm := hf.body.small
  replace hm := Hid.mk' hm
  have hb0 := alloc_bel' w (.cells #[.int .u64 f.ch, .int .i64 f.seq, .bool f.last, .slice f.sp f.n f.cap] 25)
  have X1 := Arr.new w 25 #[.int .u64 f.ch, .int .i64 f.seq, .bool f.last, .slice f.sp f.n f.cap]
  have hf1 := hf.below hb0
  go_enter Try.func6, Try.ntmps6
  go_wp2_with (first
    | (go_at_call 8; go_must (first
      | (refine (wr_ok hP (by simp) hPm.out).mono ?_; rintro e w6 ⟨s6, n6, c6, rfl, B6, hb6⟩; have hs6 := hb6.size; simp at hs6; have hw6 := (hw5.alloc (by omega) (.cells #[.int .u64 f1.ch, .int .i64 f1.seq, .bool f1.last, .slice s5 n5 c5] 25)).trans (hb6.mono (by simp; omega)))
      | (refine (wr_no hf1 (by simp) hm.out).mono ?_; rintro e w4 ⟨rfl, hb2⟩; have hs4 := hb2.size; simp at hs4; have hw4 := hb0.trans (hb2.mono (by simp)); have hS4 := hS.below hw4; have X4 := X1.below hb2 (by simp))))
    | (go_at_call 10; go_must (refine (rd_ok hS4 hf1r hfe.out).mono ?_; rintro e w5 ⟨s5, n5, c5, rfl, B5, hb5⟩; have hs5 := hb5.size; have hw5 := hw4.trans (hb5.mono (by omega)); have hP : FrOK w5.heap.size (w5.alloc (.cells #[.int .u64 f1.ch, .int .i64 f1.seq, .bool f1.last, .slice s5 n5 c5] 25)) (Fr.mk f1.ch f1.seq f1.last s5 n5 c5 f1.bs) := ⟨hf1r.c0, hf1r.c1, (by have := hf1r.s0; show (-9223372036854775808 : Int) ≤ f1.seq; omega), (by have := hf1r.s1; show f1.seq ≤ 9223372036854775807; omega), B5.out.below (alloc_bel' w5 _)⟩; have hPm : Hid ((Fr.mk f1.ch f1.seq f1.last s5 n5 c5 f1.bs).may = true) := Hid.mk' ((Fr.may_iff _).2 ⟨hf1r.s0, hf1r.s1, (by have := B5.out.len.out; have := hf1r.len; show n5 ≤ 4096; omega)⟩)))
    | (go_at_call 14; go_must (refine (anchored_any _).mono ?_; rintro e w7 ⟨rfl, hb7⟩; have hs7 := hb7.size; have hw7 := hw6.trans (hb7.mono (by omega)); have hS7 := hS.below hw7; have B7 : BS w6.heap.size w7 s6 n6 c6 L := (by have h := B6.out.below hb7; rw [show (Fr.mk f1.ch f1.seq f1.last s5 n5 c5 f1.bs).form = L from hfe.out] at h; exact h)))
    | (go_at_call 12; go_must (refine (same01_any sp s6 n n6 cap c6 L L _ _ _ hS7 B7).mono ?_; rintro e w8 ⟨rfl, rfl⟩)))
  go_ret
  exact ⟨by simp, hw7⟩

set_option maxRecDepth 100000 in
set_option maxHeartbeats 1000000 in
theorem forms_yn (f : Fr) (sp : Option Addr) (n cap : Nat) (L : List Int) (w : World) (hf : FrOK w.heap.size w f) (hS : BS w.heap.size w sp n cap L) (hm : f.may = true) (hno : ¬ ∃ g, FrR g ∧ g.form = L) :
    Calls Try.prog 6 #[.agg #[.int .u64 f.ch, .int .i64 f.seq, .bool f.last, .slice f.sp f.n f.cap], .slice sp n cap] w fun e w' => e = .returned (.bool true) ∧ Below w.heap.size w w' := by
  obtain ⟨c, hc⟩ : ∃ c, (if whole L = 0 then 8 else whole L) = c := ⟨_, rfl⟩
  have hc0 : (c != 0) = true := by rw [← hc]; split <;> simp <;> assumption
  replace hc := Hid.mk' hc
  replace hno := Hid.mk' hno
  have hsm := hf.body.small
  replace hm := Hid.mk' hm
  have hb0 := alloc_bel' w (.cells #[.int .u64 f.ch, .int .i64 f.seq, .bool f.last, .slice f.sp f.n f.cap] 25)
  have X1 := Arr.new w 25 #[.int .u64 f.ch, .int .i64 f.seq, .bool f.last, .slice f.sp f.n f.cap]
  have hf1 := hf.below hb0
  go_enter Try.func6, Try.ntmps6
  go_wp2_with (first
    | (go_at_call 8; go_must (refine (wr_ok hf1 (by simp) hm.out).mono ?_; rintro e w2 ⟨s2, n2, c2, rfl, B2, hb2⟩; have hs2 := hb2.size; simp at hs2; have hw2 := hb0.trans (hb2.mono (by simp)); have X2 := X1.below hb2 (by simp)))
    | (go_at_call 10; go_must (first
      | (refine (rd_no hS4 hno.out c hc.out).mono ?_; rintro e w5 ⟨rfl, hb5⟩; have hs5 := hb5.size; have hw5 := hw4.trans (hb5.mono (by omega)); have X5 := (X4.below hb5 (by omega)).alloc (.cells #[.int .u64 0, .int .i64 0, .bool false, .slice none 0 0] 25))
      | (refine (rd_ok B2.out (hf.r hm.out) rfl).mono ?_; rintro e w3 ⟨s3, n3, c3, rfl, B3, hb3⟩; have hs3 := hb3.size; have hw3 := hw2.trans (hb3.mono (by omega)); have Y3 := (X2.below hb3 (by omega)).alloc (.cells #[.int .u64 f.ch, .int .i64 f.seq, .bool f.last, .slice s3 n3 c3] 25); have y0 := Y3.cell 0; have y1 := Y3.cell 1; have y2 := Y3.cell 2; have y3 := Y3.cell 3; simp at y0 y1 y2 y3; have hfb := hf.body.below (hw3.alloc (by omega) (.cells #[.int .u64 f.ch, .int .i64 f.seq, .bool f.last, .slice s3 n3 c3] 25)); have hgb := B3.out.below (alloc_bel' w3 (.cells #[.int .u64 f.ch, .int .i64 f.seq, .bool f.last, .slice s3 n3 c3] 25)))))
    | (go_at_call 13; go_must (refine (one_same f.ch f.seq f.last f.sp s3 f.n n3 f.cap c3 f.bs _ _ _ hfb hgb).mono ?_; rintro e w4 ⟨rfl, hb4⟩; have hs4 := hb4.size; simp at hs4; have hw4 := (hw3.alloc (by omega) (.cells #[.int .u64 f.ch, .int .i64 f.seq, .bool f.last, .slice s3 n3 c3] 25)).trans (hb4.mono (by simp; omega)); have hS4 := hS.below hw4; have X4 := Y3.below hb4 (by simp; omega)))
    | (go_at_call 14; go_must (refine (anchored_any _).mono ?_; rintro e w7 ⟨rfl, hb7⟩; have hs7 := hb7.size; simp at hs7; have hw7 := (hw5.alloc (by omega) (.cells #[.int .u64 0, .int .i64 0, .bool false, .slice none 0 0] 25)).trans (hb7.mono (by simp; omega)); have X7 := X5.below hb7 (by simp; omega); have z0 := X7.cell 0; have z1 := X7.cell 1; have z2 := X7.cell 2; have z3 := X7.cell 3; simp at z0 z1 z2 z3))
    | (go_at_call 20; go_must (refine (refMayF_any f _ hsm).mono ?_; rw [hm.out]; rintro e w8 ⟨rfl, hb8⟩)))
  go_ret
  exact ⟨by simp, hw7.trans (hb8.mono (by omega))⟩

set_option maxRecDepth 100000 in
set_option maxHeartbeats 1000000 in
theorem forms_yy (f : Fr) (sp : Option Addr) (n cap : Nat) (L : List Int) (w : World) (hf : FrOK w.heap.size w f) (hS : BS w.heap.size w sp n cap L) (hm : f.may = true) (f1 : Fr) (hf1r : FrR f1) (hfe : f1.form = L) :
    Calls Try.prog 6 #[.agg #[.int .u64 f.ch, .int .i64 f.seq, .bool f.last, .slice f.sp f.n f.cap], .slice sp n cap] w fun e w' => e = .returned (.bool true) ∧ Below w.heap.size w w' := by
  replace hfe := Hid.mk' hfe
  have hsm := hf.body.small
  replace hm := Hid.mk' hm
  have hb0 := alloc_bel' w (.cells #[.int .u64 f.ch, .int .i64 f.seq, .bool f.last, .slice f.sp f.n f.cap] 25)
  have X1 := Arr.new w 25 #[.int .u64 f.ch, .int .i64 f.seq, .bool f.last, .slice f.sp f.n f.cap]
  have hf1 := hf.below hb0
  go_enter Try.func6, Try.ntmps6
  go_wp2_with (first
    | (go_at_call 8; go_must (first
      | (refine (wr_ok hP (by simp) hPm.out).mono ?_; rintro e w6 ⟨s6, n6, c6, rfl, B6, hb6⟩; have hs6 := hb6.size; simp at hs6; have hw6 := (hw5.alloc (by omega) (.cells #[.int .u64 f1.ch, .int .i64 f1.seq, .bool f1.last, .slice s5 n5 c5] 25)).trans (hb6.mono (by simp; omega)))
      | (refine (wr_ok hf1 (by simp) hm.out).mono ?_; rintro e w2 ⟨s2, n2, c2, rfl, B2, hb2⟩; have hs2 := hb2.size; simp at hs2; have hw2 := hb0.trans (hb2.mono (by simp)); have X2 := X1.below hb2 (by simp))))
    | (go_at_call 10; go_must (first
      | (refine (rd_ok hS4 hf1r hfe.out).mono ?_; rintro e w5 ⟨s5, n5, c5, rfl, B5, hb5⟩; have hs5 := hb5.size; have hw5 := hw4.trans (hb5.mono (by omega)); have hP : FrOK w5.heap.size (w5.alloc (.cells #[.int .u64 f1.ch, .int .i64 f1.seq, .bool f1.last, .slice s5 n5 c5] 25)) (Fr.mk f1.ch f1.seq f1.last s5 n5 c5 f1.bs) := ⟨hf1r.c0, hf1r.c1, (by have := hf1r.s0; show (-9223372036854775808 : Int) ≤ f1.seq; omega), (by have := hf1r.s1; show f1.seq ≤ 9223372036854775807; omega), B5.out.below (alloc_bel' w5 _)⟩; have hPm : Hid ((Fr.mk f1.ch f1.seq f1.last s5 n5 c5 f1.bs).may = true) := Hid.mk' ((Fr.may_iff _).2 ⟨hf1r.s0, hf1r.s1, (by have := B5.out.len.out; have := hf1r.len; show n5 ≤ 4096; omega)⟩))
      | (refine (rd_ok B2.out (hf.r hm.out) rfl).mono ?_; rintro e w3 ⟨s3, n3, c3, rfl, B3, hb3⟩; have hs3 := hb3.size; have hw3 := hw2.trans (hb3.mono (by omega)); have Y3 := (X2.below hb3 (by omega)).alloc (.cells #[.int .u64 f.ch, .int .i64 f.seq, .bool f.last, .slice s3 n3 c3] 25); have y0 := Y3.cell 0; have y1 := Y3.cell 1; have y2 := Y3.cell 2; have y3 := Y3.cell 3; simp at y0 y1 y2 y3; have hfb := hf.body.below (hw3.alloc (by omega) (.cells #[.int .u64 f.ch, .int .i64 f.seq, .bool f.last, .slice s3 n3 c3] 25)); have hgb := B3.out.below (alloc_bel' w3 (.cells #[.int .u64 f.ch, .int .i64 f.seq, .bool f.last, .slice s3 n3 c3] 25)))))
    | (go_at_call 13; go_must (refine (one_same f.ch f.seq f.last f.sp s3 f.n n3 f.cap c3 f.bs _ _ _ hfb hgb).mono ?_; rintro e w4 ⟨rfl, hb4⟩; have hs4 := hb4.size; simp at hs4; have hw4 := (hw3.alloc (by omega) (.cells #[.int .u64 f.ch, .int .i64 f.seq, .bool f.last, .slice s3 n3 c3] 25)).trans (hb4.mono (by simp; omega)); have hS4 := hS.below hw4; have X4 := Y3.below hb4 (by simp; omega)))
    | (go_at_call 14; go_must (refine (anchored_any _).mono ?_; rintro e w7 ⟨rfl, hb7⟩; have hs7 := hb7.size; have hw7 := hw6.trans (hb7.mono (by omega)); have hS7 := hS.below hw7; have B7 : BS w6.heap.size w7 s6 n6 c6 L := (by have h := B6.out.below hb7; rw [show (Fr.mk f1.ch f1.seq f1.last s5 n5 c5 f1.bs).form = L from hfe.out] at h; exact h)))
    | (go_at_call 12; go_must (refine (same01_any sp s6 n n6 cap c6 L L _ _ _ hS7 B7).mono ?_; rintro e w8 ⟨rfl, rfl⟩)))
  go_ret
  exact ⟨by simp, hw7⟩

theorem formsF_walk (f : Fr) (sp : Option Addr) (n cap : Nat) (L : List Int) (w : World) (hf : FrOK w.heap.size w f) (hS : BS w.heap.size w sp n cap L) :
    Calls Try.prog 6 #[f.val, .slice sp n cap] w fun e w' => e = .returned (.bool true) ∧ Below w.heap.size w w' := by
  unfold Fr.val
  by_cases hx : ∃ g, FrR g ∧ g.form = L
  · obtain ⟨f1, h1, h2⟩ := hx
    cases hm : f.may with
    | true => exact forms_yy f sp n cap L w hf hS hm f1 h1 h2
    | false => exact forms_ny f sp n cap L w hf hS hm f1 h1 h2
  · cases hm : f.may with
    | true => exact forms_yn f sp n cap L w hf hS hm hx
    | false => exact forms_nn f sp n cap L w hf hS hm hx
end Go.Proofs.Ytbjlmekafnpllab
