/- Layer frame: the walk of FrameBytes. -/
import Derived.Test.YtbjlmekafnpllabKb
namespace Go.Proofs.Ytbjlmekafnpllab
open Go.RowKit
set_option linter.unusedVariables false
set_option linter.unusedSimpArgs false

/-- What both Writes answer. -/
theorem wr_one (f : Fr) : ∃ (F : List Int) (c : Int),
    (∀ (N : Nat) (w : World), FrOK N w f → N ≤ w.heap.size → Calls Try.prog 8 #[.agg #[.int .u64 f.ch, .int .i64 f.seq, .bool f.last, .slice f.sp f.n f.cap]] w fun e w' => ∃ sp n cap, e = .returned (.tuple #[.slice sp n cap, .int .i64 c]) ∧ Hid (BS w'.heap.size w' sp n cap F) ∧ Below w.heap.size w w') ∧
    (∀ (N : Nat) (w : World), FrOK N w f → N ≤ w.heap.size → Calls Try.prog 9 #[.agg #[.int .u64 f.ch, .int .i64 f.seq, .bool f.last, .slice f.sp f.n f.cap]] w fun e w' => ∃ sp n cap, e = .returned (.tuple #[.slice sp n cap, .int .i64 c]) ∧ Hid (BS w'.heap.size w' sp n cap F) ∧ Below w.heap.size w w') := by
  cases hm : f.may with
  | true => exact ⟨f.form, 0, fun N w hf hN => wr_ok hf hN hm, fun N w hf hN => rwr_ok hf hN hm⟩
  | false =>
    refine ⟨[], 2, fun N w hf hN => (wr_no hf hN hm).mono ?_, fun N w hf hN => (rwr_no hf hN hm).mono ?_⟩
    · rintro e w' ⟨he, hb⟩
      exact ⟨none, 0, 0, he, Hid.mk' (BS.nil0 _ _), hb⟩
    · rintro e w' ⟨he, hb⟩
      exact ⟨none, 0, 0, he, Hid.mk' (BS.nil0 _ _), hb⟩
/-- What a Read answers, as one. -/
theorem rp_one {L : List Int} {fn : Nat} (hfn : ∀ (N : Nat) (sp : Option Addr) (n cap : Nat) (w : World), BS N w sp n cap L → Calls Try.prog fn #[.slice sp n cap] w (RPost L w)) :
    (∀ f : Fr, FrR f → f.form = L → ∀ (N : Nat) (sp : Option Addr) (n cap : Nat) (w : World), BS N w sp n cap L → Calls Try.prog fn #[.slice sp n cap] w fun e w' => ∃ sp n cap, e = .returned (.tuple #[.agg #[.int .u64 f.ch, .int .i64 f.seq, .bool f.last, .slice sp n cap], .int .i64 0]) ∧ Hid (BS w'.heap.size w' sp n cap f.bs) ∧ Below w.heap.size w w') ∧
    ((¬ ∃ f, FrR f ∧ f.form = L) → ∀ (N : Nat) (sp : Option Addr) (n cap : Nat) (w : World), BS N w sp n cap L → Calls Try.prog fn #[.slice sp n cap] w fun e w' => ∃ sp n cap, e = .returned (.tuple #[.agg #[.int .u64 0, .int .i64 0, .bool false, .slice sp n cap], .int .i64 (if whole L = 0 then 8 else whole L)]) ∧ Hid (BS w'.heap.size w' sp n cap []) ∧ Below w.heap.size w w') := by
  refine ⟨fun f hf hfe N sp n cap w hS => (hfn N sp n cap w hS).mono ?_, fun hno N sp n cap w hS => (hfn N sp n cap w hS).mono ?_⟩
  · rintro e w' ⟨hb, ⟨hno, -⟩ | ⟨g, he, hok, hr, hm, hform⟩⟩
    · exact absurd hfe (hno f hf)
    · obtain ⟨e1, e2, e3, e4⟩ := form_inj hr.bts hf.bts hr.len hf.len ⟨hr.c0, hr.c1⟩ ⟨hf.c0, hf.c1⟩ ⟨hr.s0, hr.s1⟩ ⟨hf.s0, hf.s1⟩ (hform.trans hfe.symm)
      have hB := hok.body
      rw [e4] at hB
      refine ⟨g.sp, g.n, g.cap, ?_, Hid.mk' hB, hb⟩
      rw [he, Fr.val, e1, e2, e3]
  · rintro e w' ⟨hb, ⟨-, c', hc', e', he⟩ | ⟨g, he, hok, hr, hm, hform⟩⟩
    · subst e'; exact ⟨none, 0, 0, he, Hid.mk' (BS.nil0 _ _), hb⟩
    · exact absurd ⟨g, hr, hform⟩ hno
theorem rd_one (L : List Int) : ∃ (a b : Int) (l : Bool) (bs : List Int) (c : Int),
    (∀ (N : Nat) (sp : Option Addr) (n cap : Nat) (w : World), BS N w sp n cap L → Calls Try.prog 10 #[.slice sp n cap] w fun e w' => ∃ sp n cap, e = .returned (.tuple #[.agg #[.int .u64 a, .int .i64 b, .bool l, .slice sp n cap], .int .i64 c]) ∧ Hid (BS w'.heap.size w' sp n cap bs) ∧ Below w.heap.size w w') ∧
    (∀ (N : Nat) (sp : Option Addr) (n cap : Nat) (w : World), BS N w sp n cap L → Calls Try.prog 11 #[.slice sp n cap] w fun e w' => ∃ sp n cap, e = .returned (.tuple #[.agg #[.int .u64 a, .int .i64 b, .bool l, .slice sp n cap], .int .i64 c]) ∧ Hid (BS w'.heap.size w' sp n cap bs) ∧ Below w.heap.size w w') := by
  have h1 := rp_one (L := L) (fn := 10) (fun N sp n cap w hS => readF_any N sp n cap L w hS)
  have h2 := rp_one (L := L) (fn := 11) (fun N sp n cap w hS => refRead_any N sp n cap L w hS)
  by_cases hx : ∃ f, FrR f ∧ f.form = L
  · obtain ⟨f, hf, hfe⟩ := hx
    exact ⟨f.ch, f.seq, f.last, f.bs, 0, h1.1 f hf hfe, h2.1 f hf hfe⟩
  · exact ⟨0, 0, false, [], _, h1.2 hx, h2.2 hx⟩

set_option maxRecDepth 100000 in
set_option maxHeartbeats 1000000 in
theorem bytesF_walk (f : Fr) (sp : Option Addr) (n cap : Nat) (L : List Int) (w : World) (hf : FrOK w.heap.size w f) (hS : BS w.heap.size w sp n cap L) :
    Calls Try.prog 3 #[f.val, .slice sp n cap] w fun e w' => e = .returned (.bool true) ∧ Below w.heap.size w w' := by
  unfold Fr.val
  obtain ⟨F, c, hW8, hW9⟩ := wr_one f
  obtain ⟨a, b, l, bs, d, hR10, hR11⟩ := rd_one L
  have hb0 := alloc_bel' w (.cells #[.int .u64 f.ch, .int .i64 f.seq, .bool f.last, .slice f.sp f.n f.cap] 25)
  have X1 := Arr.new w 25 #[.int .u64 f.ch, .int .i64 f.seq, .bool f.last, .slice f.sp f.n f.cap]
  have hf1 := hf.below hb0
  replace hW8 := Hid.mk' hW8
  replace hW9 := Hid.mk' hW9
  replace hR10 := Hid.mk' hR10
  replace hR11 := Hid.mk' hR11
  go_enter Try.func3, Try.ntmps3
  go_wp2_with (first
    | (go_at_call 8; go_must (refine (hW8.out _ _ hf1 (by simp)).mono ?_; rintro e w2 ⟨s2, n2, c2, rfl, B2, hb2⟩; have hs2 := hb2.size; simp at hs2; have hw2 := hb0.trans (hb2.mono (by simp)); have X2 := X1.below hb2 (by simp); have x0 := X2.cell 0; have x1 := X2.cell 1; have x2 := X2.cell 2; have x3 := X2.cell 3; simp at x0 x1 x2 x3; have hf2 := hf.below hw2))
    | (go_at_call 9; go_must (refine (hW9.out _ _ hf2 (by omega)).mono ?_; rintro e w3 ⟨s3, n3, c3, rfl, B3, hb3⟩; have hs3 := hb3.size; have hw3 := hw2.trans (hb3.mono (by omega)); have B2' := B2.out.below hb3; have hS3 := hS.below hw3))
    | (go_at_call 10; go_must (refine (hR10.out _ sp n cap _ hS3).mono ?_; rintro e w4 ⟨s4, n4, c4, rfl, B4, hb4⟩; have hs4 := hb4.size; have hw4 := (hw3.trans (hb4.mono (by omega))).alloc (by omega) (.cells #[.int .u64 a, .int .i64 b, .bool l, .slice s4 n4 c4] 25); have C2 := (B2'.below (hb4.mono (by omega))).below ((alloc_bel' w4 (.cells #[.int .u64 a, .int .i64 b, .bool l, .slice s4 n4 c4] 25)).mono (by omega)); have C3 := (B3.out.below hb4).below ((alloc_bel' w4 (.cells #[.int .u64 a, .int .i64 b, .bool l, .slice s4 n4 c4] 25)).mono (by omega)); have C4 := B4.out.below (alloc_bel' w4 (.cells #[.int .u64 a, .int .i64 b, .bool l, .slice s4 n4 c4] 25)); have hS4 := hS.below hw4; have P4 := Arr.new w4 25 #[.int .u64 a, .int .i64 b, .bool l, .slice s4 n4 c4]))
    | (go_at_call 11; go_must (refine (hR11.out _ sp n cap _ hS4).mono ?_; rintro e w5 ⟨s5, n5, c5, rfl, B5, hb5⟩; have hs5 := hb5.size; simp at hs5; have hw5 := (hw4.trans (hb5.mono (by simp; omega))).alloc (by omega) (.cells #[.int .u64 a, .int .i64 b, .bool l, .slice s5 n5 c5] 25); have D2 := (C2.below (hb5.mono (by simp; omega))).below ((alloc_bel' w5 (.cells #[.int .u64 a, .int .i64 b, .bool l, .slice s5 n5 c5] 25)).mono (by omega)); have D3 := (C3.below (hb5.mono (by simp; omega))).below ((alloc_bel' w5 (.cells #[.int .u64 a, .int .i64 b, .bool l, .slice s5 n5 c5] 25)).mono (by omega)); have D4 := (C4.below (hb5.mono (by simp))).below ((alloc_bel' w5 (.cells #[.int .u64 a, .int .i64 b, .bool l, .slice s5 n5 c5] 25)).mono (by omega)); have D5 := B5.out.below (alloc_bel' w5 (.cells #[.int .u64 a, .int .i64 b, .bool l, .slice s5 n5 c5] 25)); have P5 := (P4.below hb5 (by simp)).alloc (.cells #[.int .u64 a, .int .i64 b, .bool l, .slice s5 n5 c5] 25); have Q5 := Arr.new w5 25 #[.int .u64 a, .int .i64 b, .bool l, .slice s5 n5 c5]; have p0 := P5.cell 0; have p1 := P5.cell 1; have p2 := P5.cell 2; have p3 := P5.cell 3; simp at p0 p1 p2 p3))
    | (go_at_call 12; go_must (refine (same01_any s2 s3 n2 n3 c2 c3 F F _ _ _ D2 D3).mono ?_; rw [decide_eq_true (rfl : F = F)]; rintro e w6 ⟨rfl, rfl⟩))
    | (go_at_call 13; go_must (refine (one_same a b l s4 s5 n4 n5 c4 c5 bs _ _ _ D4 D5).mono ?_; rintro e w7 ⟨rfl, hb7⟩; have hs7 := hb7.size; simp at hs7; have hw7 := hw5.trans (hb7.mono (by simp; omega))))
    | (go_at_call 14; go_must (refine (anchored_any _).mono ?_; rintro e w8 ⟨rfl, hb8⟩; have hw8 := hw7.trans (hb8.mono (by omega)))))
  go_ret
  exact ⟨by simp, hw8⟩
end Go.Proofs.Ytbjlmekafnpllab
