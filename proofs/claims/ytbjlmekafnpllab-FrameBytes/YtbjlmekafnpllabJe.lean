/- Layer frame: Read. -/
import Derived.Test.YtbjlmekafnpllabJd
import Derived.Test.YtbjlmekafnpllabFg
namespace Go.Proofs.Ytbjlmekafnpllab
open Go.RowKit
set_option linter.unusedVariables false
set_option linter.unusedSimpArgs false

theorem whole_le {L : List Int} (h : whole L = 0) : L.length ≤ 65536 := by
  by_cases h1 : 65536 < L.length
  · rw [whole, if_pos h1] at h; omega
  · omega
/-- What Read answers. -/
def RPost (L : List Int) (w : World) (e : Ending) (w' : World) : Prop :=
  Below w.heap.size w w' ∧ (((∀ f, FrR f → f.form ≠ L) ∧ ∃ c, c ≠ 0 ∧ c = (if whole L = 0 then 8 else whole L) ∧ e = .returned (.tuple #[.agg #[.int .u64 0, .int .i64 0, .bool false, .slice none 0 0], .int .i64 c])) ∨
    ∃ f : Fr, e = .returned (.tuple #[f.val, .int .i64 0]) ∧ FrOK w'.heap.size w' f ∧ FrR f ∧ f.may = true ∧ f.form = L)
theorem dec_ok {L : List Int} {w : World} {e : Ending} {w' : World} (h : DecPost L w e w') (h0 : whole L = 0) : ∃ l s1 n1 c1 s2 n2 c2, e = .returned (.tuple #[.agg #[.bool l, .slice s1 n1 c1, .slice s2 n2 c2], .int .i64 0]) ∧ Hid (Dec (w.heap.size ≤ ·) w' 16 (.agg #[.bool l, .slice s1 n1 c1, .slice s2 n2 c2]) L) ∧ Below w.heap.size w w' := by
  obtain ⟨hb, ⟨-, v, he, hD⟩ | ⟨hno, -⟩⟩ := h
  · obtain ⟨l, s1, n1, c1, s2, n2, c2, rfl⟩ := hD.sh
    exact ⟨l, s1, n1, c1, s2, n2, c2, he, Hid.mk' hD, hb⟩
  · exact absurd h0 hno
theorem dec_bad {L : List Int} {w : World} {e : Ending} {w' : World} (h : DecPost L w e w') (h0 : ¬ whole L = 0) (c : Int) (hc : whole L = c) : e = .returned (.tuple #[.agg #[.bool false, .slice none 0 0, .slice none 0 0], .int .i64 c]) ∧ Below w.heap.size w w' := by
  obtain ⟨hb, ⟨hyes, -⟩ | ⟨-, he⟩⟩ := h
  · exact absurd hyes h0
  · rw [hc] at he; exact ⟨he, hb⟩
theorem resR {w : World} {tmps : Array Value} {g : Nat} {a b c d v : Value} (hp : tmps.getD 2 undef = .pointer (some ⟨g, 0, none⟩)) (he : tmps.getD 3 undef = v) (hA : Arr w g 25 #[a, b, c, d]) :
    (results Try.f10 tmps).run Try.prog w = .ok (.tuple #[.agg #[a, b, c, d], v]) w := by
  have c0 := hA.cell 0
  have c1 := hA.cell 1
  have c2 := hA.cell 2
  have c3 := hA.cell 3
  simp at c0 c1 c2 c3
  have hp' : tmps[2]?.getD undef = .pointer (some ⟨g, 0, none⟩) := by simpa using hp
  have he' : tmps[3]?.getD undef = v := by simpa using he
  simp [results, Try.results10, go_sem, hp', he', c0, c1, c2, c3]

theorem frOK_below {N : Nat} {w w' : World} {f : Fr} (h : FrOK N w f) (hb : Below N w w') (hN : N ≤ w'.heap.size) : FrOK w'.heap.size w' f := ⟨h.ch0, h.ch1, h.sq0, h.sq1, (h.body.below hb).here⟩
/-- What frameOf makes of a read item. -/
theorem dec_frame {S : Nat → Prop} {w : World} {v : Value} {L : List Int} (hD : Dec S w 16 v L) (hL : L.length ≤ 65536) :
    ((∀ f, FrR f → f.form ≠ L) ∧ ∀ u, Below w.heap.size w u → Calls Try.prog 29 #[v] u fun e u' => e = .returned (.tuple #[.agg #[.int .u64 0, .int .i64 0, .bool false, .slice none 0 0], .bool false]) ∧ Below u.heap.size u u') ∨
    ∃ g : Fr, g.form = L ∧ OF S w g ∧ (0 ≤ g.seq ∧ g.seq < 1024) ∧ (∀ f, FrR f → f.form = L → f.bs = g.bs) ∧ ∀ u, Below w.heap.size w u → Calls Try.prog 29 #[v] u fun e u' => e = .returned (.tuple #[.agg #[.int .u64 g.ch, .int .i64 g.seq, .bool g.last, .slice g.sp g.n g.cap], .bool true]) ∧ Below u.heap.size u u' := by
  rcases hD with ⟨sp, n, cap, bs, rfl, hB, e⟩ | ⟨sq, k, cq, vs, Fs, rfl, hI, hlen, hD, e⟩
  · left
    refine ⟨fun f hf hfe => ?_, fun u hu => frameOf_no false sp n cap none 0 0 u (by omega) (.inl rfl)⟩
    have h1 := (wrap_len false bs).1
    rw [← e] at h1
    have h2 := (wf4_len f.ch.toNat f.seq.toNat (tn f.last) f.bs).1
    have h3 := hf.len
    have := (wrap_inj (l := true) (l' := false) (flat_bts (wf4_fm 15 f.ch.toNat f.seq.toNat (tn f.last) hf.bts)) hB.1.bts (by omega) (by omega) (show wf f.ch.toNat f.seq.toNat (tn f.last) f.bs = wrap false bs from hfe.trans e)).1
    cases this
  · have hfm : ∀ F ∈ Fs, Fm 15 F := fun F hF => by
      obtain ⟨i, hi⟩ := List.mem_iff_getElem?.1 hF
      have hil := (List.getElem?_eq_some_iff.1 hi).1
      exact (hD i _ F (List.getElem?_eq_getElem (by omega)) hi).is.fm
    have hfl := (wrap_len true Fs.flatten).1
    rw [← e] at hfl
    have hkl := hI.1.len.out
    by_cases hk : k = 4
    · subst hk
      match vs, Fs, hlen, hkl with
      | [v0, v1, v2, v3], [F0, F1, F2, F3], _, _ =>
      obtain ⟨x0, e0, b0, t0⟩ := it_of_dec (hD 0 v0 F0 rfl rfl)
      obtain ⟨x1, e1, b1, t1⟩ := it_of_dec (hD 1 v1 F1 rfl rfl)
      obtain ⟨x2, e2, b2, t2⟩ := it_of_dec (hD 2 v2 F2 rfl rfl)
      obtain ⟨x3, e3, b3, t3⟩ := it_of_dec (hD 3 v3 F3 rfl rfl)
      subst e0 e1 e2 e3
      obtain ⟨g, off, rfl, hg, hc⟩ := hI.1.at0 (by omega)
      cases hl3 : x3.l with
      | true =>
        left
        refine ⟨fun f hf hfe => ?_, fun u hu => frameOf_no true none 0 0 (some ⟨g, off, none⟩) 4 cq u (by omega) (.inr (.inr ⟨g, off, rfl, by have := hu.size; omega, ?_⟩))⟩
        · have := (its_of_form t0 t1 t2 t3 hf (by omega) (hfe.trans e)).2.1
          rw [hl3] at this; cases this
        · obtain ⟨a, b, c, ea, q0, -, -⟩ := hc 3 x3.val rfl
          unfold It.val at ea
          cases ea
          rw [World.cell?_of_block (w := w) (hu.block g hg), ← hl3]; exact q0
      | false =>
        have hcall : ∀ u, Below w.heap.size w u → Calls Try.prog 29 #[.agg #[.bool true, .slice none 0 0, .slice (some ⟨g, off, none⟩) 4 cq]] u (FoPost [x0, x1, x2, x3] u) := fun u hu =>
          frameOf_four w.heap.size none 0 0 g off cq x0 x1 x2 x3 u (hI.1.below hu) hu.size (by
            intro x hx
            simp only [List.mem_cons, List.not_mem_nil, or_false] at hx
            rcases hx with rfl | rfl | rfl | rfl
            · exact b0.1.below hu
            · exact b1.1.below hu
            · exact b2.1.below hu
            · exact b3.1.below hu) hl3
        by_cases hg4 : Good4 [x0, x1, x2, x3]
        · right
          obtain ⟨y0, y1, y2, y3, m0, m1, m2, ey, r0, r1, r2, g1, g2⟩ := hg4
          cases ey
          obtain ⟨hform, hc0, hc1, hs0⟩ := form_of_its t0 t1 t2 t3 hl3 r0 r1 r2 g1 g2
          refine ⟨Fr.mk m0 m1 (m2 == 1) x3.sp x3.n x3.cap x3.bs, hform.trans e.symm, ⟨hc0, hc1, by show -9223372036854775808 ≤ m1; omega, by show m1 ≤ 9223372036854775807; omega, b3⟩, ⟨hs0, g1⟩, fun f hf hfe => ((its_of_form t0 t1 t2 t3 hf (by omega) (hfe.trans e)).2.2).symm, fun u hu => (hcall u hu).mono fun e' u' h => ?_⟩
          obtain ⟨hb, ⟨hno, -⟩ | ⟨z0, z1, z2, z3, p0, p1, p2, ez, s0, s1, s2, -, -, he⟩⟩ := h
          · exact absurd ⟨x0, x1, x2, x3, m0, m1, m2, rfl, r0, r1, r2, g1, g2⟩ hno
          · cases ez
            rw [r0] at s0; rw [r1] at s1; rw [r2] at s2
            cases s0; cases s1; cases s2
            exact ⟨he, hb⟩
        · left
          refine ⟨fun f hf hfe => hg4 (its_of_form t0 t1 t2 t3 hf (by omega) (hfe.trans e)).1, fun u hu => (hcall u hu).mono fun e' u' h => ?_⟩
          obtain ⟨hb, ⟨-, he⟩ | ⟨z0, z1, z2, z3, p0, p1, p2, ez, s0, s1, s2, k1, k2, he⟩⟩ := h
          · exact ⟨he, hb⟩
          · exact absurd ⟨z0, z1, z2, z3, p0, p1, p2, ez, s0, s1, s2, k1, k2⟩ hg4
    · left
      refine ⟨fun f hf hfe => ?_, fun u hu => frameOf_no true none 0 0 sq k cq u hI.1.small (.inr (.inl hk))⟩
      have := wf_parts hf.bts hf.len hfm (by omega) (e.symm.trans hfe.symm)
      have h4 : Fs.length = 4 := by rw [this]; rfl
      omega

set_option maxRecDepth 100000 in
set_option maxHeartbeats 1000000 in
theorem readF_any (N : Nat) (sp : Option Addr) (n cap : Nat) (L : List Int) (w : World) (hS : BS N w sp n cap L) : Calls Try.prog 10 #[.slice sp n cap] w (RPost L w) := by
  have hS0 := hS.here.below (alloc_bel' w (.cells #[.int .u64 0, .int .i64 0, .bool false, .slice none 0 0] 25))
  have A0 := Arr.new w 25 #[.int .u64 0, .int .i64 0, .bool false, .slice none 0 0]
  by_cases h0 : whole L = 0
  · have hL6 := whole_le h0
    replace h0 := Hid.mk' h0
    go_enter Try.func10, Try.ntmps10
    go_wp2_with (go_at_call 28; go_must (refine ((decode_any _ sp n cap L _ hS0).mono fun e w' h => dec_ok h h0.out).mono ?_; rintro e w2 ⟨l, s1, n1, c1, s2, n2, c2, rfl, hD2, hb2⟩; have hs2 := hb2.size; simp at hs2; have A2 := A0.below hb2 (by simp); have B2 := Arr.new w2 59 #[.bool l, .slice s1 n1 c1, .slice s2 n2 c2]))
    have hw2 : Below w.heap.size w w2 := (alloc_bel' w _).trans (hb2.mono (by simp))
    have hu2 : Below w2.heap.size w2 (w2.alloc (.cells #[.bool l, .slice s1 n1 c1, .slice s2 n2 c2] 59)) := alloc_bel' w2 _
    have A2' := A2.alloc (.cells #[.bool l, .slice s1 n1 c1, .slice s2 n2 c2] 59)
    rcases dec_frame hD2.out hL6 with ⟨hno, hc29⟩ | ⟨g, hform, hof, hsq, hbs, hc29⟩
    · replace hno := Hid.mk' hno
      have hc29 := hc29 _ hu2
      refine hc29.mono ?_
      rintro e w3 ⟨rfl, hb3⟩
      have hs3 := hb3.size
      simp at hs3
      have A3 := ((A2'.below hb3 (by simp; omega)).alloc (.cells #[.int .u64 0, .int .i64 0, .bool false, .slice none 0 0] 25)).setRowOther #[.int .u64 0, .int .i64 0, .bool false, .slice none 0 0] (show w.heap.size ≠ w3.heap.size by omega)
      have Z3 := Arr.new w3 25 #[.int .u64 0, .int .i64 0, .bool false, .slice none 0 0]
      go_wp2_with (first
        | (refine wpList_store_arr (by rfl) 25 (.tmp 6) (.tmp 20) (by rfl) w3.heap.size #[.int .u64 0, .int .i64 0, .bool false, .slice none 0 0] (by rfl) (by rfl) 25 _ Z3 size25F rfl (one4 _ _ _ _ _ _) ?_)
        | (refine wpList_store_arr (by rfl) 25 (.tmp 2) (.tmp 29) (by rfl) w.heap.size #[.int .u64 0, .int .i64 0, .bool false, .slice none 0 0] (by rfl) (by rfl) 25 _ A3 size25F rfl (one4 _ _ _ _ _ _) ?_))
      have hw3 : Below w.heap.size w w3 := (hw2.alloc (by omega) _).trans (hb3.mono (by simp; omega))
      exact bodyPost_ret (v := .tuple #[.agg #[.int .u64 0, .int .i64 0, .bool false, .slice none 0 0], .int .i64 8]) (resR rfl rfl (A3.setRow _)) rfl ⟨below_row (below_row (hw3.alloc (by omega) _) (by omega) _) (Nat.le_refl _) _, .inl ⟨hno.out, 8, by decide, by rw [if_pos h0.out], rfl⟩⟩
    · have hok := hof.ok
      have hc29 := hc29 _ hu2
      refine hc29.mono ?_
      rintro e w3 ⟨rfl, hb3⟩
      have hs3 := hb3.size
      simp at hs3
      have hw3 : Below w.heap.size w w3 := (hw2.alloc (by omega) _).trans (hb3.mono (by simp; omega))
      have A3 := ((A2'.below hb3 (by simp; omega)).alloc (.cells #[.int .u64 0, .int .i64 0, .bool false, .slice none 0 0] 25)).setRowOther #[.int .u64 g.ch, .int .i64 g.seq, .bool g.last, .slice g.sp g.n g.cap] (show w.heap.size ≠ w3.heap.size by omega)
      have Z3 := Arr.new w3 25 #[.int .u64 0, .int .i64 0, .bool false, .slice none 0 0]
      have X3 := Z3.setRow #[.int .u64 g.ch, .int .i64 g.seq, .bool g.last, .slice g.sp g.n g.cap]
      have y0 := X3.cell 0
      have y1 := X3.cell 1
      have y2 := X3.cell 2
      have y3 := X3.cell 3
      simp at y0 y1 y2 y3
      have hgn := hok.body.len
      have hgsm := hok.body.small
      have hU3 : Below w2.heap.size w2 ((w3.alloc (.cells #[.int .u64 0, .int .i64 0, .bool false, .slice none 0 0] 25)).setRow w3.heap.size #[.int .u64 g.ch, .int .i64 g.seq, .bool g.last, .slice g.sp g.n g.cap]) := below_row (((hu2.trans (hb3.mono (by simp))).alloc (by omega) _)) (by omega) _
      have hUw : Below w.heap.size w ((w3.alloc (.cells #[.int .u64 0, .int .i64 0, .bool false, .slice none 0 0] 25)).setRow w3.heap.size #[.int .u64 g.ch, .int .i64 g.seq, .bool g.last, .slice g.sp g.n g.cap]) := below_row (hw3.alloc (by omega) _) (by omega) _
      have hszU : ((w3.alloc (.cells #[.int .u64 0, .int .i64 0, .bool false, .slice none 0 0] 25)).setRow w3.heap.size #[.int .u64 g.ch, .int .i64 g.seq, .bool g.last, .slice g.sp g.n g.cap]).heap.size = w3.heap.size + 1 := by simp
      have hmay := may_any g ((w3.alloc (.cells #[.int .u64 0, .int .i64 0, .bool false, .slice none 0 0] 25)).setRow w3.heap.size #[.int .u64 g.ch, .int .i64 g.seq, .bool g.last, .slice g.sp g.n g.cap]) hgsm
      cases hm : g.may with
      | false =>
        rw [hm] at hmay
        have hno : Hid (∀ f, FrR f → f.form ≠ L) := Hid.mk' (fun f hf hfe => by
          have h1 := hbs f hf hfe
          have h2 := hf.len
          rw [h1, ← hgn.out] at h2
          have : g.may = true := (Fr.may_iff g).2 ⟨hsq.1, hsq.2, h2⟩
          rw [hm] at this; cases this)
        go_wp2_with (first
          | (refine wpList_store_arr (by rfl) 25 (.tmp 6) (.tmp 20) (by rfl) w3.heap.size #[.int .u64 g.ch, .int .i64 g.seq, .bool g.last, .slice g.sp g.n g.cap] (by rfl) (by rfl) 25 _ Z3 size25F rfl (one4 _ _ _ _ _ _) ?_)
          | (go_at_call 23; go_must (refine hmay.mono ?_; rintro e w4 ⟨rfl, hb4⟩; have hs4 := hb4.size; rw [hszU] at hs4; have A4 := A3.below hb4 (by rw [hszU]; omega)))
          | (refine wpList_store_arr (by rfl) 25 (.tmp 2) (.tmp 29) (by rfl) w.heap.size #[.int .u64 0, .int .i64 0, .bool false, .slice none 0 0] (by rfl) (by rfl) 25 _ A4 size25F rfl (one4 _ _ _ _ _ _) ?_))
        exact bodyPost_ret (v := .tuple #[.agg #[.int .u64 0, .int .i64 0, .bool false, .slice none 0 0], .int .i64 8]) (resR rfl rfl (A4.setRow _)) rfl ⟨below_row (hUw.trans (hb4.mono (by rw [hszU]; omega))) (Nat.le_refl _) _, .inl ⟨hno.out, 8, by decide, by rw [if_pos h0.out], rfl⟩⟩
      | true =>
        rw [hm] at hmay
        have h4096 := ((Fr.may_iff g).1 hm).2.2
        go_wp2_with (first
          | (refine wpList_store_arr (by rfl) 25 (.tmp 6) (.tmp 20) (by rfl) w3.heap.size #[.int .u64 g.ch, .int .i64 g.seq, .bool g.last, .slice g.sp g.n g.cap] (by rfl) (by rfl) 25 _ Z3 size25F rfl (one4 _ _ _ _ _ _) ?_)
          | (go_at_call 23; go_must (refine hmay.mono ?_; rintro e w4 ⟨rfl, hb4⟩; have hs4 := hb4.size; rw [hszU] at hs4; have A4 := A3.below hb4 (by rw [hszU]; omega); have X4 := X3.below hb4 (by rw [hszU]; omega); have x0 := X4.cell 0; have x1 := X4.cell 1; have x2 := X4.cell 2; have x3 := X4.cell 3; simp at x0 x1 x2 x3))
          | (refine wpList_store_arr (by rfl) 25 (.tmp 2) (.tmp 30) (by rfl) w.heap.size #[.int .u64 g.ch, .int .i64 g.seq, .bool g.last, .slice g.sp g.n g.cap] (by rfl) (by rfl) 25 _ A4 size25F rfl (one4 _ _ _ _ _ _) ?_))
        refine bodyPost_ret (v := .tuple #[g.val, .int .i64 0]) (resR rfl rfl (A4.setRow _)) rfl ⟨below_row (hUw.trans (hb4.mono (by rw [hszU]; omega))) (Nat.le_refl _) _, .inr ⟨g, rfl, ?_, ⟨hok.body.bts, by rw [← hgn.out]; exact h4096, hok.ch0, hok.ch1, hsq.1, hsq.2⟩, hm, hform⟩⟩
        refine (hof.agree ⟨by simp; omega, fun b hb hSb => ?_⟩).ok
        simp at hSb
        rw [setRow_other _ _ _ _ (by omega), hb4.block b (by rw [hszU]; omega), hU3.block b hb]
  · obtain ⟨c, hc⟩ : ∃ c, whole L = c := ⟨_, rfl⟩
    have hne : (c != 0) = true := by rw [← hc]; simpa using h0
    have hcn : c ≠ 0 := by rw [← hc]; exact h0
    have hno : Hid (∀ f, FrR f → f.form ≠ L) := Hid.mk' (fun f hf e => h0 (by rw [← e]; exact wf_whole hf.bts hf.len))
    replace h0 := Hid.mk' h0
    replace hc := Hid.mk' hc
    go_enter Try.func10, Try.ntmps10
    go_wp2_with (first
      | (go_at_call 28; go_must (refine ((decode_any _ sp n cap L _ hS0).mono fun e w' h => dec_bad h h0.out c hc.out).mono ?_; rintro e w2 ⟨rfl, hb2⟩; have hs2 := hb2.size; simp at hs2; have A2 := (A0.below hb2 (by simp)).alloc (.cells #[.bool false, .slice none 0 0, .slice none 0 0] 59)))
      | (refine wpList_store_arr (by rfl) 25 (.tmp 2) (.tmp 15) (by rfl) w.heap.size #[.int .u64 0, .int .i64 0, .bool false, .slice none 0 0] (by rfl) (by rfl) 25 _ A2 size25F rfl (one4 _ _ _ _ _ _) ?_))
    exact bodyPost_ret (v := .tuple #[.agg #[.int .u64 0, .int .i64 0, .bool false, .slice none 0 0], .int .i64 c]) (resR rfl rfl (A2.setRow _)) rfl ⟨below_row (((alloc_bel' w _).trans (hb2.mono (by simp))).alloc (by omega) _) (Nat.le_refl _) _, .inl ⟨hno.out, c, hcn, by rw [if_neg h0.out, hc.out], rfl⟩⟩
end Go.Proofs.Ytbjlmekafnpllab
