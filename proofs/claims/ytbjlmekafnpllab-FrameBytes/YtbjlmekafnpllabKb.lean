/- Layer frame, the document's answer: Read. -/
import Derived.Test.YtbjlmekafnpllabKa
import Derived.Test.YtbjlmekafnpllabJf
import Derived.Test.YtbjlmekafnpllabTd
namespace Go.Proofs.Ytbjlmekafnpllab
open Go.RowKit
set_option linter.unusedVariables false
set_option linter.unusedSimpArgs false

theorem resRR {w : World} {tmps : Array Value} {g : Nat} {a b c d v : Value} (hp : tmps.getD 2 undef = .pointer (some ⟨g, 0, none⟩)) (he : tmps.getD 3 undef = v) (hA : Arr w g 25 #[a, b, c, d]) :
    (results Try.f11 tmps).run Try.prog w = .ok (.tuple #[.agg #[a, b, c, d], v]) w := by
  have c0 := hA.cell 0
  have c1 := hA.cell 1
  have c2 := hA.cell 2
  have c3 := hA.cell 3
  simp at c0 c1 c2 c3
  have hp' : tmps[2]?.getD undef = .pointer (some ⟨g, 0, none⟩) := by simpa using hp
  have he' : tmps[3]?.getD undef = v := by simpa using he
  simp [results, Try.results11, go_sem, hp', he', c0, c1, c2, c3]

theorem no25 (j : Nat) (k : Int) : (#[.int .u64 0, .int .i64 0, .bool false, .slice none 0 0] : Array Value)[j]? ≠ some (.int .u8 k) := by
  match j with
  | 0 => simp
  | 1 => simp
  | 2 => simp
  | 3 => simp
  | j + 4 => simp
theorem rwr_ok {f : Fr} {N : Nat} {w : World} (hf : FrOK N w f) (hN : N ≤ w.heap.size) (hm : f.may = true) :
    Calls Try.prog 9 #[.agg #[.int .u64 f.ch, .int .i64 f.seq, .bool f.last, .slice f.sp f.n f.cap]] w fun e w' => ∃ sp n cap, e = .returned (.tuple #[.slice sp n cap, .int .i64 0]) ∧ Hid (BS w'.heap.size w' sp n cap f.form) ∧ Below w.heap.size w w' := by
  refine (refWrite_any f N w hf hN).mono ?_
  rintro e w' ⟨hb, ⟨hno, -⟩ | ⟨-, v, he, hown⟩⟩
  · rw [hm] at hno; cases hno
  · have hr := hf.r hm
    have hl := (wf4_len f.ch.toNat f.seq.toNat (tn f.last) f.bs).2
    have hl2 := hr.len
    obtain ⟨sp, cap, rfl, hB, -⟩ := own_bs hown (wf_fm hr.bts).bts (by unfold Fr.form; omega)
    exact ⟨sp, _, cap, he, Hid.mk' hB, hb⟩
theorem rwr_no {f : Fr} {N : Nat} {w : World} (hf : FrOK N w f) (hN : N ≤ w.heap.size) (hm : f.may = false) :
    Calls Try.prog 9 #[.agg #[.int .u64 f.ch, .int .i64 f.seq, .bool f.last, .slice f.sp f.n f.cap]] w fun e w' => e = .returned (.tuple #[.slice none 0 0, .int .i64 2]) ∧ Below w.heap.size w w' := by
  refine (refWrite_any f N w hf hN).mono ?_
  rintro e w' ⟨hb, ⟨-, he⟩ | ⟨hy, -⟩⟩
  · exact ⟨he, hb⟩
  · rw [hm] at hy; cases hy
set_option maxRecDepth 100000 in
set_option maxHeartbeats 2000000 in
theorem refRead_any (N : Nat) (sp : Option Addr) (n cap : Nat) (L : List Int) (w : World) (hS : BS N w sp n cap L) : Calls Try.prog 11 #[.slice sp n cap] w (RPost L w) := by
  have hS := hS.here
  have hS0 := hS.below (alloc_bel' w (.cells #[.int .u64 0, .int .i64 0, .bool false, .slice none 0 0] 25))
  have A0 := Arr.new w 25 #[.int .u64 0, .int .i64 0, .bool false, .slice none 0 0]
  by_cases h0 : whole L = 0
  · have hL6 := whole_le h0
    replace h0 := Hid.mk' h0
    go_enter Try.func11, Try.ntmps11
    go_wp2_with fail
    go_at_call 30
    refine ((refDecode_any _ sp n cap L _ hS0).mono fun e w' h => dec_ok h h0.out).mono ?_
    rintro e w2 ⟨l, s1, n1, c1, s2, n2, c2, rfl, hD2, hb2⟩
    have hs2 := hb2.size
    simp at hs2
    have A2 := A0.below hb2 (by simp)
    have hw2 : Below w.heap.size w w2 := (alloc_bel' w _).trans (hb2.mono (by simp))
    have hu2 : Below w2.heap.size w2 (w2.alloc (.cells #[.bool l, .slice s1 n1 c1, .slice s2 n2 c2] 59)) := alloc_bel' w2 _
    have hwu : Below w.heap.size w (w2.alloc (.cells #[.bool l, .slice s1 n1 c1, .slice s2 n2 c2] 59)) := hw2.alloc (by omega) _
    have A2' := A2.alloc (.cells #[.bool l, .slice s1 n1 c1, .slice s2 n2 c2] 59)
    have X2 := Arr.new w2 59 #[.bool l, .slice s1 n1 c1, .slice s2 n2 c2]
    rcases hD2.out with ⟨sp', n', cap', bs, e1, hB, e⟩ | ⟨sq, k, cq, vs, Fs, e1, hI, hlen, hD, e⟩
    · cases e1
      have hno : Hid (∀ f, FrR f → f.form ≠ L) := Hid.mk' (fun f hf hfe => by
        have h1 := (wrap_len false bs).1
        rw [← e] at h1
        have h2 := (wf4_len f.ch.toNat f.seq.toNat (tn f.last) f.bs).1
        have h3 := hf.len
        have := (wrap_inj (l := true) (l' := false) (flat_bts (wf4_fm 15 f.ch.toNat f.seq.toNat (tn f.last) hf.bts)) hB.1.bts (by omega) (by omega) (show wf f.ch.toNat f.seq.toNat (tn f.last) f.bs = wrap false bs from hfe.trans e)).1
        cases this)
      clear e hB hD2
      go_wp2_with (refine wpList_store_arr (by rfl) 25 _ _ (by rfl) w.heap.size #[.int .u64 0, .int .i64 0, .bool false, .slice none 0 0] (by rfl) (by rfl) 25 _ A2' size25F rfl (one4 _ _ _ _ _ _) ?_)
      exact bodyPost_ret (v := .tuple #[.agg #[.int .u64 0, .int .i64 0, .bool false, .slice none 0 0], .int .i64 8]) (resRR rfl rfl (A2'.setRow _)) rfl ⟨below_row (hwu) (Nat.le_refl _) _, .inl ⟨hno.out, 8, by decide, by rw [if_pos h0.out], rfl⟩⟩
    · cases e1
      have hfm : ∀ F ∈ Fs, Fm 15 F := fun F hF => by
        obtain ⟨i, hi⟩ := List.mem_iff_getElem?.1 hF
        have hil := (List.getElem?_eq_some_iff.1 hi).1
        exact (hD i _ F (List.getElem?_eq_getElem (by omega)) hi).is.fm
      have hfl := (wrap_len true Fs.flatten).1
      rw [← e] at hfl
      have hkl := hI.1.len.out
      have hksm := hI.1.small
      by_cases hk : n2 = 4
      · subst hk
        match vs, Fs, hlen, hkl with
        | [v0, v1, v2, v3], [F0, F1, F2, F3], _, _ =>
        obtain ⟨x0, e0, b0, t0⟩ := it_of_dec (hD 0 v0 F0 rfl rfl)
        obtain ⟨x1, e1, b1, t1⟩ := it_of_dec (hD 1 v1 F1 rfl rfl)
        obtain ⟨x2, e2, b2, t2⟩ := it_of_dec (hD 2 v2 F2 rfl rfl)
        obtain ⟨x3, e3, b3, t3⟩ := it_of_dec (hD 3 v3 F3 rfl rfl)
        subst e0 e1 e2 e3
        obtain ⟨g, off, rfl, hg, hc⟩ := hI.1.at0 (by omega)
        have hcl : ∀ (j : Nat) (x : It) (u : World), [x0, x1, x2, x3][j]? = some x → Below w2.heap.size w2 u → u.cell? ⟨g, off + j * 3, none⟩ = some (.bool x.l) ∧ u.cell? ⟨g, off + j * 3 + 1, none⟩ = some (.slice x.sp x.n x.cap) ∧ u.cell? ⟨g, off + j * 3 + 2, none⟩ = some (.slice x.sq x.k x.cq) := fun j x u hx hu => by
          obtain ⟨a, b, c, e3, q0, q1, q2⟩ := hc j x.val (by
            match j, hx with
            | 0, hx => cases hx; rfl
            | 1, hx => cases hx; rfl
            | 2, hx => cases hx; rfl
            | 3, hx => cases hx; rfl)
          unfold It.val at e3
          cases e3
          rw [Nat.mul_comm] at q0 q1 q2
          refine ⟨?_, ?_, ?_⟩ <;> (rw [World.cell?_of_block (w := w2) (hu.block g (by omega))]; assumption)
        have hB4 : ∀ x ∈ [x0, x1, x2, x3], BS w2.heap.size w2 x.sp x.n x.cap x.bs := by
          intro x hx
          simp only [List.mem_cons, List.not_mem_nil, or_false] at hx
          rcases hx with rfl | rfl | rfl | rfl
          · exact b0.1.here
          · exact b1.1.here
          · exact b2.1.here
          · exact b3.1.here
        have hfits : ∀ f, FrR f → f.form = L → Good4 [x0, x1, x2, x3] ∧ x3.l = false ∧ x3.bs = f.bs := fun f hf hfe => its_of_form t0 t1 t2 t3 hf (by omega) (hfe.trans e)
        have hmake : ∀ m0 m1 m2, x3.l = false → x0.r = (m0, 0) → x1.r = (m1, 0) → x2.r = (m2, 0) → m1 < 1024 → m2 ≤ 1 → (Fr.mk m0 m1 (m2 == 1) x3.sp x3.n x3.cap x3.bs).form = L := fun m0 m1 m2 hl3 r0 r1 r2 g1 g2 => (form_of_its t0 t1 t2 t3 hl3 r0 r1 r2 g1 g2).1.trans e.symm
        have hof3 := b3
        replace hcl := Hid.mk' hcl
        replace hB4 := Hid.mk' hB4
        replace hfits := Hid.mk' hfits
        replace hmake := Hid.mk' hmake
        replace hof3 := Hid.mk' hof3
        clear hc hI hD hD2 e hfl hkl hfm b0 b1 b2 b3 t0 t1 t2 t3 hlen
        have R0 := X2.alloc (.cells #[.int .u64 0, .int .u64 0, .int .u64 0] 69)
        have R1 := A2'.alloc (.cells #[.int .u64 0, .int .u64 0, .int .u64 0] 69)
        have R2 := Arr.new (w2.alloc (.cells #[.bool true, .slice none 0 0, .slice (some ⟨g, off, none⟩) 4 c2] 59)) 69 #[.int .u64 0, .int .u64 0, .int .u64 0]
        rw [World.size_alloc] at R2
        have hbU : Below w2.heap.size w2 ((w2.alloc (.cells #[.bool true, .slice none 0 0, .slice (some ⟨g, off, none⟩) 4 c2] 59)).alloc (.cells #[.int .u64 0, .int .u64 0, .int .u64 0] 69)) := hu2.alloc (by simp) _
        go_wp2_with fail
        go_loopw [7] (fun d wr => ∃ (i : Nat) (C : Array Value), d = .int .i64 (i : Int) ∧ i ≤ 3 ∧ Below w2.heap.size w2 wr ∧ Below w.heap.size w wr ∧ w2.heap.size + 2 ≤ wr.heap.size ∧ Arr wr w2.heap.size 59 #[.bool true, .slice none 0 0, .slice (some ⟨g, off, none⟩) 4 c2] ∧ Arr wr w.heap.size 25 #[.int .u64 0, .int .i64 0, .bool false, .slice none 0 0] ∧ Arr wr (w2.heap.size + 1) 69 C ∧ Hid (C.size = 3) ∧ Hid (∀ j x, j < i → [x0, x1, x2, x3][j]? = some x → ∃ m, x.r = (m, 0) ∧ C[j]? = some (.int .u64 m)))
          (fun d _ => 3 - (intOf d).toNat)
        case atStart => exact ⟨0, _, rfl, by omega, hbU, hwu.alloc (by simp; omega) _, by simp, R0, R1, R2, Hid.mk' rfl, Hid.mk' (fun j x hj => by omega)⟩
        case round =>
          clear R0 R1 R2 hbU A2 A2' X2 hu2 hwu A0 hS0
          obtain ⟨i, C, rfl, hi, hbl, hwl, hsz, R0, R1, R2, hC, hnum⟩ := hrel
          have z2 := R0.cell 2
          simp at z2
          by_cases hlt : i < 3
          · have hI : (i : Int) < 3 := by omega
            have hI4 : (i : Int) < 4 := by omega
            obtain ⟨x, hx⟩ : ∃ x, [x0, x1, x2, x3][i]? = some x := ⟨[x0, x1, x2, x3][i]'(by simp; omega), List.getElem?_eq_getElem _⟩
            obtain ⟨q0, q1, q2⟩ := hcl.out i x _ hx hbl
            have hBx := (hB4.out x (List.mem_of_getElem? hx)).below hbl
            have hrd := refReadNum_any x.l x.sp x.n x.cap x.sq x.k x.cq x.bs _ wr hBx
            by_cases hr : x.r.2 = 0
            · obtain ⟨m, hm⟩ : ∃ m, x.r = (m, 0) := ⟨x.r.1, by rw [← hr]⟩
              have hrd : Calls Try.prog 31 #[.agg #[.bool x.l, .slice x.sp x.n x.cap, .slice x.sq x.k x.cq]] wr fun e w' => e = .returned (.tuple #[.int .u64 m, .int .i64 0]) ∧ Below wr.heap.size wr w' := by
                have h := hrd
                rw [show rnum x.l x.k x.bs = (m, 0) from hm] at h
                exact h
              clear hr
              replace hm := Hid.mk' hm
              obtain ⟨old, hold⟩ : ∃ u, wr.cell? ⟨w2.heap.size + 1, i, none⟩ = some u := ⟨C[i]'(by rw [hC.out]; exact hlt), by rw [R2.cell, Array.getElem?_eq_getElem]⟩
              go_wp2_with (go_at_call 31; go_must (refine hrd.mono ?_; rintro e w4 ⟨rfl, hb4⟩; have hs4 := hb4.size; have S0 := R0.below hb4 (by omega); have S1 := R1.below hb4 (by omega); have S2 := R2.below hb4 (by omega); have hfz := S2.frozen i; have hcc : w4.cell? ⟨w2.heap.size + 1, i, none⟩ = some old := (by rw [World.cell?_of_block (w := wr) (hb4.block (w2.heap.size + 1) (by omega))]; exact hold)))
              go_roundw
              case rel =>
                refine ⟨i + 1, _, by go_num, by omega, (hbl.trans (hb4.mono (by omega))).setCell (p := ⟨w2.heap.size + 1, i, none⟩) (by show w2.heap.size ≤ w2.heap.size + 1; omega) _, (hwl.trans (hb4.mono (by omega))).setCell (p := ⟨w2.heap.size + 1, i, none⟩) (by show w.heap.size ≤ w2.heap.size + 1; omega) _, by simp [World.setCell]; omega, S0.setOther (a := ⟨w2.heap.size + 1, i, none⟩) _ (by show w2.heap.size ≠ w2.heap.size + 1; omega), S1.setOther (a := ⟨w2.heap.size + 1, i, none⟩) _ (by show w.heap.size ≠ w2.heap.size + 1; omega), S2.set i _, Hid.mk' (by simpa using hC.out), Hid.mk' (fun j y hj hy => ?_)⟩
                by_cases hji : j = i
                · subst hji
                  rw [hx] at hy; cases hy
                  exact ⟨m, hm.out, by simp [hC.out, hlt]⟩
                · obtain ⟨m', h1, h2⟩ := hnum.out j y (by omega) hy
                  exact ⟨m', h1, by rw [Array.getElem?_setIfInBounds_ne (by omega)]; exact h2⟩
              case measure => simp [intOf]; omega
            · have hrd : Calls Try.prog 31 #[.agg #[.bool x.l, .slice x.sp x.n x.cap, .slice x.sq x.k x.cq]] wr fun e w' => e = .returned (.tuple #[.int .u64 0, .int .i64 8]) ∧ Below wr.heap.size wr w' := by
                have h := hrd
                rw [rnum_bad (show ¬ (rnum x.l x.k x.bs).2 = 0 from hr)] at h
                exact h
              have hno : Hid (∀ f, FrR f → f.form ≠ L) := Hid.mk' (fun f hf hfe => by
                obtain ⟨y0, y1, y2, y3, m0, m1, m2, e, r0, r1, r2, -⟩ := (hfits.out f hf hfe).1
                cases e
                apply hr
                match i, hlt, hx with
                | 0, _, hx => cases hx; rw [r0]
                | 1, _, hx => cases hx; rw [r1]
                | 2, _, hx => cases hx; rw [r2])
              clear hr
              go_wp2_with (first
                | (go_at_call 31; go_must (refine hrd.mono ?_; rintro e w4 ⟨rfl, hb4⟩; have hs4 := hb4.size; have S1 := R1.below hb4 (by omega)))
                | (refine wpList_store_arr (by rfl) 25 _ _ (by rfl) w.heap.size #[.int .u64 0, .int .i64 0, .bool false, .slice none 0 0] (by rfl) (by rfl) 25 _ S1 size25F rfl (one4 _ _ _ _ _ _) ?_))
              exact bodyPost_ret (v := .tuple #[.agg #[.int .u64 0, .int .i64 0, .bool false, .slice none 0 0], .int .i64 8]) (resRR rfl rfl (S1.setRow _)) rfl ⟨below_row (hwl.trans (hb4.mono (by omega))) (Nat.le_refl _) _, .inl ⟨hno.out, 8, by decide, by rw [if_pos h0.out], rfl⟩⟩
          · obtain rfl : i = 3 := by omega
            obtain ⟨m0, r0, n0⟩ := hnum.out 0 x0 (by omega) rfl
            obtain ⟨m1, r1, n1⟩ := hnum.out 1 x1 (by omega) rfl
            obtain ⟨m2, r2, n2⟩ := hnum.out 2 x2 (by omega) rfl
            obtain ⟨q0, q1, q2⟩ := hcl.out 3 x3 _ rfl hbl
            simp only [Nat.reduceMul] at q0 q1 q2
            have b0 := (rnum_ok (hB4.out x0 (by simp)).bts r0).2.2
            have b1 := (rnum_ok (hB4.out x1 (by simp)).bts r1).2.2
            have b2 := (rnum_ok (hB4.out x2 (by simp)).bts r2).2.2
            obtain ⟨k0, rfl, hk0, -⟩ := b0
            obtain ⟨k1, rfl, hk1, -⟩ := b1
            obtain ⟨k2, rfl, hk2, -⟩ := b2
            replace r0 := Hid.mk' r0
            replace r1 := Hid.mk' r1
            replace r2 := Hid.mk' r2
            have v0 := (R2.cell 0).trans n0
            have v1 := (R2.cell 1).trans n1
            have v2 := (R2.cell 2).trans n2
            by_cases g1 : (k1 : Int) < 1024
            · by_cases g2 : (k2 : Int) ≤ 1
              · have hwk : IntKind.i64.wrap (k1 : Int) = k1 := by rw [IntKind.wrap_i64]; omega
                have gn1 : ¬ (1024 : Int) ≤ k1 := by omega
                have gn2 : ¬ (1 : Int) < k2 := by omega
                go_wp2_with fail
                refine wp_region_held_drew (S := fun u => Below wr.heap.size wr u) (by kernel_rfl) ((Below.refl _ _).drew) (fun hHeld => ?_)
                refine wpAnyH_take (i := 0) (oi := ⟨_, _, _, _, _, _⟩) (v := ?_) rfl (by kernel_rfl) (by kernel_rfl) (by kernel_rfl) (fun _ _ _ h => h) (Or.inl ⟨by rfl, ?_⟩) (by assumption) ?_
                rotate_left
                · intro u hSw
                  go_simp
                  try (with_reducible rfl)
                try simp only [Act.put, List.setIfInBounds_toArray, List.set_cons_zero, List.set_cons_succ]
                refine wpAnyH_take (i := 1) (oi := ⟨_, _, _, _, _, _⟩) (v := ?_) rfl (by kernel_rfl) (by kernel_rfl) (by kernel_rfl) (fun _ _ _ h => h) (Or.inl ⟨by rfl, ?_⟩) (by assumption) ?_
                rotate_left
                · intro u hSw
                  have Ru := R2.below hSw (by omega)
                  have R0u := R0.below hSw (by omega)
                  have u0 := (Ru.cell 0).trans n0
                  have u1 := (Ru.cell 1).trans n1
                  have u2 := (Ru.cell 2).trans n2
                  have u4 := R0u.cell 2
                  obtain ⟨p0, p1, p2⟩ := hcl.out 3 x3 _ rfl (hbl.trans (hSw.mono (by omega)))
                  simp only [Nat.reduceMul] at p0 p1 p2
                  simp at u4
                  go_simp
                  try (with_reducible rfl)
                try simp only [Act.put, List.setIfInBounds_toArray, List.set_cons_zero, List.set_cons_succ]
                refine wpAnyH_take (i := 2) (oi := ⟨_, _, _, _, _, _⟩) (v := ?_) rfl (by kernel_rfl) (by kernel_rfl) (by kernel_rfl) (fun _ _ _ h => h) (Or.inl ⟨by rfl, ?_⟩) (by assumption) ?_
                rotate_left
                · intro u hSw
                  go_simp
                  try (with_reducible rfl)
                try simp only [Act.put, List.setIfInBounds_toArray, List.set_cons_zero, List.set_cons_succ]
                refine wpAnyH_take (i := 3) (oi := ⟨_, _, _, _, _, _⟩) (v := ?_) rfl (by kernel_rfl) (by kernel_rfl) (by kernel_rfl) (fun _ _ _ h => h) (Or.inl ⟨by rfl, ?_⟩) (by assumption) ?_
                rotate_left
                · intro u hSw
                  have Ru := R2.below hSw (by omega)
                  have R0u := R0.below hSw (by omega)
                  have u0 := (Ru.cell 0).trans n0
                  have u1 := (Ru.cell 1).trans n1
                  have u2 := (Ru.cell 2).trans n2
                  have u4 := R0u.cell 2
                  obtain ⟨p0, p1, p2⟩ := hcl.out 3 x3 _ rfl (hbl.trans (hSw.mono (by omega)))
                  simp only [Nat.reduceMul] at p0 p1 p2
                  simp at u4
                  go_simp
                  try (with_reducible rfl)
                try simp only [Act.put, List.setIfInBounds_toArray, List.set_cons_zero, List.set_cons_succ]
                refine wpAnyH_take (i := 4) (oi := ⟨_, _, _, _, _, _⟩) (v := ?_) rfl (by kernel_rfl) (by kernel_rfl) (by kernel_rfl) (fun _ _ _ h => h) (Or.inl ⟨by rfl, ?_⟩) (by assumption) ?_
                rotate_left
                · intro u hSw
                  go_simp
                  try (with_reducible rfl)
                try simp only [Act.put, List.setIfInBounds_toArray, List.set_cons_zero, List.set_cons_succ]
                refine wpAnyH_take (i := 5) (oi := ⟨_, _, _, _, _, _⟩) (v := ?_) rfl (by kernel_rfl) (by kernel_rfl) (by kernel_rfl) (fun _ _ _ h => h) (Or.inl ⟨by rfl, ?_⟩) (by assumption) ?_
                rotate_left
                · intro u hSw
                  go_simp
                  try (with_reducible rfl)
                try simp only [Act.put, List.setIfInBounds_toArray, List.set_cons_zero, List.set_cons_succ]
                refine wpAnyH_take (i := 6) (oi := ⟨_, _, _, _, _, _⟩) (v := ?_) rfl (by kernel_rfl) (by kernel_rfl) (by kernel_rfl) (fun _ _ _ h => h) (Or.inl ⟨by rfl, ?_⟩) (by assumption) ?_
                rotate_left
                · intro u hSw
                  have Ru := R2.below hSw (by omega)
                  have R0u := R0.below hSw (by omega)
                  have u0 := (Ru.cell 0).trans n0
                  have u1 := (Ru.cell 1).trans n1
                  have u2 := (Ru.cell 2).trans n2
                  have u4 := R0u.cell 2
                  obtain ⟨p0, p1, p2⟩ := hcl.out 3 x3 _ rfl (hbl.trans (hSw.mono (by omega)))
                  simp only [Nat.reduceMul] at p0 p1 p2
                  simp at u4
                  go_simp
                  try (with_reducible rfl)
                try simp only [Act.put, List.setIfInBounds_toArray, List.set_cons_zero, List.set_cons_succ]
                refine wpAnyH_take (i := 7) (oi := ⟨_, _, _, _, _, _⟩) (v := ?_) rfl (by kernel_rfl) (by kernel_rfl) (by kernel_rfl) (fun _ _ _ h => h) (Or.inl ⟨by rfl, ?_⟩) (by assumption) ?_
                rotate_left
                · intro u hSw
                  go_simp
                  try (with_reducible rfl)
                try simp only [Act.put, List.setIfInBounds_toArray, List.set_cons_zero, List.set_cons_succ]
                refine wpAnyH_take (i := 8) (oi := ⟨_, _, _, _, _, _⟩) (v := ?_) rfl (by kernel_rfl) (by kernel_rfl) (by kernel_rfl) (fun _ _ _ h => h) (Or.inl ⟨by rfl, ?_⟩) (by assumption) ?_
                rotate_left
                · intro u hSw
                  go_simp
                  try (with_reducible rfl)
                try simp only [Act.put, List.setIfInBounds_toArray, List.set_cons_zero, List.set_cons_succ]
                refine wpAnyH_take (i := 9) (oi := ⟨_, _, _, _, _, _⟩) (v := ?_) rfl (by kernel_rfl) (by kernel_rfl) (by kernel_rfl) (fun _ _ _ h => h) (Or.inl ⟨by rfl, ?_⟩) (by assumption) ?_
                rotate_left
                · intro u hSw
                  have Ru := R2.below hSw (by omega)
                  have R0u := R0.below hSw (by omega)
                  have u0 := (Ru.cell 0).trans n0
                  have u1 := (Ru.cell 1).trans n1
                  have u2 := (Ru.cell 2).trans n2
                  have u4 := R0u.cell 2
                  obtain ⟨p0, p1, p2⟩ := hcl.out 3 x3 _ rfl (hbl.trans (hSw.mono (by omega)))
                  simp only [Nat.reduceMul] at p0 p1 p2
                  simp at u4
                  go_simp
                  try (with_reducible rfl)
                try simp only [Act.put, List.setIfInBounds_toArray, List.set_cons_zero, List.set_cons_succ]
                refine wpAnyH_take (i := 10) (oi := ⟨_, _, _, _, _, _⟩) (v := ?_) rfl (by kernel_rfl) (by kernel_rfl) (by kernel_rfl) (fun _ _ _ h => h) (Or.inl ⟨by rfl, ?_⟩) (by assumption) ?_
                rotate_left
                · intro u hSw
                  go_simp
                  try (with_reducible rfl)
                try simp only [Act.put, List.setIfInBounds_toArray, List.set_cons_zero, List.set_cons_succ]
                refine wpAnyH_take (i := 11) (oi := ⟨_, _, _, _, _, _⟩) (v := ?_) rfl (by kernel_rfl) (by kernel_rfl) (by kernel_rfl) (fun _ _ _ h => h) (Or.inl ⟨by rfl, ?_⟩) (by assumption) ?_
                rotate_left
                · intro u hSw
                  go_simp
                  try (with_reducible rfl)
                try simp only [Act.put, List.setIfInBounds_toArray, List.set_cons_zero, List.set_cons_succ]
                refine wpAnyH_take (i := 12) (oi := ⟨_, _, _, _, _, _⟩) (v := ?_) rfl (by kernel_rfl) (by kernel_rfl) (by kernel_rfl) (fun _ _ _ h => h) (Or.inl ⟨by rfl, ?_⟩) (by assumption) ?_
                rotate_left
                · intro u hSw
                  have Ru := R2.below hSw (by omega)
                  have R0u := R0.below hSw (by omega)
                  have u0 := (Ru.cell 0).trans n0
                  have u1 := (Ru.cell 1).trans n1
                  have u2 := (Ru.cell 2).trans n2
                  have u4 := R0u.cell 2
                  obtain ⟨p0, p1, p2⟩ := hcl.out 3 x3 _ rfl (hbl.trans (hSw.mono (by omega)))
                  simp only [Nat.reduceMul] at p0 p1 p2
                  simp at u4
                  go_simp
                  try (with_reducible rfl)
                try simp only [Act.put, List.setIfInBounds_toArray, List.set_cons_zero, List.set_cons_succ]
                refine wpAnyH_take (i := 13) (oi := ⟨_, _, _, _, _, _⟩) (v := ?_) rfl (by kernel_rfl) (by kernel_rfl) (by kernel_rfl) (fun _ _ _ h => h) (Or.inl ⟨by rfl, ?_⟩) (by assumption) ?_
                rotate_left
                · intro u hSw
                  go_simp
                  try (with_reducible rfl)
                try simp only [Act.put, List.setIfInBounds_toArray, List.set_cons_zero, List.set_cons_succ]
                refine wpAnyH_ready (rs := [14]) (by kernel_rfl) (by simp) ?_
                refine AllReadyH.cons (o := ⟨_, _, _, _, _, _⟩) rfl (fun K hK => ?_) AllReadyH.nil
                go_simp
                go_wp2_with fail
                refine hK.out _ _ ((Below.refl _ _).drew.alloc (Nat.le_refl _) _) (fun hHeld => ?_)
                clear hK K
                try simp only [Act.put, List.setIfInBounds_toArray, List.set_cons_zero, List.set_cons_succ]
                have F15 := Arr.new wr.drew 25 #[.int .u64 0, .int .i64 0, .bool false, .slice none 0 0]
                have hRow := below_row (((Below.refl wr.heap.size wr).drew).alloc (Nat.le_refl _) (.cells #[.int .u64 0, .int .i64 0, .bool false, .slice none 0 0] 25)) (Nat.le_refl wr.heap.size) #[.int .u64 (k0 : Int), .int .i64 (k1 : Int), .bool ((k2 : Int) == 1), .slice x3.sp x3.n x3.cap]
                refine wpAnyH_ready (rs := [15]) (by kernel_rfl) (by simp) ?_
                refine AllReadyH.cons (o := ⟨_, _, _, _, _, _⟩) rfl (fun K hK => ?_) AllReadyH.nil
                refine step_want rfl (wp_store_row 25 (.tmp 10) (.tmp 73) rfl wr.heap.size #[.int .u64 (k0 : Int), .int .i64 (k1 : Int), .bool ((k2 : Int) == 1), .slice x3.sp x3.n x3.cap] rfl rfl 25 _ F15 size25F rfl (one4 _ _ _ _ _ _) ?_)
                refine hK.out _ _ hRow (fun hHeld => ?_)
                clear hK K
                refine wpAnyH_done (by kernel_rfl) ?_ _
                generalize hU : (wr.alloc (.cells #[.int .u64 0, .int .i64 0, .bool false, .slice none 0 0] 25)).drew.setRow wr.heap.size #[.int .u64 (k0 : Int), .int .i64 (k1 : Int), .bool ((k2 : Int) == 1), .slice x3.sp x3.n x3.cap] = U
                have hbU : Below wr.heap.size wr U := by rw [← hU]; exact hRow
                have F1 : Arr U wr.heap.size 25 #[.int .u64 (k0 : Int), .int .i64 (k1 : Int), .bool ((k2 : Int) == 1), .slice x3.sp x3.n x3.cap] := by rw [← hU]; exact F15.setRow _
                have hsU : U.heap.size = wr.heap.size + 1 := by rw [← hU]; simp
                clear hU hRow F15 hHeld
                have U1 := R1.below hbU (by omega)
                have hwU : Below w.heap.size w U := hwl.trans (hbU.mono (by omega))
                have hSU := hS.below hwU
                have f0 := F1.cell 0
                have f1 := F1.cell 1
                have f2 := F1.cell 2
                have f3 := F1.cell 3
                simp at f0 f1 f2 f3
                have hB3 := ((hB4.out x3 (by simp)).below hbl).below (hbU.mono (by omega))
                have hFo : FrOK w2.heap.size U (Fr.mk (k0 : Int) (k1 : Int) ((k2 : Int) == 1) x3.sp x3.n x3.cap x3.bs) := ⟨by show (0 : Int) ≤ k0; omega, by show (k0 : Int) ≤ 18446744073709551615; omega, by show (-9223372036854775808 : Int) ≤ k1; omega, by show (k1 : Int) ≤ 9223372036854775807; omega, hB3⟩
                have hfz := U1.frozen
                cases hm : (Fr.mk (k0 : Int) (k1 : Int) ((k2 : Int) == 1) x3.sp x3.n x3.cap x3.bs).may with
                | false =>
                  have hno : Hid (∀ f, FrR f → f.form ≠ L) := Hid.mk' (fun f hf hfe => by
                    have h1 := (hfits.out f hf hfe).2.2
                    have h2 := hf.len
                    have h3 := hB3.len.out
                    have : (Fr.mk (k0 : Int) (k1 : Int) ((k2 : Int) == 1) x3.sp x3.n x3.cap x3.bs).may = true := (Fr.may_iff _).2 ⟨by show (0 : Int) ≤ k1; omega, g1, by show x3.n ≤ 4096; rw [h3, h1]; exact h2⟩
                    rw [hm] at this; cases this)
                  replace hm := Hid.mk' hm
                  go_wp2_with (first
                    | (go_at_call 9; go_must (refine (rwr_no hFo (by omega) hm.out).mono ?_; rintro e w6 ⟨rfl, hb6⟩; have hs6 := hb6.size; have V1 := U1.below hb6 (by omega); have hw6 := hwU.trans (hb6.mono (by omega))))
                    | (refine wpList_store_arr (by rfl) 25 _ _ (by rfl) w.heap.size #[.int .u64 0, .int .i64 0, .bool false, .slice none 0 0] (by rfl) (by rfl) 25 _ V1 size25F rfl (one4 _ _ _ _ _ _) ?_))
                  exact bodyPost_ret (v := .tuple #[.agg #[.int .u64 0, .int .i64 0, .bool false, .slice none 0 0], .int .i64 8]) (resRR rfl rfl (V1.setRow _)) rfl ⟨below_row (hw6) (Nat.le_refl _) _, .inl ⟨hno.out, 8, by decide, by rw [if_pos h0.out], rfl⟩⟩
                | true =>
                  have hr := hFo.r hm
                  replace hm := Hid.mk' hm
                  cases hl3 : x3.l with
                  | true =>
                    have hne : Hid (¬ (Fr.mk (k0 : Int) (k1 : Int) ((k2 : Int) == 1) x3.sp x3.n x3.cap x3.bs).form = L) := Hid.mk' (fun h => by
                      have := (hfits.out _ hr h).2.1
                      rw [hl3] at this; cases this)
                    have hno : Hid (∀ f, FrR f → f.form ≠ L) := Hid.mk' (fun f hf hfe => by
                      have := (hfits.out _ hf hfe).2.1
                      rw [hl3] at this; cases this)
                    replace hl3 := Hid.mk' hl3
                    go_wp2_with (first
                      | (go_at_call 9; go_must (refine (rwr_ok hFo (by omega) hm.out).mono ?_; rintro e w6 ⟨s6, n6, c6, rfl, B6, hb6⟩; have hs6 := hb6.size; have V1 := U1.below hb6 (by omega); have hw6 := hwU.trans (hb6.mono (by omega)); have hS6 := hSU.below (hb6.mono (by omega))))
                      | (go_at_call 12; go_must (refine (same01_any s6 sp n6 n c6 cap _ L _ _ _ B6.out hS6).mono ?_; rw [decide_eq_false hne.out]; rintro e w7 ⟨rfl, rfl⟩))
                      | (refine wpList_store_arr (by rfl) 25 _ _ (by rfl) w.heap.size #[.int .u64 0, .int .i64 0, .bool false, .slice none 0 0] (by rfl) (by rfl) 25 _ V1 size25F rfl (one4 _ _ _ _ _ _) ?_))
                    exact bodyPost_ret (v := .tuple #[.agg #[.int .u64 0, .int .i64 0, .bool false, .slice none 0 0], .int .i64 8]) (resRR rfl rfl (V1.setRow _)) rfl ⟨below_row (hw6) (Nat.le_refl _) _, .inl ⟨hno.out, 8, by decide, by rw [if_pos h0.out], rfl⟩⟩
                  | false =>
                    have hyes : Hid ((Fr.mk (k0 : Int) (k1 : Int) ((k2 : Int) == 1) x3.sp x3.n x3.cap x3.bs).form = L) := Hid.mk' (hmake.out _ _ _ hl3 r0.out r1.out r2.out g1 g2)
                    replace hl3 := Hid.mk' hl3
                    go_wp2_with (first
                      | (go_at_call 9; go_must (refine (rwr_ok hFo (by omega) hm.out).mono ?_; rintro e w6 ⟨s6, n6, c6, rfl, B6, hb6⟩; have hs6 := hb6.size; have V1 := U1.below hb6 (by omega); have F6 := F1.below hb6 (by omega); have y0 := F6.cell 0; have y1 := F6.cell 1; have y2 := F6.cell 2; have y3 := F6.cell 3; simp at y0 y1 y2 y3; have hw6 := hwU.trans (hb6.mono (by omega)); have hS6 := hSU.below (hb6.mono (by omega))))
                      | (go_at_call 12; go_must (refine (same01_any s6 sp n6 n c6 cap _ L _ _ _ B6.out hS6).mono ?_; rw [decide_eq_true hyes.out]; rintro e w7 ⟨rfl, rfl⟩))
                      | (refine wpList_store_arr (by rfl) 25 _ _ (by rfl) w.heap.size #[.int .u64 (k0 : Int), .int .i64 (k1 : Int), .bool ((k2 : Int) == 1), .slice x3.sp x3.n x3.cap] (by rfl) (by rfl) 25 _ V1 size25F rfl (one4 _ _ _ _ _ _) ?_))
                    refine bodyPost_ret (v := .tuple #[(Fr.mk (k0 : Int) (k1 : Int) ((k2 : Int) == 1) x3.sp x3.n x3.cap x3.bs).val, .int .i64 0]) (resRR rfl rfl (V1.setRow _)) rfl ⟨below_row hw6 (Nat.le_refl _) _, .inr ⟨_, rfl, ?_, hr, hm.out, hyes.out⟩⟩
                    exact ⟨hFo.ch0, hFo.ch1, hFo.sq0, hFo.sq1, (((hB3.below (hb6.mono (by omega))).rowOther V1 no25 _)).here⟩
              · have gn1 : ¬ (1024 : Int) ≤ k1 := by omega
                have gn2 : (1 : Int) < k2 := by omega
                have hno : Hid (∀ f, FrR f → f.form ≠ L) := Hid.mk' (fun f hf hfe => by
                  obtain ⟨y0, y1, y2, y3, m0, m1, m2, e, s0, s1, s2, t1, t2⟩ := (hfits.out f hf hfe).1
                  cases e
                  rw [r2.out] at s2
                  cases s2
                  omega)
                go_wp2_with (refine wpList_store_arr (by rfl) 25 _ _ (by rfl) w.heap.size #[.int .u64 0, .int .i64 0, .bool false, .slice none 0 0] (by rfl) (by rfl) 25 _ R1 size25F rfl (one4 _ _ _ _ _ _) ?_)
                exact bodyPost_ret (v := .tuple #[.agg #[.int .u64 0, .int .i64 0, .bool false, .slice none 0 0], .int .i64 8]) (resRR rfl rfl (R1.setRow _)) rfl ⟨below_row (hwl) (Nat.le_refl _) _, .inl ⟨hno.out, 8, by decide, by rw [if_pos h0.out], rfl⟩⟩
            · have gn1 : (1024 : Int) ≤ k1 := by omega
              have hno : Hid (∀ f, FrR f → f.form ≠ L) := Hid.mk' (fun f hf hfe => by
                obtain ⟨y0, y1, y2, y3, m0, m1, m2, e, s0, s1, s2, t1, t2⟩ := (hfits.out f hf hfe).1
                cases e
                rw [r1.out] at s1
                cases s1
                omega)
              go_wp2_with (refine wpList_store_arr (by rfl) 25 _ _ (by rfl) w.heap.size #[.int .u64 0, .int .i64 0, .bool false, .slice none 0 0] (by rfl) (by rfl) 25 _ R1 size25F rfl (one4 _ _ _ _ _ _) ?_)
              exact bodyPost_ret (v := .tuple #[.agg #[.int .u64 0, .int .i64 0, .bool false, .slice none 0 0], .int .i64 8]) (resRR rfl rfl (R1.setRow _)) rfl ⟨below_row (hwl) (Nat.le_refl _) _, .inl ⟨hno.out, 8, by decide, by rw [if_pos h0.out], rfl⟩⟩
      · have hno : Hid (∀ f, FrR f → f.form ≠ L) := Hid.mk' (fun f hf hfe => by
          have := wf_parts hf.bts hf.len hfm (by omega) (e.symm.trans hfe.symm)
          have h4 : Fs.length = 4 := by rw [this]; rfl
          omega)
        have hkI : ((n2 : Int) != 4) = true := by simp; omega
        clear e hfl hkl hfm hD hI hD2 hlen
        go_wp2_with (refine wpList_store_arr (by rfl) 25 _ _ (by rfl) w.heap.size #[.int .u64 0, .int .i64 0, .bool false, .slice none 0 0] (by rfl) (by rfl) 25 _ A2' size25F rfl (one4 _ _ _ _ _ _) ?_)
        exact bodyPost_ret (v := .tuple #[.agg #[.int .u64 0, .int .i64 0, .bool false, .slice none 0 0], .int .i64 8]) (resRR rfl rfl (A2'.setRow _)) rfl ⟨below_row (hwu) (Nat.le_refl _) _, .inl ⟨hno.out, 8, by decide, by rw [if_pos h0.out], rfl⟩⟩
  · obtain ⟨c, hc⟩ : ∃ c, whole L = c := ⟨_, rfl⟩
    have hne : (c != 0) = true := by rw [← hc]; simpa using h0
    have hcn : c ≠ 0 := by rw [← hc]; exact h0
    have hno : Hid (∀ f, FrR f → f.form ≠ L) := Hid.mk' (fun f hf e => h0 (by rw [← e]; exact wf_whole hf.bts hf.len))
    replace h0 := Hid.mk' h0
    replace hc := Hid.mk' hc
    go_enter Try.func11, Try.ntmps11
    go_wp2_with (first
      | (go_at_call 30; go_must (refine ((refDecode_any _ sp n cap L _ hS0).mono fun e w' h => dec_bad h h0.out c hc.out).mono ?_; rintro e w2 ⟨rfl, hb2⟩; have hs2 := hb2.size; simp at hs2; have A2 := (A0.below hb2 (by simp)).alloc (.cells #[.bool false, .slice none 0 0, .slice none 0 0] 59)))
      | (refine wpList_store_arr (by rfl) 25 _ _ (by rfl) w.heap.size #[.int .u64 0, .int .i64 0, .bool false, .slice none 0 0] (by rfl) (by rfl) 25 _ A2 size25F rfl (one4 _ _ _ _ _ _) ?_))
    exact bodyPost_ret (v := .tuple #[.agg #[.int .u64 0, .int .i64 0, .bool false, .slice none 0 0], .int .i64 c]) (resRR rfl rfl (A2.setRow _)) rfl ⟨below_row (((alloc_bel' w _).trans (hb2.mono (by simp))).alloc (by omega) _) (Nat.le_refl _) _, .inl ⟨hno.out, c, hcn, by rw [if_neg h0.out, hc.out], rfl⟩⟩
end Go.Proofs.Ytbjlmekafnpllab
