/- Ml. -/
import Derived.Test.YtagebcbnenehfaaGreatX09
namespace Go.Proofs.YtagebcbnenehfaaGreat
open Go.RowKit
set_option maxRecDepth 100000
set_option linter.unusedVariables false
set_option linter.unusedSimpArgs false
set_option maxHeartbeats 40000000
section
open Go.RowKit Go.Shelf
attribute [local go_sem] Oper.semAt_some
structure FI (l : List (List Int)) (g d n : Nat) (w : World) (k : Nat) (W : World) : Prop where
 bel : Below w.heap.size w W
 a0 : Arr W w.heap.size 311 #[.pointer (some ⟨g, 0, none⟩)]
 a1 : Arr W (w.heap.size + 1) 3 #[.int .i64 n]
 a2 : Arr W (w.heap.size + 1 + 1) 30 (h8 Z32)
 a3 : Arr W (w.heap.size + 1 + 1 + 1) 30 (h8 (tr k (l.drop ((n / 2 ^ k) * 2 ^ k))))
 a4 : Arr W (w.heap.size + 1 + 1 + 1 + 1) 3 #[.int .i64 d]
theorem FI.below {l : List (List Int)} {g d n : Nat} {w : World} {k : Nat} {W W' : World} (h : FI l g d n w k W) (hb : Below (w.heap.size + 5) W W') : FI l g d n w k W' :=
 ⟨h.bel.trans (hb.mono (by omega)), h.a0.below hb (by omega), h.a1.below hb (by omega), h.a2.below hb (by omega), h.a3.below hb (by omega), h.a4.below hb (by omega)⟩
set_option maxRecDepth 100000 in
theorem fill_any (l : List (List Int)) (W : Nat → List Int) (g d n : Nat) (w : World) (hl32 : ∀ x ∈ l, x.length = 32) (hd : d ≤ 16) (hL : LV w g W) (hn : n = l.length) (hW : Wt l n W) (hlt : n < 2 ^ d) :
   Calls Tryz.prog 256 #[.pointer (some ⟨g, 0, none⟩), .int .i64 d, .int .i64 n] w fun e w' => e = .returned (.agg (h8 (tr d l))) ∧ Below w.heap.size w w' := by
 have hn63 : n ≤ 9223372036854775807 := by have := pow16 hd; omega
 replace hn := Hid.mk' hn
 replace hW := Hid.mk' hW
 replace hlt := Hid.mk' hlt
 have hgl := hL.lt
 have htl : ∀ k, (tr k (l.drop ((n / 2 ^ k) * 2 ^ k))).length = 32 := fun k => tr_len k _ (fun x hx => hl32 x (List.mem_of_mem_drop hx))
 refine (callsIn_wide (n := 3)).1 ?_
 refine callsIn_of_wp_marks Tryz.func256 rfl trivial ?_ rfl
 simp only [Tryz.ntmps256, List.size_toArray, List.length_cons, List.length_nil, Nat.reduceAdd, Nat.reduceSub, Array.replicate_succ, Array.replicate_zero, List.push_toArray, List.append_toArray, List.nil_append, List.cons_append]
 gi_wp2_with (refine ⟨trivial, ?_⟩; gi_at_call 257; go_must (refine (callsIn_wide.2 (empties_any d _)).mono ?_; rintro e w1 ⟨rfl, rfl⟩))
 rw [← h8_Z]
 have hI0 : FI l g d n w 0 (((((w.alloc (.cells #[.pointer (some ⟨g, 0, none⟩)] 311)).alloc (.cells #[.int .i64 n] 3)).alloc (.cells (h8 Z32) 30)).alloc (.cells (h8 Z32) 30)).alloc (.cells #[.int .i64 d] 3)) := by
   refine ⟨((((alloc_bel' w _).alloc (by simp) _).alloc (by simp; omega) _).alloc (by simp; omega) _).alloc (by simp; omega) _, ((((Arr.new w 311 _).alloc _).alloc _).alloc _).alloc _, ?_, ?_, ?_, ?_⟩
   · have h := Arr.new (w.alloc (.cells #[.pointer (some ⟨g, 0, none⟩)] 311)) 3 #[.int .i64 n]
     simp only [World.size_alloc] at h
     exact ((h.alloc _).alloc _).alloc _
   · have h := Arr.new ((w.alloc (.cells #[.pointer (some ⟨g, 0, none⟩)] 311)).alloc (.cells #[.int .i64 n] 3)) 30 (h8 Z32)
     simp only [World.size_alloc] at h
     exact (h.alloc _).alloc _
   · have h := Arr.new (((w.alloc (.cells #[.pointer (some ⟨g, 0, none⟩)] 311)).alloc (.cells #[.int .i64 n] 3)).alloc (.cells (h8 Z32) 30)) 30 (h8 Z32)
     simp only [World.size_alloc] at h
     have e : tr 0 (l.drop ((n / 2 ^ 0) * 2 ^ 0)) = Z32 := by rw [hn.out]; exact (fill_start l).symm
     rw [e]
     exact h.alloc _
   · have h := Arr.new ((((w.alloc (.cells #[.pointer (some ⟨g, 0, none⟩)] 311)).alloc (.cells #[.int .i64 n] 3)).alloc (.cells (h8 Z32) 30)).alloc (.cells (h8 Z32) 30)) 3 #[.int .i64 d]
     simp only [World.size_alloc] at h
     exact h
 refine range_emp (w.heap.size + 1 + 1 + 1 + 1) d (w.heap.size + 5) (by simp) (by omega) rfl (by omega) (FI l g d n w) (fun j W W' h hb => h.below hb) (fun j W h => by simpa using h.a4.cell 0) hI0 ?round ?done
 case round =>
   intro j V hI hj hsz m
   clear hI0
   have hl := tr_len j [] (fun x h => by cases h)
   gi_wp2_with (refine si24n (by rfl) _ _ (by rfl) V V.heap.size rfl (by rfl) (tr j []) (by rfl) (by rfl) hl ?_)
   refine ⟨alloc_bel' V _, fun w2 hb2 hk2 hs2 => ?_⟩
   have E2 : Arr w2 V.heap.size 30 (h8 (tr j [])) := (hk2 _ (by omega)).trans (Arr.new V 30 (h8 (tr j [])))
   have hbV : Below (w.heap.size + 5) V w2 := (alloc_bel' V _).mono (by omega) |>.trans (hb2.mono (by omega))
   have hI2 := hI.below hbV
   simp only [World.size_alloc] at hs2
   obtain ⟨hbel, T0, T1, T2, T3, T4⟩ := hI2
   have c0 := T0.cell 0
   have c1 := T1.cell 0
   simp at c0 c1
   have hr32 := htl j
   obtain ⟨r, hre⟩ : ∃ r, r = tr j (l.drop ((n / 2 ^ j) * 2 ^ j)) := ⟨_, rfl⟩
   rw [← hre] at T3 hr32
   have hjI : (j : Int) < 17 := by omega
   have hRk := range_below (hL.rg j (by omega)) hbel hgl
   have hsec := isSecond_any n j hn63 (by omega)
   have fin : Hid (∀ (v : List Int) (w3 : World), Below w2.heap.size w2 w3 → Arr w3 (w.heap.size + 1 + 1 + 1) 30 (h8 r) → v = tr (j + 1) (l.drop ((n / 2 ^ (j + 1)) * 2 ^ (j + 1))) → FI l g d n w (j + 1) (w3.setRow (w.heap.size + 1 + 1 + 1) (h8 v)) ∧ w2.heap.size ≤ (w3.setRow (w.heap.size + 1 + 1 + 1) (h8 v)).heap.size ∧ ∀ b, w.heap.size + 5 ≤ b → b < w2.heap.size → (w3.setRow (w.heap.size + 1 + 1 + 1) (h8 v)).heap[b]? = w2.heap[b]?) := Hid.mk' (by
     intro v w3 hb3 S3 hv
     have h3 := hb3.size
     refine ⟨⟨below_setRow (hbel.trans (hb3.mono (by omega))) (by omega) _, (T0.below hb3 (by omega)).setRowOther _ (by omega), (T1.below hb3 (by omega)).setRowOther _ (by omega), (T2.below hb3 (by omega)).setRowOther _ (by omega), by rw [← hv]; exact S3.setRow _, (T4.below hb3 (by omega)).setRowOther _ (by omega)⟩, by simp; omega, fun b h1 h2 => ?_⟩
     rw [setRow_other _ _ _ _ (by omega), hb3.block b h2])
   cases hd0 : decide (n / 2 ^ j % 2 = 1) with
   | true =>
     rw [hd0] at hsec
     have hd1 := Hid.mk' (of_decide_eq_true hd0)
     replace hre := Hid.mk' hre
     gi_wp2_with (first
       | (refine ⟨trivial, fun h => (by cases h), ?_⟩; gi_at_call 250; go_must (refine (callsIn_round (hsec _)).mono ?_; rintro e w2 ⟨rfl, rfl⟩)))
     refine region_round (S := fun u => Arr u w.heap.size 311 #[.pointer (some ⟨g, 0, none⟩)]) (by kernel_rfl) (by kernel_rfl) T0.drew (fun hHeld => ?_)
     refine tk 0 rfl (hy := by (intro u hSw; have cu := hSw.cell 0; simp at cu; go_simp; try (with_reducible rfl))) ?_
     refine tk 1 rfl (hy := by (intro u hSw; have cu := hSw.cell 0; simp at cu; go_simp; try (with_reducible rfl))) ?_
     refine tk 2 rfl (hy := by (intro u hSw; have cu := hSw.cell 0; simp at cu; go_simp; try (with_reducible rfl))) ?_
     refine tk 3 rfl (hy := by (intro u hSw; have cu := hSw.cell 0; simp at cu; go_simp; try (with_reducible rfl))) ?_
     refine rd2 4 5 rfl rfl (fun K hK => ?_) (fun K hK => ?_)
     · refine step_want rfl (wp_load_mid 30 (.tmp 20) rfl g (j * 32) rfl (by8 (W j)) _ ((World.rangeAt_drew _ _ _ _).2 hRk) Tryz.underlying30 rfl (by rw [by8_len, hL.l32 j]; exact size24) ?_)
       refine ko hK T0.drew (fun hHeld => ?_)
       clear hK K
       refine rd 5 rfl (fun K hK => ?_)
       refine step_want rfl (wp_load_mid 30 (.tmp 7) rfl (w.heap.size + 1 + 1 + 1) 0 rfl (by8 r) _ T3.drew.range Tryz.underlying30 rfl (by rw [by8_len, hr32]; exact size24) ?_)
       refine ko hK T0.drew (fun hHeld => ?_)
       clear hK K
       refine rd 6 rfl (fun K hK => ?_)
       go_simp
       refine (pair_h (W j) r _ (hL.l32 j) hr32).mono ?_; rintro e w3 ⟨rfl, hb3⟩; have hs3 := hb3.size; simp at hs3; have S3 := T3.drew.below hb3 (by simp <;> omega)
       go_wp2_with fail
       refine ko hK (T0.drew.below hb3 (by simp <;> omega)) (fun hHeld => ?_)
       clear hK K
       refine rd 7 rfl (fun K hK => ?_)
       refine step_want rfl (wp_store_row 30 (.tmp 7) (.tmp 23) rfl (w.heap.size + 1 + 1 + 1) (h8 (pr (W j) r)) rfl rfl 30 _ S3 (s24h8 (pr_len _ _)) (by rw [h8_size, h8_size, hr32, pr_len]) (h8_one _) ?_)
       refine ko hK ((T0.drew.below hb3 (by simp <;> omega)).setRowOther _ (by omega)) (fun hHeld => ?_)
       clear hK K
       refine dn ?_
       exact fin.out (pr (W j) r) _ ((Below.refl w2.heap.size w2).drew.trans (hb3.mono (by simp))) S3 (wt_up hW.out hd1.out hre.out)
     · refine step_want rfl (wp_load_mid 30 (.tmp 7) rfl (w.heap.size + 1 + 1 + 1) 0 rfl (by8 r) _ T3.drew.range Tryz.underlying30 rfl (by rw [by8_len, hr32]; exact size24) ?_)
       refine ko hK T0.drew (fun hHeld => ?_)
       clear hK K
       refine rd 4 rfl (fun K hK => ?_)
       refine step_want rfl (wp_load_mid 30 (.tmp 20) rfl g (j * 32) rfl (by8 (W j)) _ ((World.rangeAt_drew _ _ _ _).2 hRk) Tryz.underlying30 rfl (by rw [by8_len, hL.l32 j]; exact size24) ?_)
       refine ko hK T0.drew (fun hHeld => ?_)
       clear hK K
       refine rd 6 rfl (fun K hK => ?_)
       go_simp
       refine (pair_h (W j) r _ (hL.l32 j) hr32).mono ?_; rintro e w3 ⟨rfl, hb3⟩; have hs3 := hb3.size; simp at hs3; have S3 := T3.drew.below hb3 (by simp <;> omega)
       go_wp2_with fail
       refine ko hK (T0.drew.below hb3 (by simp <;> omega)) (fun hHeld => ?_)
       clear hK K
       refine rd 7 rfl (fun K hK => ?_)
       refine step_want rfl (wp_store_row 30 (.tmp 7) (.tmp 23) rfl (w.heap.size + 1 + 1 + 1) (h8 (pr (W j) r)) rfl rfl 30 _ S3 (s24h8 (pr_len _ _)) (by rw [h8_size, h8_size, hr32, pr_len]) (h8_one _) ?_)
       refine ko hK ((T0.drew.below hb3 (by simp <;> omega)).setRowOther _ (by omega)) (fun hHeld => ?_)
       clear hK K
       refine dn ?_
       exact fin.out (pr (W j) r) _ ((Below.refl w2.heap.size w2).drew.trans (hb3.mono (by simp))) S3 (wt_up hW.out hd1.out hre.out)
   | false =>
     rw [hd0] at hsec
     have hd1 : Hid (n / 2 ^ j % 2 = 0) := Hid.mk' (by have := of_decide_eq_false hd0; omega)
     replace hre := Hid.mk' hre
     gi_wp2_with (first
       | (refine ⟨trivial, fun h => (by cases h), ?_⟩; gi_at_call 250; go_must (refine (callsIn_round (hsec _)).mono ?_; rintro e w2 ⟨rfl, rfl⟩))
       | (refine li24 (by rfl) _ (by rfl) (w.heap.size + 1 + 1 + 1) 0 (by rfl) r hr32 T3.range ?_)
       | (refine li24 (by rfl) _ (by rfl) V.heap.size 0 (by rfl) (tr j []) hl E2.range ?_)
       | (refine ⟨trivial, fun h => (by cases h), ?_⟩; gi_at_call 168; go_must (refine (callsIn_round (pair_h r (tr j []) _ hr32 hl)).mono ?_; rintro e w3 ⟨rfl, hb3⟩; have S3 := T3.below hb3 (by omega)))
       | (refine si24 (by rfl) _ _ (by rfl) (w.heap.size + 1 + 1 + 1) (pr r (tr j [])) r (by rfl) (by rfl) (pr_len _ _) hr32 S3 ?_))
     refine fin.out _ w3 hb3 S3 ?_
     rw [hre.out, hn.out]
     rw [hn.out] at hd1
     exact wt_fill0 hd1.out rfl
 case done =>
   intro V o hI hsz hdf
   obtain ⟨hbel, T0, T1, T2, T3, T4⟩ := hI.below (below_put (r := w.heap.size + 5 + 1) (Below.refl (w.heap.size + 5) V) (by omega) o)
   have hr32 := htl d
   have hend := (wt_end (l := l) (by rw [← hn.out]; exact hlt.out) rfl).symm
   rw [← hn.out] at hend
   rw [← hend] at T3 hr32
   have hdf' : (V.putObj (w.heap.size + 5 + 1) o).heap[w.heap.size + 5]? = some (.deferred (some [])) := (World.putObj_heap_other (by omega)).trans hdf
   generalize V.putObj (w.heap.size + 5 + 1) o = V2 at *
   obtain ⟨r, hre⟩ : ∃ r, r = tr d l := ⟨_, rfl⟩
   rw [← hre] at T3 hr32
   replace hre := Hid.mk' hre
   gi_wp2_with (first
     | (refine li24w (by rfl) _ (by rfl) (w.heap.size + 1 + 1 + 1) 0 (by rfl) r hr32 T3.range ?_)
     | (refine si24w (by rfl) _ _ (by rfl) (w.heap.size + 1 + 1) r Z32 (by rfl) (by rfl) hr32 Z32_len T2 ?_))
   have U2 := T2.setRow (h8 r)
   have hK : (V2.setRow (w.heap.size + 1 + 1) (h8 r)).heap[w.heap.size + 5]? = some (.deferred (some [])) := (setRow_other _ _ _ _ (by omega)).trans hdf'
   refine ⟨by simp, .inl ⟨_, _, rfl, run_takeDeferred hK, ?_⟩⟩
   exact ⟨_, res24 Tryz.results256 rfl hr32 (U2.put _ (by omega)), by rw [hre.out], below_put (below_setRow hbel (by omega) _) (by omega) _⟩
end
end Go.Proofs.YtagebcbnenehfaaGreat
