/- Ml, Mm, Mn, Ch. -/
import Derived.Test.YtndonaebdbbofaaX01
import Derived.Test.YtndonaebdbbofaaX03
import Derived.Test.YtndonaebdbbofaaX06
import Derived.Test.YtndonaebdbbofaaX10
import Derived.Test.YtndonaebdbbofaaX07
import Derived.BigQuiet
import Derived.BigRegion
import Derived.ChangeKeysEq
import Derived.Deep.DeepCutAuto
import Derived.Deep.DrawnRows
import Derived.Deep.MidRow
import Derived.Deep.QuietTactic
import Derived.Deep.RegionHeld3
import Derived.Deep.RegionLaw
import Derived.Deep.RegionWith
import Derived.Deep.WholeRow
import Derived.Laws.AppendOwnNone
import Derived.Laws.BitsLemmas
import Derived.Laws.BytesArg
import Derived.Laws.CopyOwn
import Derived.Lib.SlBytesConst
import Derived.LoopIn
import Derived.LoopNIn
import Derived.OwnWalkIn
import Derived.RangeFuncBound
import Derived.RangeFuncCalls
import Derived.RangeFuncLeaves
import Derived.RangeFuncNested
import Derived.RangeFuncRecord
import Derived.Shelf.Abstract
import Derived.Shelf.RegionOpen
import Derived.TacticsInMore
import Derived.WalkKit
import Derived.WalkLawsBesides
import Derived.WalkSpells
import Derived.Great.BuildSlice
import Derived.Laws.Tables
import Derived.Maps.AppendAt
/- Layer mem: what the layers below give. -/
namespace Go.Proofs.Ytndonaebdbbofaa
open Go.RowKit Go.Shelf
set_option maxRecDepth 100000
set_option linter.unusedVariables false
set_option linter.unusedSimpArgs false
attribute [local go_sem] Oper.semAt_some

/-- fill's variables, when k levels are done. -/
structure FI (l : List (List Int)) (g d n : Nat) (w : World) (k : Nat) (W : World) : Prop where
  bel : Below w.heap.size w W
  a0 : Arr W w.heap.size 126 #[.pointer (some ⟨g, 0, none⟩)]
  a1 : Arr W (w.heap.size + 1) 3 #[.int .i64 n]
  a2 : Arr W (w.heap.size + 1 + 1) 43 (h8 Z32)
  a3 : Arr W (w.heap.size + 1 + 1 + 1) 43 (h8 (tr k (l.drop ((n / 2 ^ k) * 2 ^ k))))
  a4 : Arr W (w.heap.size + 1 + 1 + 1 + 1) 3 #[.int .i64 d]
theorem FI.below {l : List (List Int)} {g d n : Nat} {w : World} {k : Nat} {W W' : World} (h : FI l g d n w k W) (hb : Below (w.heap.size + 5) W W') : FI l g d n w k W' :=
  ⟨h.bel.trans (hb.mono (by omega)), h.a0.below hb (by omega), h.a1.below hb (by omega), h.a2.below hb (by omega), h.a3.below hb (by omega), h.a4.below hb (by omega)⟩
set_option maxRecDepth 100000 in
set_option maxHeartbeats 1000000 in
theorem fill_any (l : List (List Int)) (W : Nat → List Int) (g d n : Nat) (w : World) (hl32 : ∀ x ∈ l, x.length = 32) (hd : d ≤ 16) (hL : LV w g W) (hn : n = l.length) (hW : Wt l n W) (hlt : n < 2 ^ d) :
    Calls Try.prog 78 #[.pointer (some ⟨g, 0, none⟩), .int .i64 d, .int .i64 n] w fun e w' => e = .returned (.agg (h8 (tr d l))) ∧ Below w.heap.size w w' := by
  have hn63 : n ≤ 9223372036854775807 := by have := pow16 hd; omega
  replace hn := Hid.mk' hn
  replace hW := Hid.mk' hW
  replace hlt := Hid.mk' hlt
  have hgl := hL.lt
  have htl : ∀ k, (tr k (l.drop ((n / 2 ^ k) * 2 ^ k))).length = 32 := fun k => tr_len k _ (fun x hx => hl32 x (List.mem_of_mem_drop hx))
  refine (callsIn_wide (n := 3)).1 ?_
  refine callsIn_of_wp_marks Try.func78 rfl trivial ?_ rfl
  simp only [Try.ntmps78, List.size_toArray, List.length_cons, List.length_nil, Nat.reduceAdd, Nat.reduceSub, Array.replicate_succ, Array.replicate_zero, List.push_toArray, List.append_toArray, List.nil_append, List.cons_append]
  gi_wp2_with (refine ⟨trivial, ?_⟩; gi_at_call 88; go_must (refine (callsIn_wide.2 (empties_any d _)).mono ?_; rintro e w1 ⟨rfl, rfl⟩))
  rw [← h8_Z]
  have hI0 : FI l g d n w 0 (((((w.alloc (.cells #[.pointer (some ⟨g, 0, none⟩)] 126)).alloc (.cells #[.int .i64 n] 3)).alloc (.cells (h8 Z32) 43)).alloc (.cells (h8 Z32) 43)).alloc (.cells #[.int .i64 d] 3)) := by
    refine ⟨((((alloc_bel' w _).alloc (by simp) _).alloc (by simp; omega) _).alloc (by simp; omega) _).alloc (by simp; omega) _, ((((Arr.new w 126 _).alloc _).alloc _).alloc _).alloc _, ?_, ?_, ?_, ?_⟩
    · have h := Arr.new (w.alloc (.cells #[.pointer (some ⟨g, 0, none⟩)] 126)) 3 #[.int .i64 n]
      simp only [World.size_alloc] at h
      exact ((h.alloc _).alloc _).alloc _
    · have h := Arr.new ((w.alloc (.cells #[.pointer (some ⟨g, 0, none⟩)] 126)).alloc (.cells #[.int .i64 n] 3)) 43 (h8 Z32)
      simp only [World.size_alloc] at h
      exact (h.alloc _).alloc _
    · have h := Arr.new (((w.alloc (.cells #[.pointer (some ⟨g, 0, none⟩)] 126)).alloc (.cells #[.int .i64 n] 3)).alloc (.cells (h8 Z32) 43)) 43 (h8 Z32)
      simp only [World.size_alloc] at h
      have e : tr 0 (l.drop ((n / 2 ^ 0) * 2 ^ 0)) = Z32 := by rw [hn.out]; exact (fill_start l).symm
      rw [e]
      exact h.alloc _
    · have h := Arr.new ((((w.alloc (.cells #[.pointer (some ⟨g, 0, none⟩)] 126)).alloc (.cells #[.int .i64 n] 3)).alloc (.cells (h8 Z32) 43)).alloc (.cells (h8 Z32) 43)) 3 #[.int .i64 d]
      simp only [World.size_alloc] at h
      exact h
  refine range_emp (w.heap.size + 1 + 1 + 1 + 1) d (w.heap.size + 5) (by simp) (by omega) rfl (by omega) (FI l g d n w) (fun j W W' h hb => h.below hb) (fun j W h => by simpa using h.a4.cell 0) hI0 ?round ?done
  case round =>
    intro j V hI hj hsz m
    clear hI0
    have hl := tr_len j [] (fun x h => by cases h)
    gi_wp2_with (refine si24n (by rfl) _ _ (by rfl) V V.heap.size rfl (by rfl) (tr j []) (by rfl) (by rfl) hl ?_)
    refine ⟨alloc_bel' V _, fun w2 hb2 hk2 hs2 => ?_⟩
    have E2 : Arr w2 V.heap.size 43 (h8 (tr j [])) := (hk2 _ (by omega)).trans (Arr.new V 43 (h8 (tr j [])))
    have hbV : Below (w.heap.size + 5) V w2 := (alloc_bel' V _).mono (by omega) |>.trans (hb2.mono (by omega))
    have hI2 := hI.below hbV
    simp only [World.size_alloc] at hs2
    obtain ⟨hbel, T0, T1, T2, T3, T4⟩ := hI2
    have c0 := T0.cell 0
    have c1 := T1.cell 0
    simp at c0 c1
    have hr32 := htl j
    obtain ⟨r, hre⟩ : ∃ r, r = tr j (l.drop ((n / 2 ^ j) * 2 ^ j)) := ⟨_, rfl⟩
    rw [← hre] at T3 hr32
    have hjI : (j : Int) < 17 := by omega
    have hRk := range_below (hL.rg j (by omega)) hbel hgl
    have hsec := isSecond_any n j hn63 (by omega)
    have fin : Hid (∀ (v : List Int) (w3 : World), Below w2.heap.size w2 w3 → Arr w3 (w.heap.size + 1 + 1 + 1) 43 (h8 r) → v = tr (j + 1) (l.drop ((n / 2 ^ (j + 1)) * 2 ^ (j + 1))) → FI l g d n w (j + 1) (w3.setRow (w.heap.size + 1 + 1 + 1) (h8 v)) ∧ w2.heap.size ≤ (w3.setRow (w.heap.size + 1 + 1 + 1) (h8 v)).heap.size ∧ ∀ b, w.heap.size + 5 ≤ b → b < w2.heap.size → (w3.setRow (w.heap.size + 1 + 1 + 1) (h8 v)).heap[b]? = w2.heap[b]?) := Hid.mk' (by
      intro v w3 hb3 S3 hv
      have h3 := hb3.size
      refine ⟨⟨below_setRow (hbel.trans (hb3.mono (by omega))) (by omega) _, (T0.below hb3 (by omega)).setRowOther _ (by omega), (T1.below hb3 (by omega)).setRowOther _ (by omega), (T2.below hb3 (by omega)).setRowOther _ (by omega), by rw [← hv]; exact S3.setRow _, (T4.below hb3 (by omega)).setRowOther _ (by omega)⟩, by simp; omega, fun b h1 h2 => ?_⟩
      rw [setRow_other _ _ _ _ (by omega), hb3.block b h2])
    cases hd0 : decide (n / 2 ^ j % 2 = 1) with
    | true =>
      rw [hd0] at hsec
      have hd1 := Hid.mk' (of_decide_eq_true hd0)
      replace hre := Hid.mk' hre
      gi_wp2_with (first
        | (refine ⟨trivial, fun h => (by cases h), ?_⟩; gi_at_call 82; go_must (refine (callsIn_round (hsec _)).mono ?_; rintro e w2 ⟨rfl, rfl⟩)))
      refine region_round (S := fun u => Arr u w.heap.size 126 #[.pointer (some ⟨g, 0, none⟩)]) (by kernel_rfl) (by kernel_rfl) T0.drew (fun hHeld => ?_)
      refine wpAnyH_take (i := 0) (oi := ⟨_, _, _, _, _, _⟩) (v := ?_) rfl (by kernel_rfl) (by kernel_rfl) (by kernel_rfl) (fun _ _ _ h => h) (Or.inl ⟨by rfl, ?_⟩) (by assumption) ?_
      rotate_left
      · intro u hSw
        have cu := hSw.cell 0
        simp at cu
        go_simp
        try (with_reducible rfl)
      try simp only [Act.put, List.setIfInBounds_toArray, List.set_cons_zero, List.set_cons_succ]
      refine wpAnyH_take (i := 1) (oi := ⟨_, _, _, _, _, _⟩) (v := ?_) rfl (by kernel_rfl) (by kernel_rfl) (by kernel_rfl) (fun _ _ _ h => h) (Or.inl ⟨by rfl, ?_⟩) (by assumption) ?_
      rotate_left
      · intro u hSw
        have cu := hSw.cell 0
        simp at cu
        go_simp
        try (with_reducible rfl)
      try simp only [Act.put, List.setIfInBounds_toArray, List.set_cons_zero, List.set_cons_succ]
      refine wpAnyH_take (i := 2) (oi := ⟨_, _, _, _, _, _⟩) (v := ?_) rfl (by kernel_rfl) (by kernel_rfl) (by kernel_rfl) (fun _ _ _ h => h) (Or.inl ⟨by rfl, ?_⟩) (by assumption) ?_
      rotate_left
      · intro u hSw
        have cu := hSw.cell 0
        simp at cu
        go_simp
        try (with_reducible rfl)
      try simp only [Act.put, List.setIfInBounds_toArray, List.set_cons_zero, List.set_cons_succ]
      refine wpAnyH_take (i := 3) (oi := ⟨_, _, _, _, _, _⟩) (v := ?_) rfl (by kernel_rfl) (by kernel_rfl) (by kernel_rfl) (fun _ _ _ h => h) (Or.inl ⟨by rfl, ?_⟩) (by assumption) ?_
      rotate_left
      · intro u hSw
        have cu := hSw.cell 0
        simp at cu
        go_simp
        try (with_reducible rfl)
      try simp only [Act.put, List.setIfInBounds_toArray, List.set_cons_zero, List.set_cons_succ]
      refine wpAnyH_ready (rs := [4, 5]) (by kernel_rfl) (by simp) ?_
      refine AllReadyH.cons (o := ⟨_, _, _, _, _, _⟩) rfl (fun K hK => ?_) (AllReadyH.cons (o := ⟨_, _, _, _, _, _⟩) rfl (fun K hK => ?_) AllReadyH.nil)
      · refine step_want rfl (wp_load_mid 43 (.tmp 20) rfl g (j * 32) rfl (by8 (W j)) _ ((World.rangeAt_drew _ _ _ _).2 hRk) Try.underlying43 rfl (by rw [by8_len, hL.l32 j]; exact size24) ?_)
        refine hK.out _ _ T0.drew (fun hHeld => ?_)
        clear hK K
        try simp only [Act.put, List.setIfInBounds_toArray, List.set_cons_zero, List.set_cons_succ]
        refine wpAnyH_ready (rs := [5]) (by kernel_rfl) (by simp) ?_
        refine AllReadyH.cons (o := ⟨_, _, _, _, _, _⟩) rfl (fun K hK => ?_) AllReadyH.nil
        refine step_want rfl (wp_load_mid 43 (.tmp 7) rfl (w.heap.size + 1 + 1 + 1) 0 rfl (by8 r) _ T3.drew.range Try.underlying43 rfl (by rw [by8_len, hr32]; exact size24) ?_)
        refine hK.out _ _ T0.drew (fun hHeld => ?_)
        clear hK K
        try simp only [Act.put, List.setIfInBounds_toArray, List.set_cons_zero, List.set_cons_succ]
        refine wpAnyH_ready (rs := [6]) (by kernel_rfl) (by simp) ?_
        refine AllReadyH.cons (o := ⟨_, _, _, _, _, _⟩) rfl (fun K hK => ?_) AllReadyH.nil
        go_simp
        refine (pair_h (W j) r _ (hL.l32 j) hr32).mono ?_; rintro e w3 ⟨rfl, hb3⟩; have hs3 := hb3.size; simp at hs3; have S3 := T3.drew.below hb3 (by simp <;> omega)
        go_wp2_with fail
        refine hK.out _ _ (T0.drew.below hb3 (by simp <;> omega)) (fun hHeld => ?_)
        clear hK K
        try simp only [Act.put, List.setIfInBounds_toArray, List.set_cons_zero, List.set_cons_succ]
        refine wpAnyH_ready (rs := [7]) (by kernel_rfl) (by simp) ?_
        refine AllReadyH.cons (o := ⟨_, _, _, _, _, _⟩) rfl (fun K hK => ?_) AllReadyH.nil
        refine step_want rfl (wp_store_row 43 (.tmp 7) (.tmp 23) rfl (w.heap.size + 1 + 1 + 1) (h8 (pr (W j) r)) rfl rfl 43 _ S3 (s24h8 (pr_len _ _)) (by rw [h8_size, h8_size, hr32, pr_len]) (h8_one _) ?_)
        refine hK.out _ _ ((T0.drew.below hb3 (by simp <;> omega)).setRowOther _ (by omega)) (fun hHeld => ?_)
        clear hK K
        try simp only [Act.put, List.setIfInBounds_toArray, List.set_cons_zero, List.set_cons_succ]
        refine wpAnyH_done (by kernel_rfl) ?_ _
        exact fin.out (pr (W j) r) _ ((Below.refl w2.heap.size w2).drew.trans (hb3.mono (by simp))) S3 (wt_up hW.out hd1.out hre.out)
      · refine step_want rfl (wp_load_mid 43 (.tmp 7) rfl (w.heap.size + 1 + 1 + 1) 0 rfl (by8 r) _ T3.drew.range Try.underlying43 rfl (by rw [by8_len, hr32]; exact size24) ?_)
        refine hK.out _ _ T0.drew (fun hHeld => ?_)
        clear hK K
        try simp only [Act.put, List.setIfInBounds_toArray, List.set_cons_zero, List.set_cons_succ]
        refine wpAnyH_ready (rs := [4]) (by kernel_rfl) (by simp) ?_
        refine AllReadyH.cons (o := ⟨_, _, _, _, _, _⟩) rfl (fun K hK => ?_) AllReadyH.nil
        refine step_want rfl (wp_load_mid 43 (.tmp 20) rfl g (j * 32) rfl (by8 (W j)) _ ((World.rangeAt_drew _ _ _ _).2 hRk) Try.underlying43 rfl (by rw [by8_len, hL.l32 j]; exact size24) ?_)
        refine hK.out _ _ T0.drew (fun hHeld => ?_)
        clear hK K
        try simp only [Act.put, List.setIfInBounds_toArray, List.set_cons_zero, List.set_cons_succ]
        refine wpAnyH_ready (rs := [6]) (by kernel_rfl) (by simp) ?_
        refine AllReadyH.cons (o := ⟨_, _, _, _, _, _⟩) rfl (fun K hK => ?_) AllReadyH.nil
        go_simp
        refine (pair_h (W j) r _ (hL.l32 j) hr32).mono ?_; rintro e w3 ⟨rfl, hb3⟩; have hs3 := hb3.size; simp at hs3; have S3 := T3.drew.below hb3 (by simp <;> omega)
        go_wp2_with fail
        refine hK.out _ _ (T0.drew.below hb3 (by simp <;> omega)) (fun hHeld => ?_)
        clear hK K
        try simp only [Act.put, List.setIfInBounds_toArray, List.set_cons_zero, List.set_cons_succ]
        refine wpAnyH_ready (rs := [7]) (by kernel_rfl) (by simp) ?_
        refine AllReadyH.cons (o := ⟨_, _, _, _, _, _⟩) rfl (fun K hK => ?_) AllReadyH.nil
        refine step_want rfl (wp_store_row 43 (.tmp 7) (.tmp 23) rfl (w.heap.size + 1 + 1 + 1) (h8 (pr (W j) r)) rfl rfl 43 _ S3 (s24h8 (pr_len _ _)) (by rw [h8_size, h8_size, hr32, pr_len]) (h8_one _) ?_)
        refine hK.out _ _ ((T0.drew.below hb3 (by simp <;> omega)).setRowOther _ (by omega)) (fun hHeld => ?_)
        clear hK K
        try simp only [Act.put, List.setIfInBounds_toArray, List.set_cons_zero, List.set_cons_succ]
        refine wpAnyH_done (by kernel_rfl) ?_ _
        exact fin.out (pr (W j) r) _ ((Below.refl w2.heap.size w2).drew.trans (hb3.mono (by simp))) S3 (wt_up hW.out hd1.out hre.out)
    | false =>
      rw [hd0] at hsec
      have hd1 : Hid (n / 2 ^ j % 2 = 0) := Hid.mk' (by have := of_decide_eq_false hd0; omega)
      replace hre := Hid.mk' hre
      gi_wp2_with (first
        | (refine ⟨trivial, fun h => (by cases h), ?_⟩; gi_at_call 82; go_must (refine (callsIn_round (hsec _)).mono ?_; rintro e w2 ⟨rfl, rfl⟩))
        | (refine li24 (by rfl) _ (by rfl) (w.heap.size + 1 + 1 + 1) 0 (by rfl) r hr32 T3.range ?_)
        | (refine li24 (by rfl) _ (by rfl) V.heap.size 0 (by rfl) (tr j []) hl E2.range ?_)
        | (refine ⟨trivial, fun h => (by cases h), ?_⟩; gi_at_call 76; go_must (refine (callsIn_round (pair_h r (tr j []) _ hr32 hl)).mono ?_; rintro e w3 ⟨rfl, hb3⟩; have S3 := T3.below hb3 (by omega)))
        | (refine si24 (by rfl) _ _ (by rfl) (w.heap.size + 1 + 1 + 1) (pr r (tr j [])) r (by rfl) (by rfl) (pr_len _ _) hr32 S3 ?_))
      refine fin.out _ w3 hb3 S3 ?_
      rw [hre.out, hn.out]
      rw [hn.out] at hd1
      exact wt_fill0 hd1.out rfl
  case done =>
    intro V o hI hsz hdf
    obtain ⟨hbel, T0, T1, T2, T3, T4⟩ := hI.below (below_put (r := w.heap.size + 5 + 1) (Below.refl (w.heap.size + 5) V) (by omega) o)
    have hr32 := htl d
    have hend := (wt_end (l := l) (by rw [← hn.out]; exact hlt.out) rfl).symm
    rw [← hn.out] at hend
    rw [← hend] at T3 hr32
    have hdf' : (V.putObj (w.heap.size + 5 + 1) o).heap[w.heap.size + 5]? = some (.deferred (some [])) := (World.putObj_heap_other (by omega)).trans hdf
    generalize V.putObj (w.heap.size + 5 + 1) o = V2 at *
    obtain ⟨r, hre⟩ : ∃ r, r = tr d l := ⟨_, rfl⟩
    rw [← hre] at T3 hr32
    replace hre := Hid.mk' hre
    gi_wp2_with (first
      | (refine li24w (by rfl) _ (by rfl) (w.heap.size + 1 + 1 + 1) 0 (by rfl) r hr32 T3.range ?_)
      | (refine si24w (by rfl) _ _ (by rfl) (w.heap.size + 1 + 1) r Z32 (by rfl) (by rfl) hr32 Z32_len T2 ?_))
    have U2 := T2.setRow (h8 r)
    have hK : (V2.setRow (w.heap.size + 1 + 1) (h8 r)).heap[w.heap.size + 5]? = some (.deferred (some [])) := (setRow_other _ _ _ _ (by omega)).trans hdf'
    refine ⟨by simp, .inl ⟨_, _, rfl, run_takeDeferred hK, ?_⟩⟩
    exact ⟨_, res24 Try.results78 rfl hr32 (U2.put _ (by omega)), by rw [hre.out], below_put (below_setRow hbel (by omega) _) (by omega) _⟩
end Go.Proofs.Ytndonaebdbbofaa
/- Layer mem: what the layers below give. -/
namespace Go.Proofs.Ytndonaebdbbofaa
open Go.RowKit Go.Shelf
set_option maxRecDepth 100000
set_option linter.unusedVariables false
set_option linter.unusedSimpArgs false

/-- Levels that nothing waits at. -/
def zz : Array Value := arr 544 fun _ => .int .u8 0
theorem zz_get {t : Nat} (h : t < 544) : zz[t]? = some (.int .u8 0) := arr_get h
theorem bat_Z (j : Nat) : bat Z32 j = 0 := by
  unfold bat Z32
  rw [List.getD_eq_getElem?_getD, List.getElem?_replicate]
  split <;> rfl
theorem lv_new {w : World} {g ty : Nat} (h : Arr w g ty zz) : LV w g (fun _ => Z32) := by
  refine ⟨fun k hk j v hv => ?_, fun _ => Z32_len, fun j hj => ⟨?_, h.frozen _⟩⟩
  · have hj : j < 32 := by
      have := (List.getElem?_eq_some_iff.1 hv).1
      rw [by8_len, Z32_len] at this; exact this
    rw [h.cell, zz_get (by omega), ← hv, by8_get (by rw [Z32_len]; exact hj), bat_Z]
  · rw [h.cell, zz_get (by omega)]; rfl
theorem zero72 : (Try.prog.info? 117).map (·.zero) = some (some (.agg zz)) := by kernel_rfl
theorem zeroValue72 (w : World) : (zeroValue 117).run Try.prog w = .ok (.agg zz) w := by
  have h := zero72
  cases hq : Try.prog.info? 117 with
  | none => rw [hq] at h; cases h
  | some i =>
    rw [hq] at h
    have hz : i.zero = some (.agg zz) := by simpa using h
    simp [zeroValue, typeInfo, hq, hz]
set_option maxRecDepth 100000 in
set_option maxHeartbeats 1000000 in
theorem build_any (d N : Nat) (sp : Option Addr) (n cap : Nat) (ls : List (List Int)) (w : World) (hd : d ≤ 16) (hS : HS N w sp n cap ls) (hn : n ≤ 2 ^ d) :
    Calls Try.prog 63 #[.int .i64 d, .slice sp n cap, .func (Fn.func 64) #[] #[]] w fun e w' => e = .returned (.agg (h8 (tr d ls))) ∧ Below w.heap.size w w' := by
  have hS := hS.here
  have hl := hS.len
  have hsm := hS.small
  have h16 := pow16 hd
  have hn16 : n ≤ 65536 := by omega
  clear h16
  have hwd := width_any d hd
  obtain ⟨p, hp⟩ : ∃ p : Nat, p = 2 ^ d := ⟨_, rfl⟩
  rw [← hp] at hwd hn
  replace hp := Hid.mk' hp
  have hz72 := zeroValue72
  have A0 := (Arr.new w 43 (h8 Z32)).alloc (.cells zz 117)
  have A1 := Arr.new (w.alloc (.cells (h8 Z32) 43)) 117 zz
  rw [World.size_alloc] at A1
  have hb0 : Below w.heap.size w ((w.alloc (.cells (h8 Z32) 43)).alloc (.cells zz 117)) := (alloc_bel' w _).alloc (by simp) _
  have L0 := lv_new A1
  have hl32 := hS.l32
  go_enter Try.func63, Try.ntmps63
  go_wp2_with fail

  go_loopw [12] (fun q wr => ∃ (j : Nat) (W : Nat → List Int), q = .int .i64 (j : Int) ∧ j ≤ n ∧ Below w.heap.size w wr ∧ w.heap.size + 2 ≤ wr.heap.size ∧ Arr wr w.heap.size 43 (h8 Z32) ∧ LV wr (w.heap.size + 1) W ∧ Hid (Wt ls j W))
    (fun q _ => n - (intOf q).toNat)
  case atStart => exact ⟨0, fun _ => Z32, rfl, by omega, hb0, by simp, A0, L0, Hid.mk' (wt_zero ls _)⟩
  case round =>
    clear A0 A1 hb0 L0 hz72
    obtain ⟨j, W, rfl, hj, hbl, hsz, R0, R1, hW⟩ := hrel
    by_cases hlt : j < n
    · have hI : (j : Int) < n := by omega
      have hSr := hS.below hbl
      obtain ⟨g, off, rfl, hgN, hR⟩ := hSr.at0 (by omega)
      obtain ⟨X, hX⟩ : ∃ X, ls[j]? = some X := ⟨ls[j]'(by rw [← hl.out]; exact hlt), List.getElem?_eq_getElem _⟩
      have hX32 := hl32 X (List.mem_of_getElem? hX)
      have hRX := hR j X hX
      have X1 := Arr.new wr 43 (h8 X)
      have R0' := R0.alloc (.cells (h8 X) 43)
      have hbX := hbl.alloc (by omega) (.cells (h8 X) 43)
      have R1' := R1.below (alloc_bel' wr (.cells (h8 X) 43)) (by omega)
      replace hX := Hid.mk' hX
      go_wp2_with (first
        | (refine ld24 (by rfl) _ (by rfl) g (off + j * 32) (by rfl) X hX32 hRX ?_)
        | (refine st24n (by rfl) _ _ (by rfl) wr wr.heap.size rfl (by rfl) X (by rfl) (by rfl) hX32 ?_)
        | (refine ld24 (by rfl) _ (by rfl) wr.heap.size 0 (by rfl) X hX32 X1.range ?_)
        | (go_at_call 64; go_must (refine (itself_any X hX32 _).mono ?_; rintro e w2 ⟨rfl, hb2⟩; have hs2 := hb2.size; simp at hs2; have S0 := R0'.below hb2 (by simp <;> omega); have S1 := R1'.below hb2 (by simp <;> omega); have hb2w := hbX.trans (hb2.mono (by simp <;> omega))))
        | (go_at_call 77; go_must (refine (put_any ls j X W (w.heap.size + 1) _ hX32 hX.out (by omega) S1 hW.out).mono ?_; rintro e w3 ⟨⟨v3, rfl⟩, w4, k, r, hb4, hk, hr, rfl, hW4⟩; have hs4 := hb4.size)))
      go_roundw
      case rel =>
        have T1 := (S1.below hb4 (by omega)).set hk hr
        exact ⟨j + 1, _, by go_num, by omega, below_setCells (hb2w.trans (hb4.mono (by omega))) (by omega) _ _, by rw [size_setCells]; omega, (S0.below hb4 (by omega)).setCellsOther (by omega) _ _, T1, Hid.mk' hW4⟩
      case measure => simp [intOf]; omega
    · obtain rfl : j = n := by omega
      have hI : ¬ (j : Int) < j := by omega
      by_cases hall : j = p
      · have hallI : ((j : Int) == p) = true := by rw [beq_iff_eq]; omega
        have hW1 : W d = tr d ls := by
          have h := hW.out
          rw [hall, hp.out] at h
          exact wt_all h
        have hRd := R1.rg d (by omega)
        have hd32 := R1.l32 d
        have hdI : (d : Int) < 17 := by omega
        have hd0 : (0 : Int) ≤ d := by omega
        replace hW1 := Hid.mk' hW1
        replace hall := Hid.mk' hall
        go_wp2_with (first
          | (go_at_call 62; go_must (refine (hwd _).mono ?_; rintro e w2 ⟨rfl, rfl⟩))
          | (refine ld24 (by rfl) _ (by rfl) (w.heap.size + 1) (d * 32) (by rfl) (W d) hd32 hRd ?_)
          | (refine st24 (by rfl) _ _ (by rfl) w.heap.size (W d) Z32 (by rfl) (by rfl) hd32 Z32_len R0 ?_))
        exact bodyPost_ret (v := .agg (h8 (W d))) (res24 Try.results63 rfl hd32 (R0.setRow _)) rfl ⟨by rw [hW1.out], below_setRow hbl (Nat.le_refl _) _⟩
      · have hallI : ((j : Int) == p) = false := by rw [beq_eq_false_iff_ne]; omega
        have hlt2 : j < 2 ^ d := by rw [← hp.out]; omega
        have hfill := fill_any ls W (w.heap.size + 1) d j _ hl32 hd R1 hl.out hW.out hlt2
        have ht32 := tr_len d ls hl32
        replace hlt2 := Hid.mk' hlt2
        replace hall := Hid.mk' hall
        go_wp2_with (first
          | (go_at_call 62; go_must (refine (hwd _).mono ?_; rintro e w2 ⟨rfl, rfl⟩))
          | (go_at_call 78; go_must (refine hfill.mono ?_; rintro e w3 ⟨rfl, hb3⟩; have S0 := R0.below hb3 (by omega)))
          | (refine st24 (by rfl) _ _ (by rfl) w.heap.size (tr d ls) Z32 (by rfl) (by rfl) ht32 Z32_len S0 ?_))
        exact bodyPost_ret (v := .agg (h8 (tr d ls))) (res24 Try.results63 rfl ht32 (S0.setRow _)) rfl ⟨rfl, below_setRow (hbl.trans (hb3.mono (by omega))) (Nat.le_refl _) _⟩
end Go.Proofs.Ytndonaebdbbofaa
/- Layer mem: what the layers below give. -/
namespace Go.Proofs.Ytndonaebdbbofaa
open Go.RowKit Go.Shelf
set_option maxRecDepth 100000
set_option linter.unusedVariables false
set_option linter.unusedSimpArgs false

/-- Why a tree may not be. -/
def rE (d : Int) (n : Nat) : Int := if 0 ≤ d ∧ d ≤ 16 then (if n ≤ 2 ^ d.toNat then 0 else 4) else 2
/-- A root, or the zero sum. -/
def rR (d : Int) (ls : List (List Int)) : List Int := if rE d ls.length = 0 then tr d.toNat ls else Z32
theorem rR_len {d : Int} {ls : List (List Int)} (h : ∀ x ∈ ls, x.length = 32) : (rR d ls).length = 32 := by
  unfold rR; split
  · exact tr_len _ _ h
  · exact Z32_len
set_option maxRecDepth 100000 in
set_option maxHeartbeats 1000000 in
theorem root_any (d : Int) (N : Nat) (sp : Option Addr) (n cap : Nat) (ls : List (List Int)) (w : World) (hS : HS N w sp n cap ls) :
    Calls Try.prog 43 #[.int .i64 d, .slice sp n cap] w fun e w' => e = .returned (.tuple #[.agg (h8 (rR d ls)), .int .i64 (rE d ls.length)]) ∧ Below w.heap.size w w' := by
  have A0 := Arr.new w 43 (h8 Z32)
  have hb0 := alloc_bel' w (.cells (h8 Z32) 43)
  have hS0 := hS.here.below hb0
  have hsm := hS.small
  have hln := hS.len
  have hmd := mayDepth_any d
  unfold rR rE
  by_cases h1 : 0 ≤ d ∧ d ≤ 16
  · rw [decide_eq_true h1] at hmd
    simp only [if_pos h1]
    obtain ⟨m, rfl⟩ : ∃ m : Nat, d = m := ⟨d.toNat, by omega⟩
    have hm : m ≤ 16 := by omega
    simp only [Int.toNat_natCast]
    have hwd := width_any m hm
    rw [← hln.out]
    by_cases h2 : n ≤ 2 ^ m
    · simp only [if_pos h2, if_true]
      have hbd := fun w hS => build_any m w.heap.size sp n cap ls w hm hS h2
      obtain ⟨p, hp⟩ : ∃ p : Nat, p = 2 ^ m := ⟨_, rfl⟩
      rw [← hp] at hwd h2
      have h3 : ¬ (p : Int) < n := by omega
      have ht32 := tr_len m ls hS.l32
      clear hp
      go_enter Try.func43, Try.ntmps43
      go_wp2_with (first
        | (go_at_call 61; go_must (refine (hmd _).mono ?_; rintro e w2 ⟨rfl, rfl⟩))
        | (go_at_call 62; go_must (refine (hwd _).mono ?_; rintro e w2 ⟨rfl, rfl⟩))
        | (go_at_call 63; go_must (refine (hbd _ (hS0.mono (by simp))).mono ?_; rintro e w3 ⟨rfl, hb3⟩; have S0 := A0.below hb3 (by simp)))
        | (refine st24 (by rfl) _ _ (by rfl) w.heap.size (tr m ls) Z32 (by rfl) (by rfl) ht32 Z32_len S0 ?_))
      exact bodyPost_ret (v := .tuple #[.agg (h8 (tr m ls)), .int .i64 0]) (resP Try.results43 rfl rfl ht32 (S0.setRow _)) rfl ⟨rfl, below_setRow (hb0.trans (hb3.mono (by simp))) (Nat.le_refl _) _⟩
    · simp only [if_neg h2]
      obtain ⟨p, hp⟩ : ∃ p : Nat, p = 2 ^ m := ⟨_, rfl⟩
      rw [← hp] at hwd h2
      have h3 : (p : Int) < n := by omega
      clear hp
      go_enter Try.func43, Try.ntmps43
      go_wp2_with (first
        | (go_at_call 61; go_must (refine (hmd _).mono ?_; rintro e w2 ⟨rfl, rfl⟩))
        | (go_at_call 62; go_must (refine (hwd _).mono ?_; rintro e w2 ⟨rfl, rfl⟩))
        | (refine st24 (by rfl) _ _ (by rfl) w.heap.size Z32 Z32 (by rfl) (by rfl) Z32_len Z32_len A0 ?_))
      exact bodyPost_ret (v := .tuple #[.agg (h8 Z32), .int .i64 4]) (resP Try.results43 rfl rfl Z32_len (A0.setRow _)) rfl ⟨rfl, below_setRow hb0 (Nat.le_refl _) _⟩
  · rw [decide_eq_false h1] at hmd
    simp only [if_neg h1]
    go_enter Try.func43, Try.ntmps43
    go_wp2_with (first
      | (go_at_call 61; go_must (refine (hmd _).mono ?_; rintro e w2 ⟨rfl, rfl⟩))
      | (refine st24 (by rfl) _ _ (by rfl) w.heap.size Z32 Z32 (by rfl) (by rfl) Z32_len Z32_len A0 ?_))
    exact bodyPost_ret (v := .tuple #[.agg (h8 Z32), .int .i64 2]) (resP Try.results43 rfl rfl Z32_len (A0.setRow _)) rfl ⟨rfl, below_setRow hb0 (Nat.le_refl _) _⟩
end Go.Proofs.Ytndonaebdbbofaa
/- Layer mem: what the layers below give. -/
namespace Go.Proofs.Ytndonaebdbbofaa
open Go.RowKit
set_option maxRecDepth 100000
set_option linter.unusedVariables false
set_option linter.unusedSimpArgs false

theorem own_same {w w' : World} {base n e s : Nat} {v : Value} {xs : List Value} (h : w.ownsRow base e s v n xs) (hk : ∀ k, v.ownBlock = some k → w'.heap[k]? = w.heap[k]?) : w'.ownsRow base e s v n xs := by
  refine ⟨h.1, ?_⟩
  rcases h.2 with hn | ⟨g, cap, cur, rfl, hb0, hgg, rest⟩
  · exact .inl hn
  · exact .inr ⟨g, cap, cur, rfl, hb0, by rw [hk g rfl]; exact hgg, rest⟩
theorem own_lt {w : World} {base e s n b : Nat} {v : Value} {xs : List Value} (h : w.ownsRow base e s v n xs) (hb : v.ownBlock = some b) : b < w.heap.size := by
  rcases h.2 with ⟨rfl, -⟩ | ⟨g, cap, cur, rfl, -, hgg, -⟩
  · simp [Value.ownBlock] at hb
  · simp [Value.ownBlock] at hb; subst hb; exact (Array.getElem?_eq_some_iff.1 hgg).1
end Go.Proofs.Ytndonaebdbbofaa
