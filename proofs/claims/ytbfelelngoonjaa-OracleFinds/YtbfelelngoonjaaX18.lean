/- Ml, Mo, Pk0. -/
import Derived.Test.YtbfelelngoonjaaX01
import Derived.Test.YtbfelelngoonjaaX02
import Derived.Test.YtbfelelngoonjaaX03
import Derived.Test.YtbfelelngoonjaaX04
import Derived.Test.YtbfelelngoonjaaX05
import Derived.Test.YtbfelelngoonjaaX09
import Derived.Test.YtbfelelngoonjaaX17
import Derived.Test.YtbfelelngoonjaaX06
import Derived.Test.YtbfelelngoonjaaX12
import Derived.Test.YtbfelelngoonjaaX13
import Derived.Test.YtbfelelngoonjaaX14
import Derived.Test.YtbfelelngoonjaaX16
import Derived.BigQuiet
import Derived.BigRegion
import Derived.ChangeKeysEq
import Derived.Deep.DeepCutAuto
import Derived.Deep.DrawnRows
import Derived.Deep.MidRow
import Derived.Deep.QuietTactic
import Derived.Deep.RegionHeld3
import Derived.Deep.RegionLaw
import Derived.Deep.RegionWith
import Derived.Deep.WholeRow
import Derived.Laws.AppendOwnNone
import Derived.Laws.BitsLemmas
import Derived.Laws.BytesArg
import Derived.Laws.CopyOwn
import Derived.Lib.SlBytesConst
import Derived.LoopIn
import Derived.LoopNIn
import Derived.OwnWalkIn
import Derived.RangeFuncBound
import Derived.RangeFuncCalls
import Derived.RangeFuncLeaves
import Derived.RangeFuncNested
import Derived.RangeFuncRecord
import Derived.Shelf.Abstract
import Derived.Shelf.RegionOpen
import Derived.TacticsInMore
import Derived.WalkKit
import Derived.WalkLawsBesides
import Derived.WalkSpells
import Derived.Great.BuildSlice
import Derived.Great.FillDense
import Derived.Laws.OwnMore
import Derived.Laws.CopyRow
import Derived.Laws.MakeOwn
import Derived.Laws.Tables
import Derived.Lib.AppendZeros
import Derived.Maps.AppendAt
/- Layer oracle: what the layers below give. -/
namespace Go.Proofs.Ytbfelelngoonjaa
open Go.RowKit Go.Shelf
set_option maxRecDepth 100000
set_option linter.unusedVariables false
set_option linter.unusedSimpArgs false
attribute [local go_sem] Oper.semAt_some

/-- fill's variables, when k levels are done. -/
structure FI (l : List (List Int)) (g d n : Nat) (w : World) (k : Nat) (W : World) : Prop where
  bel : Below w.heap.size w W
  a0 : Arr W w.heap.size 152 #[.pointer (some ⟨g, 0, none⟩)]
  a1 : Arr W (w.heap.size + 1) 3 #[.int .i64 n]
  a2 : Arr W (w.heap.size + 1 + 1) 32 (h8 Z32)
  a3 : Arr W (w.heap.size + 1 + 1 + 1) 32 (h8 (tr k (l.drop ((n / 2 ^ k) * 2 ^ k))))
  a4 : Arr W (w.heap.size + 1 + 1 + 1 + 1) 3 #[.int .i64 d]
theorem FI.below {l : List (List Int)} {g d n : Nat} {w : World} {k : Nat} {W W' : World} (h : FI l g d n w k W) (hb : Below (w.heap.size + 5) W W') : FI l g d n w k W' :=
  ⟨h.bel.trans (hb.mono (by omega)), h.a0.below hb (by omega), h.a1.below hb (by omega), h.a2.below hb (by omega), h.a3.below hb (by omega), h.a4.below hb (by omega)⟩
set_option maxRecDepth 100000 in
set_option maxHeartbeats 1000000 in
theorem fill_any (l : List (List Int)) (W : Nat → List Int) (g d n : Nat) (w : World) (hl32 : ∀ x ∈ l, x.length = 32) (hd : d ≤ 16) (hL : LV w g W) (hn : n = l.length) (hW : Wt l n W) (hlt : n < 2 ^ d) :
    Calls Try.prog 109 #[.pointer (some ⟨g, 0, none⟩), .int .i64 d, .int .i64 n] w fun e w' => e = .returned (.agg (h8 (tr d l))) ∧ Below w.heap.size w w' := by
  have hn63 : n ≤ 9223372036854775807 := by have := pow16 hd; omega
  replace hn := Hid.mk' hn
  replace hW := Hid.mk' hW
  replace hlt := Hid.mk' hlt
  have hgl := hL.lt
  have htl : ∀ k, (tr k (l.drop ((n / 2 ^ k) * 2 ^ k))).length = 32 := fun k => tr_len k _ (fun x hx => hl32 x (List.mem_of_mem_drop hx))
  refine (callsIn_wide (n := 3)).1 ?_
  refine callsIn_of_wp_marks Try.func109 rfl trivial ?_ rfl
  simp only [Try.ntmps109, List.size_toArray, List.length_cons, List.length_nil, Nat.reduceAdd, Nat.reduceSub, Array.replicate_succ, Array.replicate_zero, List.push_toArray, List.append_toArray, List.nil_append, List.cons_append]
  gi_wp2_with (refine ⟨trivial, ?_⟩; gi_at_call 110; go_must (refine (callsIn_wide.2 (empties_any d _)).mono ?_; rintro e w1 ⟨rfl, rfl⟩))
  rw [← h8_Z]
  have hI0 : FI l g d n w 0 (((((w.alloc (.cells #[.pointer (some ⟨g, 0, none⟩)] 152)).alloc (.cells #[.int .i64 n] 3)).alloc (.cells (h8 Z32) 32)).alloc (.cells (h8 Z32) 32)).alloc (.cells #[.int .i64 d] 3)) := by
    refine ⟨((((alloc_bel' w _).alloc (by simp) _).alloc (by simp; omega) _).alloc (by simp; omega) _).alloc (by simp; omega) _, ((((Arr.new w 152 _).alloc _).alloc _).alloc _).alloc _, ?_, ?_, ?_, ?_⟩
    · have h := Arr.new (w.alloc (.cells #[.pointer (some ⟨g, 0, none⟩)] 152)) 3 #[.int .i64 n]
      simp only [World.size_alloc] at h
      exact ((h.alloc _).alloc _).alloc _
    · have h := Arr.new ((w.alloc (.cells #[.pointer (some ⟨g, 0, none⟩)] 152)).alloc (.cells #[.int .i64 n] 3)) 32 (h8 Z32)
      simp only [World.size_alloc] at h
      exact (h.alloc _).alloc _
    · have h := Arr.new (((w.alloc (.cells #[.pointer (some ⟨g, 0, none⟩)] 152)).alloc (.cells #[.int .i64 n] 3)).alloc (.cells (h8 Z32) 32)) 32 (h8 Z32)
      simp only [World.size_alloc] at h
      have e : tr 0 (l.drop ((n / 2 ^ 0) * 2 ^ 0)) = Z32 := by rw [hn.out]; exact (fill_start l).symm
      rw [e]
      exact h.alloc _
    · have h := Arr.new ((((w.alloc (.cells #[.pointer (some ⟨g, 0, none⟩)] 152)).alloc (.cells #[.int .i64 n] 3)).alloc (.cells (h8 Z32) 32)).alloc (.cells (h8 Z32) 32)) 3 #[.int .i64 d]
      simp only [World.size_alloc] at h
      exact h
  refine range_emp (w.heap.size + 1 + 1 + 1 + 1) d (w.heap.size + 5) (by simp) (by omega) rfl (by omega) (FI l g d n w) (fun j W W' h hb => h.below hb) (fun j W h => by simpa using h.a4.cell 0) hI0 ?round ?done
  case round =>
    intro j V hI hj hsz m
    clear hI0
    have hl := tr_len j [] (fun x h => by cases h)
    gi_wp2_with (refine si24n (by rfl) _ _ (by rfl) V V.heap.size rfl (by rfl) (tr j []) (by rfl) (by rfl) hl ?_)
    refine ⟨alloc_bel' V _, fun w2 hb2 hk2 hs2 => ?_⟩
    have E2 : Arr w2 V.heap.size 32 (h8 (tr j [])) := (hk2 _ (by omega)).trans (Arr.new V 32 (h8 (tr j [])))
    have hbV : Below (w.heap.size + 5) V w2 := (alloc_bel' V _).mono (by omega) |>.trans (hb2.mono (by omega))
    have hI2 := hI.below hbV
    simp only [World.size_alloc] at hs2
    obtain ⟨hbel, T0, T1, T2, T3, T4⟩ := hI2
    have c0 := T0.cell 0
    have c1 := T1.cell 0
    simp at c0 c1
    have hr32 := htl j
    obtain ⟨r, hre⟩ : ∃ r, r = tr j (l.drop ((n / 2 ^ j) * 2 ^ j)) := ⟨_, rfl⟩
    rw [← hre] at T3 hr32
    have hjI : (j : Int) < 17 := by omega
    have hRk := range_below (hL.rg j (by omega)) hbel hgl
    have hsec := isSecond_any n j hn63 (by omega)
    have fin : Hid (∀ (v : List Int) (w3 : World), Below w2.heap.size w2 w3 → Arr w3 (w.heap.size + 1 + 1 + 1) 32 (h8 r) → v = tr (j + 1) (l.drop ((n / 2 ^ (j + 1)) * 2 ^ (j + 1))) → FI l g d n w (j + 1) (w3.setRow (w.heap.size + 1 + 1 + 1) (h8 v)) ∧ w2.heap.size ≤ (w3.setRow (w.heap.size + 1 + 1 + 1) (h8 v)).heap.size ∧ ∀ b, w.heap.size + 5 ≤ b → b < w2.heap.size → (w3.setRow (w.heap.size + 1 + 1 + 1) (h8 v)).heap[b]? = w2.heap[b]?) := Hid.mk' (by
      intro v w3 hb3 S3 hv
      have h3 := hb3.size
      refine ⟨⟨below_setRow (hbel.trans (hb3.mono (by omega))) (by omega) _, (T0.below hb3 (by omega)).setRowOther _ (by omega), (T1.below hb3 (by omega)).setRowOther _ (by omega), (T2.below hb3 (by omega)).setRowOther _ (by omega), by rw [← hv]; exact S3.setRow _, (T4.below hb3 (by omega)).setRowOther _ (by omega)⟩, by simp; omega, fun b h1 h2 => ?_⟩
      rw [setRow_other _ _ _ _ (by omega), hb3.block b h2])
    cases hd0 : decide (n / 2 ^ j % 2 = 1) with
    | true =>
      rw [hd0] at hsec
      have hd1 := Hid.mk' (of_decide_eq_true hd0)
      replace hre := Hid.mk' hre
      gi_wp2_with (first
        | (refine ⟨trivial, fun h => (by cases h), ?_⟩; gi_at_call 102; go_must (refine (callsIn_round (hsec _)).mono ?_; rintro e w2 ⟨rfl, rfl⟩)))
      refine region_round (S := fun u => Arr u w.heap.size 152 #[.pointer (some ⟨g, 0, none⟩)]) (by kernel_rfl) (by kernel_rfl) T0.drew (fun hHeld => ?_)
      refine wpAnyH_take (i := 0) (oi := ⟨_, _, _, _, _, _⟩) (v := ?_) rfl (by kernel_rfl) (by kernel_rfl) (by kernel_rfl) (fun _ _ _ h => h) (Or.inl ⟨by rfl, ?_⟩) (by assumption) ?_
      rotate_left
      · intro u hSw
        have cu := hSw.cell 0
        simp at cu
        go_simp
        try (with_reducible rfl)
      try simp only [Act.put, List.setIfInBounds_toArray, List.set_cons_zero, List.set_cons_succ]
      refine wpAnyH_take (i := 1) (oi := ⟨_, _, _, _, _, _⟩) (v := ?_) rfl (by kernel_rfl) (by kernel_rfl) (by kernel_rfl) (fun _ _ _ h => h) (Or.inl ⟨by rfl, ?_⟩) (by assumption) ?_
      rotate_left
      · intro u hSw
        have cu := hSw.cell 0
        simp at cu
        go_simp
        try (with_reducible rfl)
      try simp only [Act.put, List.setIfInBounds_toArray, List.set_cons_zero, List.set_cons_succ]
      refine wpAnyH_take (i := 2) (oi := ⟨_, _, _, _, _, _⟩) (v := ?_) rfl (by kernel_rfl) (by kernel_rfl) (by kernel_rfl) (fun _ _ _ h => h) (Or.inl ⟨by rfl, ?_⟩) (by assumption) ?_
      rotate_left
      · intro u hSw
        have cu := hSw.cell 0
        simp at cu
        go_simp
        try (with_reducible rfl)
      try simp only [Act.put, List.setIfInBounds_toArray, List.set_cons_zero, List.set_cons_succ]
      refine wpAnyH_take (i := 3) (oi := ⟨_, _, _, _, _, _⟩) (v := ?_) rfl (by kernel_rfl) (by kernel_rfl) (by kernel_rfl) (fun _ _ _ h => h) (Or.inl ⟨by rfl, ?_⟩) (by assumption) ?_
      rotate_left
      · intro u hSw
        have cu := hSw.cell 0
        simp at cu
        go_simp
        try (with_reducible rfl)
      try simp only [Act.put, List.setIfInBounds_toArray, List.set_cons_zero, List.set_cons_succ]
      refine wpAnyH_ready (rs := [4, 5]) (by kernel_rfl) (by simp) ?_
      refine AllReadyH.cons (o := ⟨_, _, _, _, _, _⟩) rfl (fun K hK => ?_) (AllReadyH.cons (o := ⟨_, _, _, _, _, _⟩) rfl (fun K hK => ?_) AllReadyH.nil)
      · refine step_want rfl (wp_load_mid 32 (.tmp 20) rfl g (j * 32) rfl (by8 (W j)) _ ((World.rangeAt_drew _ _ _ _).2 hRk) Try.underlying32 rfl (by rw [by8_len, hL.l32 j]; exact size24) ?_)
        refine hK.out _ _ T0.drew (fun hHeld => ?_)
        clear hK K
        try simp only [Act.put, List.setIfInBounds_toArray, List.set_cons_zero, List.set_cons_succ]
        refine wpAnyH_ready (rs := [5]) (by kernel_rfl) (by simp) ?_
        refine AllReadyH.cons (o := ⟨_, _, _, _, _, _⟩) rfl (fun K hK => ?_) AllReadyH.nil
        refine step_want rfl (wp_load_mid 32 (.tmp 7) rfl (w.heap.size + 1 + 1 + 1) 0 rfl (by8 r) _ T3.drew.range Try.underlying32 rfl (by rw [by8_len, hr32]; exact size24) ?_)
        refine hK.out _ _ T0.drew (fun hHeld => ?_)
        clear hK K
        try simp only [Act.put, List.setIfInBounds_toArray, List.set_cons_zero, List.set_cons_succ]
        refine wpAnyH_ready (rs := [6]) (by kernel_rfl) (by simp) ?_
        refine AllReadyH.cons (o := ⟨_, _, _, _, _, _⟩) rfl (fun K hK => ?_) AllReadyH.nil
        go_simp
        refine (pair_h (W j) r _ (hL.l32 j) hr32).mono ?_; rintro e w3 ⟨rfl, hb3⟩; have hs3 := hb3.size; simp at hs3; have S3 := T3.drew.below hb3 (by simp <;> omega)
        go_wp2_with fail
        refine hK.out _ _ (T0.drew.below hb3 (by simp <;> omega)) (fun hHeld => ?_)
        clear hK K
        try simp only [Act.put, List.setIfInBounds_toArray, List.set_cons_zero, List.set_cons_succ]
        refine wpAnyH_ready (rs := [7]) (by kernel_rfl) (by simp) ?_
        refine AllReadyH.cons (o := ⟨_, _, _, _, _, _⟩) rfl (fun K hK => ?_) AllReadyH.nil
        refine step_want rfl (wp_store_row 32 (.tmp 7) (.tmp 23) rfl (w.heap.size + 1 + 1 + 1) (h8 (pr (W j) r)) rfl rfl 32 _ S3 (s24h8 (pr_len _ _)) (by rw [h8_size, h8_size, hr32, pr_len]) (h8_one _) ?_)
        refine hK.out _ _ ((T0.drew.below hb3 (by simp <;> omega)).setRowOther _ (by omega)) (fun hHeld => ?_)
        clear hK K
        try simp only [Act.put, List.setIfInBounds_toArray, List.set_cons_zero, List.set_cons_succ]
        refine wpAnyH_done (by kernel_rfl) ?_ _
        exact fin.out (pr (W j) r) _ ((Below.refl w2.heap.size w2).drew.trans (hb3.mono (by simp))) S3 (wt_up hW.out hd1.out hre.out)
      · refine step_want rfl (wp_load_mid 32 (.tmp 7) rfl (w.heap.size + 1 + 1 + 1) 0 rfl (by8 r) _ T3.drew.range Try.underlying32 rfl (by rw [by8_len, hr32]; exact size24) ?_)
        refine hK.out _ _ T0.drew (fun hHeld => ?_)
        clear hK K
        try simp only [Act.put, List.setIfInBounds_toArray, List.set_cons_zero, List.set_cons_succ]
        refine wpAnyH_ready (rs := [4]) (by kernel_rfl) (by simp) ?_
        refine AllReadyH.cons (o := ⟨_, _, _, _, _, _⟩) rfl (fun K hK => ?_) AllReadyH.nil
        refine step_want rfl (wp_load_mid 32 (.tmp 20) rfl g (j * 32) rfl (by8 (W j)) _ ((World.rangeAt_drew _ _ _ _).2 hRk) Try.underlying32 rfl (by rw [by8_len, hL.l32 j]; exact size24) ?_)
        refine hK.out _ _ T0.drew (fun hHeld => ?_)
        clear hK K
        try simp only [Act.put, List.setIfInBounds_toArray, List.set_cons_zero, List.set_cons_succ]
        refine wpAnyH_ready (rs := [6]) (by kernel_rfl) (by simp) ?_
        refine AllReadyH.cons (o := ⟨_, _, _, _, _, _⟩) rfl (fun K hK => ?_) AllReadyH.nil
        go_simp
        refine (pair_h (W j) r _ (hL.l32 j) hr32).mono ?_; rintro e w3 ⟨rfl, hb3⟩; have hs3 := hb3.size; simp at hs3; have S3 := T3.drew.below hb3 (by simp <;> omega)
        go_wp2_with fail
        refine hK.out _ _ (T0.drew.below hb3 (by simp <;> omega)) (fun hHeld => ?_)
        clear hK K
        try simp only [Act.put, List.setIfInBounds_toArray, List.set_cons_zero, List.set_cons_succ]
        refine wpAnyH_ready (rs := [7]) (by kernel_rfl) (by simp) ?_
        refine AllReadyH.cons (o := ⟨_, _, _, _, _, _⟩) rfl (fun K hK => ?_) AllReadyH.nil
        refine step_want rfl (wp_store_row 32 (.tmp 7) (.tmp 23) rfl (w.heap.size + 1 + 1 + 1) (h8 (pr (W j) r)) rfl rfl 32 _ S3 (s24h8 (pr_len _ _)) (by rw [h8_size, h8_size, hr32, pr_len]) (h8_one _) ?_)
        refine hK.out _ _ ((T0.drew.below hb3 (by simp <;> omega)).setRowOther _ (by omega)) (fun hHeld => ?_)
        clear hK K
        try simp only [Act.put, List.setIfInBounds_toArray, List.set_cons_zero, List.set_cons_succ]
        refine wpAnyH_done (by kernel_rfl) ?_ _
        exact fin.out (pr (W j) r) _ ((Below.refl w2.heap.size w2).drew.trans (hb3.mono (by simp))) S3 (wt_up hW.out hd1.out hre.out)
    | false =>
      rw [hd0] at hsec
      have hd1 : Hid (n / 2 ^ j % 2 = 0) := Hid.mk' (by have := of_decide_eq_false hd0; omega)
      replace hre := Hid.mk' hre
      gi_wp2_with (first
        | (refine ⟨trivial, fun h => (by cases h), ?_⟩; gi_at_call 102; go_must (refine (callsIn_round (hsec _)).mono ?_; rintro e w2 ⟨rfl, rfl⟩))
        | (refine li24 (by rfl) _ (by rfl) (w.heap.size + 1 + 1 + 1) 0 (by rfl) r hr32 T3.range ?_)
        | (refine li24 (by rfl) _ (by rfl) V.heap.size 0 (by rfl) (tr j []) hl E2.range ?_)
        | (refine ⟨trivial, fun h => (by cases h), ?_⟩; gi_at_call 103; go_must (refine (callsIn_round (pair_h r (tr j []) _ hr32 hl)).mono ?_; rintro e w3 ⟨rfl, hb3⟩; have S3 := T3.below hb3 (by omega)))
        | (refine si24 (by rfl) _ _ (by rfl) (w.heap.size + 1 + 1 + 1) (pr r (tr j [])) r (by rfl) (by rfl) (pr_len _ _) hr32 S3 ?_))
      refine fin.out _ w3 hb3 S3 ?_
      rw [hre.out, hn.out]
      rw [hn.out] at hd1
      exact wt_fill0 hd1.out rfl
  case done =>
    intro V o hI hsz hdf
    obtain ⟨hbel, T0, T1, T2, T3, T4⟩ := hI.below (below_put (r := w.heap.size + 5 + 1) (Below.refl (w.heap.size + 5) V) (by omega) o)
    have hr32 := htl d
    have hend := (wt_end (l := l) (by rw [← hn.out]; exact hlt.out) rfl).symm
    rw [← hn.out] at hend
    rw [← hend] at T3 hr32
    have hdf' : (V.putObj (w.heap.size + 5 + 1) o).heap[w.heap.size + 5]? = some (.deferred (some [])) := (World.putObj_heap_other (by omega)).trans hdf
    generalize V.putObj (w.heap.size + 5 + 1) o = V2 at *
    obtain ⟨r, hre⟩ : ∃ r, r = tr d l := ⟨_, rfl⟩
    rw [← hre] at T3 hr32
    replace hre := Hid.mk' hre
    gi_wp2_with (first
      | (refine li24w (by rfl) _ (by rfl) (w.heap.size + 1 + 1 + 1) 0 (by rfl) r hr32 T3.range ?_)
      | (refine si24w (by rfl) _ _ (by rfl) (w.heap.size + 1 + 1) r Z32 (by rfl) (by rfl) hr32 Z32_len T2 ?_))
    have U2 := T2.setRow (h8 r)
    have hK : (V2.setRow (w.heap.size + 1 + 1) (h8 r)).heap[w.heap.size + 5]? = some (.deferred (some [])) := (setRow_other _ _ _ _ (by omega)).trans hdf'
    refine ⟨by simp, .inl ⟨_, _, rfl, run_takeDeferred hK, ?_⟩⟩
    exact ⟨_, res24 Try.results109 rfl hr32 (U2.put _ (by omega)), by rw [hre.out], below_put (below_setRow hbel (by omega) _) (by omega) _⟩
end Go.Proofs.Ytbfelelngoonjaa
/- Layer oracle: what the layers below give. -/
namespace Go.Proofs.Ytbfelelngoonjaa
open Go.RowKit Go.Shelf
set_option maxRecDepth 100000
set_option linter.unusedVariables false
set_option linter.unusedSimpArgs false
attribute [local go_sem] Oper.semAt_some

theorem info24 : (Try.prog.info? 32).map (fun i => (i.zero, i.size, i.bytes)) = some (some (.agg (h8 Z32)), 32, 32) := by kernel_rfl
/-- Sums one behind the other. -/
def flat32 (ls : List (List Int)) : List Value := (ls.map by8).flatten
theorem flat32_app (ls : List (List Int)) (X : List Int) : flat32 (ls ++ [X]) = flat32 ls ++ by8 X := by simp [flat32]
theorem wp_bld1 {o : Oper} {a : Act} {w : World} {K : Act → World → Prop} {Q : Exit → Act → World → Prop} (x : Operand) (ho : o.op = .buildSlice 90 1 #[(0, x)]) (X : List Int) (hx : a.eval x = .agg (h8 X)) (hX : X.length = 32)
    (h : K (a.put o.dst (.slice (some ⟨w.heap.size, 0, none⟩) 1 1)) (w.alloc (.cells (h8 X) 32))) : o.wp Try.prog a w K Q := by
  obtain ⟨i0, hi0, hz0, hz1, hz2⟩ := info_parts info24
  refine wp_buildSlice 90 32 1 _ ho (h8 X) i0 (.agg (h8 Z32)) Try.underlying90 hi0 hz0 (by rw [hz1]; omega) (by rw [hz1]; omega) ?_ h
  have e : (#[(0, x)].map fun (p : Nat × Operand) => (p.1, a.eval p.2)).toList = ([Value.agg (h8 X)].zipIdx 0).map fun x => (x.2, x.1) := by simp [hx]
  rw [hz1]
  refine Eq.trans (congrArg _ e) ?_
  rw [Great.fill_whole (s := 32) (by omega) [.agg (h8 X)] _ (fun v hv => by simp only [List.mem_singleton] at hv; rw [hv]; show (h8 X).size = 32; rw [h8_size, hX]) (by simp)]
  simp [Value.cells, h8]
/-- Proof's variables, when k levels are done. -/
structure PI (i d n cap : Nat) (sp : Option Addr) (ls : List (List Int)) (B : Nat) (w : World) (k : Nat) (W : World) : Prop where
  bel : Below w.heap.size w W
  a0 : Arr W w.heap.size 90 #[.slice sp n cap]
  a1 : Arr W (w.heap.size + 1) 3 #[.int .i64 i]
  own : W.ownsRow (w.heap.size + 2) 32 32 (.slice (some ⟨w.heap.size + 1 + 1, 0, none⟩) k d) k (flat32 (pf k ls i))
  a2 : Arr W B 90 #[.slice (some ⟨w.heap.size + 1 + 1, 0, none⟩) k d]
  a3 : Arr W (B + 1) 3 #[.int .i64 d]
theorem PI.below {i d n cap : Nat} {sp : Option Addr} {ls : List (List Int)} {B : Nat} {w : World} {k : Nat} {W W' : World} (h : PI i d n cap sp ls B w k W) (hB : w.heap.size + 3 ≤ B) (hb : Below (B + 2) W W') : PI i d n cap sp ls B w k W' :=
  ⟨h.bel.trans (hb.mono (by omega)), h.a0.below hb (by omega), h.a1.below hb (by omega), own_same h.own (fun k hk => hb.block k (by simp [Value.ownBlock] at hk; omega)), h.a2.below hb (by omega), h.a3.below hb (by omega)⟩
end Go.Proofs.Ytbfelelngoonjaa
/- Layer oracle: what the layers below give. -/
namespace Go.Proofs.Ytbfelelngoonjaa
open Go.RowKit
set_option maxRecDepth 100000
set_option linter.unusedVariables false
set_option linter.unusedSimpArgs false

/-- A witness, its path in blocks below N. -/
structure WT (N : Nat) (w : World) (sp : Option Addr) (n cap : Nat) (ls : List (List Int)) (o : List Int) (c : Int) : Prop where
  path : HS N w sp n cap ls
  o32 : o.length = 32
  c0 : 0 ≤ c
  c1 : c < 18446744073709551616
theorem WT.below {N : Nat} {w w' : World} {sp : Option Addr} {n cap : Nat} {ls : List (List Int)} {o : List Int} {c : Int} (h : WT N w sp n cap ls o c) (hb : Below N w w') : WT N w' sp n cap ls o c := ⟨h.path.below hb, h.o32, h.c0, h.c1⟩
theorem WT.here {N : Nat} {w : World} {sp : Option Addr} {n cap : Nat} {ls : List (List Int)} {o : List Int} {c : Int} (h : WT N w sp n cap ls o c) : WT w.heap.size w sp n cap ls o c := ⟨h.path.here, h.o32, h.c0, h.c1⟩
theorem WT.mono {N N' : Nat} {w : World} {sp : Option Addr} {n cap : Nat} {ls : List (List Int)} {o : List Int} {c : Int} (h : WT N w sp n cap ls o c) (hN : N ≤ N') : WT N' w sp n cap ls o c := ⟨h.path.mono hN, h.o32, h.c0, h.c1⟩
end Go.Proofs.Ytbfelelngoonjaa
