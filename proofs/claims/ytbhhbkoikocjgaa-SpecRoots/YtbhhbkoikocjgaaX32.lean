/- ZMj, ZMk, ZMl, ZMo. -/
import Derived.Test.YtbhhbkoikocjgaaX01
import Derived.Test.YtbhhbkoikocjgaaX02
import Derived.Test.YtbhhbkoikocjgaaX03
import Derived.Test.YtbhhbkoikocjgaaX04
import Derived.Test.YtbhhbkoikocjgaaX05
import Derived.Test.YtbhhbkoikocjgaaX06
import Derived.Test.YtbhhbkoikocjgaaX07
import Derived.Test.YtbhhbkoikocjgaaX27
import Derived.Test.YtbhhbkoikocjgaaX13
import Derived.Test.YtbhhbkoikocjgaaX30
import Derived.Test.YtbhhbkoikocjgaaX31
import Derived.BigQuiet
import Derived.BigRegion
import Derived.ChangeKeysEq
import Derived.Deep.DeepCutAuto
import Derived.Deep.DrawnRows
import Derived.Deep.MidRow
import Derived.Deep.QuietTactic
import Derived.Deep.RegionHeld3
import Derived.Deep.RegionLaw
import Derived.Deep.RegionWith
import Derived.Deep.WholeRow
import Derived.Laws.AppendOwnNone
import Derived.Laws.BitsLemmas
import Derived.Laws.BytesArg
import Derived.Laws.CopyOwn
import Derived.Lib.SlBytesConst
import Derived.LoopIn
import Derived.LoopNIn
import Derived.OwnWalkIn
import Derived.RangeFuncBound
import Derived.RangeFuncCalls
import Derived.RangeFuncLeaves
import Derived.RangeFuncNested
import Derived.RangeFuncRecord
import Derived.Shelf.Abstract
import Derived.Shelf.RegionOpen
import Derived.TacticsInMore
import Derived.WalkKit
import Derived.WalkLawsBesides
import Derived.WalkSpells
import Derived.Test.YtbhhbkoikocjgaaX10
import Derived.Test.YtbhhbkoikocjgaaX26
import Derived.Test.YtbhhbkoikocjgaaX12
import Derived.Great.BuildSlice
import Derived.Great.FillDense
import Derived.Laws.OwnMore
/- Layer spec: what the layers below give. -/
namespace Go.Proofs.Ytbhhbkoikocjgaa
set_option linter.unusedSectionVars false
set_option maxHeartbeats 1000000
open Go.RowKit Go.Shelf
set_option maxRecDepth 100000
set_option linter.unusedVariables false
set_option linter.unusedSimpArgs false
variable [DecidableEq Ac] [DecidableEq Ou] [DecidableEq Mg]
attribute [local go_sem] Oper.semAt_some

set_option maxRecDepth 100000 in
set_option maxHeartbeats 400000 in
theorem empties_any (c : Int) (w : World) :
    Calls Try.prog 115 #[.int .i64 c] w fun e w' => e = .returned (.func (Fn.func 122) #[] #[.pointer (some ⟨w.heap.size, 0, none⟩)]) ∧ w' = w.alloc (.cells #[.int .i64 c] 3) := by
  have hmf : ∀ (fn : Fn) (first cap : Array Value) (w : World), (Instr.makeFunc fn first cap).run Try.prog w = .ok (.func fn first cap) w := fun _ _ _ _ => rfl
  go_enter Try.func115, Try.ntmps115
  go_wp2
  go_ret
  exact ⟨rfl, rfl⟩
set_option maxRecDepth 100000 in
set_option maxHeartbeats 1000000 in
/-- The first c roots are told; J: what holds when so many have been told. -/
theorem empt_in (m lp gc c S0 : Nat) (hgc : gc < S0) (J : Nat → World → Prop)
    (hJc : ∀ j W, J j W → W.cell? ⟨gc, 0, none⟩ = some (.int .i64 c) ∧ S0 ≤ W.heap.size)
    (hJB : ∀ j W W', J j W → Below S0 W W' → J j W')
    (hY : ∀ j W, J j W → j < c → YieldAt Fence.wide (m - 1) Try.prog lp #[.int .i64 j, .agg (h8 (tr j []))] W fun e W' => e = .returned (.bool true) ∧ J (j + 1) W' ∧ (∀ b, S0 ≤ b → b < W.heap.size → W'.heap[b]? = W.heap[b]?))
    (W : World) (h0 : J 0 W) (hc : c ≤ 17) :
    CallsIn Fence.wide m Try.prog 122 #[.func (.yield lp) #[] #[], .pointer (some ⟨gc, 0, none⟩)] W fun e W' => (∃ v, e = .returned v) ∧ J c W' := by
  refine callsIn_of_wp Try.func122 rfl trivial ?_ rfl
  simp only [Try.ntmps122, List.size_toArray, List.length_cons, List.length_nil, Nat.reduceAdd, Nat.reduceSub, Array.replicate_succ, Array.replicate_zero, List.push_toArray, List.append_toArray, List.nil_append, List.cons_append]
  obtain ⟨c1, hsz⟩ := hJc 0 W h0
  have c1' : (W.alloc (.cells (h8 Z32) 24)).cell? ⟨gc, 0, none⟩ = some (.int .i64 c) := by rw [World.cell?_alloc_lt _ _ _ (by show gc < _; omega)]; exact c1
  have hJ0 := hJB 0 W _ h0 ((alloc_bel' W (.cells (h8 Z32) 24)).mono hsz)
  have A0 := Arr.new W 24 (h8 Z32)
  rw [h8_Z] at c1'
  gi_wp2
  gi_loopw [6] (fun d wr => ∃ j : Nat, d = .int .i64 (j : Int) ∧ j ≤ c ∧ J j wr ∧ W.heap.size < wr.heap.size ∧ Arr wr W.heap.size 24 (h8 (tr (j - 1) []))) (fun d _ => c - (intOf d).toNat)
  case atStart => exact ⟨0, rfl, by omega, hJ0, by simp, A0⟩
  case round =>
    obtain ⟨j, rfl, hj, hJj, hlt1, R0⟩ := hrel
    clear A0 hJ0 c1' c1 h0
    have hl32 : ∀ k, (tr k []).length = 32 := fun k => tr_len k [] (fun x h => by cases h)
    obtain ⟨-, hszr⟩ := hJc j wr hJj
    by_cases hlt : j < c
    · have hI : (j : Int) < c := by omega
      by_cases hj0 : j = 0
      · subst hj0
        have R0 : Arr wr W.heap.size 24 (h8 (tr 0 [])) := R0
        obtain ⟨fn, tmps, assign, body, hy, hR⟩ := hY 0 wr hJj hlt
        simp only [Int.natCast_zero] at hy
        gi_wp2_with (refine li24w (by rfl) _ (by rfl) W.heap.size 0 (by rfl) _ (hl32 0) R0.range ?_)
        refine ⟨fun h => (by cases h), hR.mono ?_⟩
        rintro e W3 ⟨rfl, hJ3, hkeep⟩
        have R3 : Arr W3 W.heap.size 24 (h8 (tr 0 [])) := (hkeep _ hsz hlt1).trans R0
        have hl3 := R3.lt
        gi_wp2
        go_roundw
        case rel => exact ⟨1, by go_num, by omega, hJ3, hl3, R3⟩
        case measure => simp [intOf]; omega
      · have hp : (0 : Int) < j := by omega
        have hprev := hl32 (j - 1)
        have htr : pr (tr (j - 1) []) (tr (j - 1) []) = tr j [] := by
          obtain ⟨k, rfl⟩ : ∃ k, j = k + 1 := ⟨j - 1, by omega⟩
          rw [tr_nil]; rfl
        have hpair := fun w => pair_h (tr (j - 1) []) (tr (j - 1) []) w hprev hprev
        rw [htr] at hpair
        clear htr
        gi_wp2_with (first
          | (refine li24w (by rfl) _ (by rfl) W.heap.size 0 (by rfl) _ hprev R0.range ?_)
          | (refine ⟨trivial, fun h => (by cases h), ?_⟩; gi_at_call 72; go_must (refine (callsIn_wide.2 (hpair _)).mono ?_; rintro e w2 ⟨rfl, hb2⟩; have hs2 := hb2.size; have R2 := R0.below hb2 hlt1; have hJ2 := hJB j wr _ hJj (below_setRow (hb2.mono hszr) hsz (h8 (tr j []))); have R2' := R2.setRow (h8 (tr j [])); obtain ⟨fn, tmps, assign, body, hy, hR⟩ := hY j _ hJ2 hlt))
          | (refine si24w (by rfl) _ _ (by rfl) W.heap.size (tr j []) _ (by rfl) (by rfl) (hl32 j) hprev R2 ?_)
          | (refine li24w (by rfl) _ (by rfl) W.heap.size 0 (by rfl) _ (hl32 j) R2'.range ?_))
        refine ⟨fun h => (by cases h), hR.mono ?_⟩
        rintro e W3 ⟨rfl, hJ3, hkeep⟩
        have R3 : Arr W3 W.heap.size 24 (h8 (tr j [])) := (hkeep _ hsz (by simp; omega)).trans R2'
        have hl3 := R3.lt
        gi_wp2
        go_roundw
        case rel => exact ⟨j + 1, by go_num, by omega, hJ3, hl3, by rw [Nat.add_sub_cancel]; exact R3⟩
        case measure => simp [intOf]; omega
    · obtain rfl : j = c := by omega
      have hI : ¬ (j : Int) < j := by omega
      gi_wp2
      go_end0
      exact ⟨⟨_, rfl⟩, hJj⟩
end Go.Proofs.Ytbhhbkoikocjgaa
/- Layer spec: what the layers below give. -/
namespace Go.Proofs.Ytbhhbkoikocjgaa
set_option linter.unusedSectionVars false
set_option maxHeartbeats 1000000
open Go.RowKit Go.Shelf
set_option maxRecDepth 100000
set_option linter.unusedVariables false
set_option linter.unusedSimpArgs false
variable [DecidableEq Ac] [DecidableEq Ou] [DecidableEq Mg]
attribute [local go_sem] Oper.semAt_some

theorem below_put {B : Nat} {a w : World} (h : Below B a w) {r : Nat} (hr : B ≤ r) (o : Obj) : Below B a (w.putObj r o) :=
  ⟨h.os, h.tape, h.output, by simpa using h.size, fun k hk => (World.putObj_heap_other (by omega)).trans (h.block k hk)⟩
theorem Arr.put {w : World} {g ty : Nat} {C : Array Value} (h : Arr w g ty C) {r : Nat} (o : Obj) (hne : g ≠ r) : Arr (w.putObj r o) g ty C := (World.putObj_heap_other hne).trans h
/-- The whole loop: I is what holds of the blocks below when so many rounds are done. -/
theorem range_emp {g : Operand} {t u : Tmp} {assign body : Code} {Q : Exit → Act → World → Prop} {a : Act} {W0 : World} (gc c D : Nat) (hD : W0.heap.size = D) (hc : c ≤ 17) (hg : a.eval g = .func (.func 122) #[] #[.pointer (some ⟨gc, 0, none⟩)]) (hgc : gc < D)
    (I : Nat → World → Prop) (hIB : ∀ j W W', I j W → Below D W W' → I j W') (hIc : ∀ j W, I j W → W.cell? ⟨gc, 0, none⟩ = some (.int .i64 c)) (h0 : I 0 W0)
    (hround : ∀ j W, I j W → j < c → D + 2 ≤ W.heap.size → ∀ m,
      assign.wpIn (Fence.wide.inRound (D + 1)) m Try.prog (Exit.then (fun a1 w1 => Below W.heap.size W w1 ∧ ∀ w2, Below (D + 1) w1 w2 → (∀ b, D + 2 ≤ b → w2.heap[b]? = w1.heap[b]?) → w2.heap.size = w1.heap.size →
        body.wpIn (Fence.wide.inRound (D + 1)) m Try.prog (Exit.then (fun a3 w3 => I (j + 1) w3 ∧ w2.heap.size ≤ w3.heap.size ∧ ∀ b, D ≤ b → b < w2.heap.size → w3.heap[b]? = w2.heap[b]?) (fun _ _ _ => False)) a1 w2) (fun _ _ _ => False))
        { tmps := (a.tmps.setIfInBounds t (.int .i64 j)).setIfInBounds u (.agg (h8 (tr j []))), defers := [] } W)
    (hdone : ∀ W' o, I c W' → D + 2 ≤ W'.heap.size → W'.heap[D]? = some (.deferred (some [])) → Q .normal { a with defers := { target := .collected D, args := #[] } :: a.defers } (W'.putObj (D + 1) o)) :
    (Code.rangeFunc g #[t, u] assign body).wpIn Fence.wide 3 Try.prog Q a W0 := by
  refine wp_range2 122 #[.pointer (some ⟨gc, 0, none⟩)] hg (enters_of Try.func122 (by kernel_rfl) rfl) (fun W => I c W ∧ D + 2 ≤ W.heap.size) ?_ (fun W' o h1 h2 => by rw [hD] at h2 ⊢; exact hdone W' o h1.1 h1.2 h2)
  intro rc h1 hpend h2 h3 h4 h5
  rw [hD]
  refine (empt_in 2 (D + 1) gc c (D + 2) (by omega) (fun j W => I j W ∧ W.heap[D]? = some (.deferred (some [])) ∧ W.heap[D + 1]? = some (.loop rc) ∧ D + 2 ≤ W.heap.size) ?hJc ?hJB ?hY _ ?h0 hc).mono ?fin
  case hJc => exact fun j W h => ⟨hIc j W h.1, h.2.2.2⟩
  case hJB => exact fun j W W' h hb => ⟨hIB j W W' h.1 (hb.mono (by omega)), (hb.block D (by omega)).trans h.2.1, (hb.block (D + 1) (by omega)).trans h.2.2.1, Nat.le_trans h.2.2.2 hb.size⟩
  case fin =>
    rintro e W' ⟨hv, hI, hdf, hlp, hsz⟩
    exact ⟨hv, ⟨hI, hsz⟩, hlp, hdf⟩
  case h0 =>
    have hb : Below D W0 ((W0.alloc (.deferred (some []))).alloc (.loop rc)) := by
      rw [← hD]; exact (alloc_bel' W0 _).alloc (by simp) _
    refine ⟨hIB 0 W0 _ h0 hb, ?_, ?_, by simp; omega⟩
    · rw [Below.heap_alloc _ _ _ (by simp; omega), ← hD]; exact heap_alloc_new W0 _
    · have := heap_alloc_new (W0.alloc (.deferred (some []))) (.loop rc)
      rwa [World.size_alloc, hD] at this
  case hY =>
    rintro j W ⟨hI, hdf, hlp, hsz⟩ hj
    refine yield_at2 _ _ hlp h2 ?_
    rw [h3, h4, h5]
    refine wpIn_mono (hround j W hI hj hsz _) ?_
    intro e a1 w1 hq
    cases e with
    | normal =>
      obtain ⟨hb1, hbody⟩ := hq
      have hl1 : w1.heap[D + 1]? = some (.loop rc) := (hb1.block _ (by omega)).trans hlp
      have hs1 := hb1.size
      refine ⟨_, run_beginRound hl1 h1, ?_⟩
      have hs2 : (w1.putObj (D + 1) (.loop { rc with state := .busy })).heap.size = w1.heap.size := by simp
      refine wpIn_mono (hbody _ (below_put (Below.refl _ _) (Nat.le_refl _) _) (fun b hb => World.putObj_heap_other (by omega)) hs2) ?_
      intro e a3 w3 hq3
      cases e with
      | normal =>
        obtain ⟨hI3, hs3, hk3⟩ := hq3
        rw [hs2] at hs3 hk3
        have l3 : w3.heap[D + 1]? = some (.loop { rc with state := .busy }) := (hk3 _ (by omega) (by omega)).trans (World.putObj_heap_same (by omega))
        refine ⟨_, _, run_endRound none l3, rfl, ⟨?_, ?_, ?_, ?_⟩, ?_⟩
        · exact hIB (j + 1) w3 _ hI3 (below_put (Below.refl _ _) (by omega) _)
        · rw [World.putObj_heap_other (by omega), hk3 D (Nat.le_refl _) (by omega), World.putObj_heap_other (by omega)]
          exact (hb1.block D (by omega)).trans hdf
        · rw [World.putObj_heap_same (by omega)]
          obtain ⟨st, pe, fn', tm, ps, asg, bd, df⟩ := rc
          cases h1; cases hpend
          rfl
        · simp; omega
        · intro b hb1' hb2
          rw [World.putObj_heap_other (by omega), hk3 b (by omega) (by omega), World.putObj_heap_other (by omega)]
          exact hb1.block b hb2
      | _ => exact hq3.elim
    | _ => exact hq.elim
end Go.Proofs.Ytbhhbkoikocjgaa
/- Layer spec: what the layers below give. -/
namespace Go.Proofs.Ytbhhbkoikocjgaa
set_option linter.unusedSectionVars false
set_option maxHeartbeats 1000000
open Go.RowKit Go.Shelf
set_option maxRecDepth 100000
set_option linter.unusedVariables false
set_option linter.unusedSimpArgs false
variable [DecidableEq Ac] [DecidableEq Ou] [DecidableEq Mg]
attribute [local go_sem] Oper.semAt_some

/-- fill's variables, when k levels are done. -/
structure FI (l : List (List Int)) (g d n : Nat) (w : World) (k : Nat) (W : World) : Prop where
  bel : Below w.heap.size w W
  a0 : Arr W w.heap.size 180 #[.pointer (some ⟨g, 0, none⟩)]
  a1 : Arr W (w.heap.size + 1) 3 #[.int .i64 n]
  a2 : Arr W (w.heap.size + 1 + 1) 24 (h8 Z32)
  a3 : Arr W (w.heap.size + 1 + 1 + 1) 24 (h8 (tr k (l.drop ((n / 2 ^ k) * 2 ^ k))))
  a4 : Arr W (w.heap.size + 1 + 1 + 1 + 1) 3 #[.int .i64 d]
theorem FI.below {l : List (List Int)} {g d n : Nat} {w : World} {k : Nat} {W W' : World} (h : FI l g d n w k W) (hb : Below (w.heap.size + 5) W W') : FI l g d n w k W' :=
  ⟨h.bel.trans (hb.mono (by omega)), h.a0.below hb (by omega), h.a1.below hb (by omega), h.a2.below hb (by omega), h.a3.below hb (by omega), h.a4.below hb (by omega)⟩
set_option maxRecDepth 100000 in
set_option maxHeartbeats 1000000 in
theorem fill_any (l : List (List Int)) (W : Nat → List Int) (g d n : Nat) (w : World) (hl32 : ∀ x ∈ l, x.length = 32) (hd : d ≤ 16) (hL : LV w g W) (hn : n = l.length) (hW : Wt l n W) (hlt : n < 2 ^ d) :
    Calls Try.prog 111 #[.pointer (some ⟨g, 0, none⟩), .int .i64 d, .int .i64 n] w fun e w' => e = .returned (.agg (h8 (tr d l))) ∧ Below w.heap.size w w' := by
  have hn63 : n ≤ 9223372036854775807 := by have := pow16 hd; omega
  replace hn := Hid.mk' hn
  replace hW := Hid.mk' hW
  replace hlt := Hid.mk' hlt
  have hgl := hL.lt
  have htl : ∀ k, (tr k (l.drop ((n / 2 ^ k) * 2 ^ k))).length = 32 := fun k => tr_len k _ (fun x hx => hl32 x (List.mem_of_mem_drop hx))
  refine (callsIn_wide (n := 3)).1 ?_
  refine callsIn_of_wp_marks Try.func111 rfl trivial ?_ rfl
  simp only [Try.ntmps111, List.size_toArray, List.length_cons, List.length_nil, Nat.reduceAdd, Nat.reduceSub, Array.replicate_succ, Array.replicate_zero, List.push_toArray, List.append_toArray, List.nil_append, List.cons_append]
  gi_wp2_with (refine ⟨trivial, ?_⟩; gi_at_call 115; go_must (refine (callsIn_wide.2 (empties_any d _)).mono ?_; rintro e w1 ⟨rfl, rfl⟩))
  rw [← h8_Z]
  have hI0 : FI l g d n w 0 (((((w.alloc (.cells #[.pointer (some ⟨g, 0, none⟩)] 180)).alloc (.cells #[.int .i64 n] 3)).alloc (.cells (h8 Z32) 24)).alloc (.cells (h8 Z32) 24)).alloc (.cells #[.int .i64 d] 3)) := by
    refine ⟨((((alloc_bel' w _).alloc (by simp) _).alloc (by simp; omega) _).alloc (by simp; omega) _).alloc (by simp; omega) _, ((((Arr.new w 180 _).alloc _).alloc _).alloc _).alloc _, ?_, ?_, ?_, ?_⟩
    · have h := Arr.new (w.alloc (.cells #[.pointer (some ⟨g, 0, none⟩)] 180)) 3 #[.int .i64 n]
      simp only [World.size_alloc] at h
      exact ((h.alloc _).alloc _).alloc _
    · have h := Arr.new ((w.alloc (.cells #[.pointer (some ⟨g, 0, none⟩)] 180)).alloc (.cells #[.int .i64 n] 3)) 24 (h8 Z32)
      simp only [World.size_alloc] at h
      exact (h.alloc _).alloc _
    · have h := Arr.new (((w.alloc (.cells #[.pointer (some ⟨g, 0, none⟩)] 180)).alloc (.cells #[.int .i64 n] 3)).alloc (.cells (h8 Z32) 24)) 24 (h8 Z32)
      simp only [World.size_alloc] at h
      have e : tr 0 (l.drop ((n / 2 ^ 0) * 2 ^ 0)) = Z32 := by rw [hn.out]; exact (fill_start l).symm
      rw [e]
      exact h.alloc _
    · have h := Arr.new ((((w.alloc (.cells #[.pointer (some ⟨g, 0, none⟩)] 180)).alloc (.cells #[.int .i64 n] 3)).alloc (.cells (h8 Z32) 24)).alloc (.cells (h8 Z32) 24)) 3 #[.int .i64 d]
      simp only [World.size_alloc] at h
      exact h
  refine range_emp (w.heap.size + 1 + 1 + 1 + 1) d (w.heap.size + 5) (by simp) (by omega) rfl (by omega) (FI l g d n w) (fun j W W' h hb => h.below hb) (fun j W h => by simpa using h.a4.cell 0) hI0 ?round ?done
  case round =>
    intro j V hI hj hsz m
    clear hI0
    have hl := tr_len j [] (fun x h => by cases h)
    gi_wp2_with (refine si24n (by rfl) _ _ (by rfl) V V.heap.size rfl (by rfl) (tr j []) (by rfl) (by rfl) hl ?_)
    refine ⟨alloc_bel' V _, fun w2 hb2 hk2 hs2 => ?_⟩
    have E2 : Arr w2 V.heap.size 24 (h8 (tr j [])) := (hk2 _ (by omega)).trans (Arr.new V 24 (h8 (tr j [])))
    have hbV : Below (w.heap.size + 5) V w2 := (alloc_bel' V _).mono (by omega) |>.trans (hb2.mono (by omega))
    have hI2 := hI.below hbV
    simp only [World.size_alloc] at hs2
    obtain ⟨hbel, T0, T1, T2, T3, T4⟩ := hI2
    have c0 := T0.cell 0
    have c1 := T1.cell 0
    simp at c0 c1
    have hr32 := htl j
    obtain ⟨r, hre⟩ : ∃ r, r = tr j (l.drop ((n / 2 ^ j) * 2 ^ j)) := ⟨_, rfl⟩
    rw [← hre] at T3 hr32
    have hjI : (j : Int) < 17 := by omega
    have hRk := range_below (hL.rg j (by omega)) hbel hgl
    have hsec := isSecond_any n j hn63 (by omega)
    have fin : Hid (∀ (v : List Int) (w3 : World), Below w2.heap.size w2 w3 → Arr w3 (w.heap.size + 1 + 1 + 1) 24 (h8 r) → v = tr (j + 1) (l.drop ((n / 2 ^ (j + 1)) * 2 ^ (j + 1))) → FI l g d n w (j + 1) (w3.setRow (w.heap.size + 1 + 1 + 1) (h8 v)) ∧ w2.heap.size ≤ (w3.setRow (w.heap.size + 1 + 1 + 1) (h8 v)).heap.size ∧ ∀ b, w.heap.size + 5 ≤ b → b < w2.heap.size → (w3.setRow (w.heap.size + 1 + 1 + 1) (h8 v)).heap[b]? = w2.heap[b]?) := Hid.mk' (by
      intro v w3 hb3 S3 hv
      have h3 := hb3.size
      refine ⟨⟨below_setRow (hbel.trans (hb3.mono (by omega))) (by omega) _, (T0.below hb3 (by omega)).setRowOther _ (by omega), (T1.below hb3 (by omega)).setRowOther _ (by omega), (T2.below hb3 (by omega)).setRowOther _ (by omega), by rw [← hv]; exact S3.setRow _, (T4.below hb3 (by omega)).setRowOther _ (by omega)⟩, by simp; omega, fun b h1 h2 => ?_⟩
      rw [setRow_other _ _ _ _ (by omega), hb3.block b h2])
    cases hd0 : decide (n / 2 ^ j % 2 = 1) with
    | true =>
      rw [hd0] at hsec
      have hd1 := Hid.mk' (of_decide_eq_true hd0)
      replace hre := Hid.mk' hre
      gi_wp2_with (first
        | (refine ⟨trivial, fun h => (by cases h), ?_⟩; gi_at_call 71; go_must (refine (callsIn_round (hsec _)).mono ?_; rintro e w2 ⟨rfl, rfl⟩)))
      refine region_round (S := fun u => Arr u w.heap.size 180 #[.pointer (some ⟨g, 0, none⟩)]) (by kernel_rfl) (by kernel_rfl) T0.drew (fun hHeld => ?_)
      refine wpAnyH_take (i := 0) (oi := ⟨_, _, _, _, _, _⟩) (v := ?_) rfl (by kernel_rfl) (by kernel_rfl) (by kernel_rfl) (fun _ _ _ h => h) (Or.inl ⟨by rfl, ?_⟩) (by assumption) ?_
      rotate_left
      · intro u hSw
        have cu := hSw.cell 0
        simp at cu
        go_simp
        try (with_reducible rfl)
      try simp only [Act.put, List.setIfInBounds_toArray, List.set_cons_zero, List.set_cons_succ]
      refine wpAnyH_take (i := 1) (oi := ⟨_, _, _, _, _, _⟩) (v := ?_) rfl (by kernel_rfl) (by kernel_rfl) (by kernel_rfl) (fun _ _ _ h => h) (Or.inl ⟨by rfl, ?_⟩) (by assumption) ?_
      rotate_left
      · intro u hSw
        have cu := hSw.cell 0
        simp at cu
        go_simp
        try (with_reducible rfl)
      try simp only [Act.put, List.setIfInBounds_toArray, List.set_cons_zero, List.set_cons_succ]
      refine wpAnyH_take (i := 2) (oi := ⟨_, _, _, _, _, _⟩) (v := ?_) rfl (by kernel_rfl) (by kernel_rfl) (by kernel_rfl) (fun _ _ _ h => h) (Or.inl ⟨by rfl, ?_⟩) (by assumption) ?_
      rotate_left
      · intro u hSw
        have cu := hSw.cell 0
        simp at cu
        go_simp
        try (with_reducible rfl)
      try simp only [Act.put, List.setIfInBounds_toArray, List.set_cons_zero, List.set_cons_succ]
      refine wpAnyH_take (i := 3) (oi := ⟨_, _, _, _, _, _⟩) (v := ?_) rfl (by kernel_rfl) (by kernel_rfl) (by kernel_rfl) (fun _ _ _ h => h) (Or.inl ⟨by rfl, ?_⟩) (by assumption) ?_
      rotate_left
      · intro u hSw
        have cu := hSw.cell 0
        simp at cu
        go_simp
        try (with_reducible rfl)
      try simp only [Act.put, List.setIfInBounds_toArray, List.set_cons_zero, List.set_cons_succ]
      refine wpAnyH_ready (rs := [4, 5]) (by kernel_rfl) (by simp) ?_
      refine AllReadyH.cons (o := ⟨_, _, _, _, _, _⟩) rfl (fun K hK => ?_) (AllReadyH.cons (o := ⟨_, _, _, _, _, _⟩) rfl (fun K hK => ?_) AllReadyH.nil)
      · refine step_want rfl (wp_load_mid 24 (.tmp 20) rfl g (j * 32) rfl (by8 (W j)) _ ((World.rangeAt_drew _ _ _ _).2 hRk) Try.underlying24 rfl (by rw [by8_len, hL.l32 j]; exact size24) ?_)
        refine hK.out _ _ T0.drew (fun hHeld => ?_)
        clear hK K
        try simp only [Act.put, List.setIfInBounds_toArray, List.set_cons_zero, List.set_cons_succ]
        refine wpAnyH_ready (rs := [5]) (by kernel_rfl) (by simp) ?_
        refine AllReadyH.cons (o := ⟨_, _, _, _, _, _⟩) rfl (fun K hK => ?_) AllReadyH.nil
        refine step_want rfl (wp_load_mid 24 (.tmp 7) rfl (w.heap.size + 1 + 1 + 1) 0 rfl (by8 r) _ T3.drew.range Try.underlying24 rfl (by rw [by8_len, hr32]; exact size24) ?_)
        refine hK.out _ _ T0.drew (fun hHeld => ?_)
        clear hK K
        try simp only [Act.put, List.setIfInBounds_toArray, List.set_cons_zero, List.set_cons_succ]
        refine wpAnyH_ready (rs := [6]) (by kernel_rfl) (by simp) ?_
        refine AllReadyH.cons (o := ⟨_, _, _, _, _, _⟩) rfl (fun K hK => ?_) AllReadyH.nil
        go_simp
        refine (pair_h (W j) r _ (hL.l32 j) hr32).mono ?_; rintro e w3 ⟨rfl, hb3⟩; have hs3 := hb3.size; simp at hs3; have S3 := T3.drew.below hb3 (by simp <;> omega)
        go_wp2_with fail
        refine hK.out _ _ (T0.drew.below hb3 (by simp <;> omega)) (fun hHeld => ?_)
        clear hK K
        try simp only [Act.put, List.setIfInBounds_toArray, List.set_cons_zero, List.set_cons_succ]
        refine wpAnyH_ready (rs := [7]) (by kernel_rfl) (by simp) ?_
        refine AllReadyH.cons (o := ⟨_, _, _, _, _, _⟩) rfl (fun K hK => ?_) AllReadyH.nil
        refine step_want rfl (wp_store_row 24 (.tmp 7) (.tmp 23) rfl (w.heap.size + 1 + 1 + 1) (h8 (pr (W j) r)) rfl rfl 24 _ S3 (s24h8 (pr_len _ _)) (by rw [h8_size, h8_size, hr32, pr_len]) (h8_one _) ?_)
        refine hK.out _ _ ((T0.drew.below hb3 (by simp <;> omega)).setRowOther _ (by omega)) (fun hHeld => ?_)
        clear hK K
        try simp only [Act.put, List.setIfInBounds_toArray, List.set_cons_zero, List.set_cons_succ]
        refine wpAnyH_done (by kernel_rfl) ?_ _
        exact fin.out (pr (W j) r) _ ((Below.refl w2.heap.size w2).drew.trans (hb3.mono (by simp))) S3 (wt_up hW.out hd1.out hre.out)
      · refine step_want rfl (wp_load_mid 24 (.tmp 7) rfl (w.heap.size + 1 + 1 + 1) 0 rfl (by8 r) _ T3.drew.range Try.underlying24 rfl (by rw [by8_len, hr32]; exact size24) ?_)
        refine hK.out _ _ T0.drew (fun hHeld => ?_)
        clear hK K
        try simp only [Act.put, List.setIfInBounds_toArray, List.set_cons_zero, List.set_cons_succ]
        refine wpAnyH_ready (rs := [4]) (by kernel_rfl) (by simp) ?_
        refine AllReadyH.cons (o := ⟨_, _, _, _, _, _⟩) rfl (fun K hK => ?_) AllReadyH.nil
        refine step_want rfl (wp_load_mid 24 (.tmp 20) rfl g (j * 32) rfl (by8 (W j)) _ ((World.rangeAt_drew _ _ _ _).2 hRk) Try.underlying24 rfl (by rw [by8_len, hL.l32 j]; exact size24) ?_)
        refine hK.out _ _ T0.drew (fun hHeld => ?_)
        clear hK K
        try simp only [Act.put, List.setIfInBounds_toArray, List.set_cons_zero, List.set_cons_succ]
        refine wpAnyH_ready (rs := [6]) (by kernel_rfl) (by simp) ?_
        refine AllReadyH.cons (o := ⟨_, _, _, _, _, _⟩) rfl (fun K hK => ?_) AllReadyH.nil
        go_simp
        refine (pair_h (W j) r _ (hL.l32 j) hr32).mono ?_; rintro e w3 ⟨rfl, hb3⟩; have hs3 := hb3.size; simp at hs3; have S3 := T3.drew.below hb3 (by simp <;> omega)
        go_wp2_with fail
        refine hK.out _ _ (T0.drew.below hb3 (by simp <;> omega)) (fun hHeld => ?_)
        clear hK K
        try simp only [Act.put, List.setIfInBounds_toArray, List.set_cons_zero, List.set_cons_succ]
        refine wpAnyH_ready (rs := [7]) (by kernel_rfl) (by simp) ?_
        refine AllReadyH.cons (o := ⟨_, _, _, _, _, _⟩) rfl (fun K hK => ?_) AllReadyH.nil
        refine step_want rfl (wp_store_row 24 (.tmp 7) (.tmp 23) rfl (w.heap.size + 1 + 1 + 1) (h8 (pr (W j) r)) rfl rfl 24 _ S3 (s24h8 (pr_len _ _)) (by rw [h8_size, h8_size, hr32, pr_len]) (h8_one _) ?_)
        refine hK.out _ _ ((T0.drew.below hb3 (by simp <;> omega)).setRowOther _ (by omega)) (fun hHeld => ?_)
        clear hK K
        try simp only [Act.put, List.setIfInBounds_toArray, List.set_cons_zero, List.set_cons_succ]
        refine wpAnyH_done (by kernel_rfl) ?_ _
        exact fin.out (pr (W j) r) _ ((Below.refl w2.heap.size w2).drew.trans (hb3.mono (by simp))) S3 (wt_up hW.out hd1.out hre.out)
    | false =>
      rw [hd0] at hsec
      have hd1 : Hid (n / 2 ^ j % 2 = 0) := Hid.mk' (by have := of_decide_eq_false hd0; omega)
      replace hre := Hid.mk' hre
      gi_wp2_with (first
        | (refine ⟨trivial, fun h => (by cases h), ?_⟩; gi_at_call 71; go_must (refine (callsIn_round (hsec _)).mono ?_; rintro e w2 ⟨rfl, rfl⟩))
        | (refine li24 (by rfl) _ (by rfl) (w.heap.size + 1 + 1 + 1) 0 (by rfl) r hr32 T3.range ?_)
        | (refine li24 (by rfl) _ (by rfl) V.heap.size 0 (by rfl) (tr j []) hl E2.range ?_)
        | (refine ⟨trivial, fun h => (by cases h), ?_⟩; gi_at_call 72; go_must (refine (callsIn_round (pair_h r (tr j []) _ hr32 hl)).mono ?_; rintro e w3 ⟨rfl, hb3⟩; have S3 := T3.below hb3 (by omega)))
        | (refine si24 (by rfl) _ _ (by rfl) (w.heap.size + 1 + 1 + 1) (pr r (tr j [])) r (by rfl) (by rfl) (pr_len _ _) hr32 S3 ?_))
      refine fin.out _ w3 hb3 S3 ?_
      rw [hre.out, hn.out]
      rw [hn.out] at hd1
      exact wt_fill0 hd1.out rfl
  case done =>
    intro V o hI hsz hdf
    obtain ⟨hbel, T0, T1, T2, T3, T4⟩ := hI.below (below_put (r := w.heap.size + 5 + 1) (Below.refl (w.heap.size + 5) V) (by omega) o)
    have hr32 := htl d
    have hend := (wt_end (l := l) (by rw [← hn.out]; exact hlt.out) rfl).symm
    rw [← hn.out] at hend
    rw [← hend] at T3 hr32
    have hdf' : (V.putObj (w.heap.size + 5 + 1) o).heap[w.heap.size + 5]? = some (.deferred (some [])) := (World.putObj_heap_other (by omega)).trans hdf
    generalize V.putObj (w.heap.size + 5 + 1) o = V2 at *
    obtain ⟨r, hre⟩ : ∃ r, r = tr d l := ⟨_, rfl⟩
    rw [← hre] at T3 hr32
    replace hre := Hid.mk' hre
    gi_wp2_with (first
      | (refine li24w (by rfl) _ (by rfl) (w.heap.size + 1 + 1 + 1) 0 (by rfl) r hr32 T3.range ?_)
      | (refine si24w (by rfl) _ _ (by rfl) (w.heap.size + 1 + 1) r Z32 (by rfl) (by rfl) hr32 Z32_len T2 ?_))
    have U2 := T2.setRow (h8 r)
    have hK : (V2.setRow (w.heap.size + 1 + 1) (h8 r)).heap[w.heap.size + 5]? = some (.deferred (some [])) := (setRow_other _ _ _ _ (by omega)).trans hdf'
    refine ⟨by simp, .inl ⟨_, _, rfl, run_takeDeferred hK, ?_⟩⟩
    exact ⟨_, res24 Try.results111 rfl hr32 (U2.put _ (by omega)), by rw [hre.out], below_put (below_setRow hbel (by omega) _) (by omega) _⟩
end Go.Proofs.Ytbhhbkoikocjgaa
/- Layer spec: what the layers below give. -/
namespace Go.Proofs.Ytbhhbkoikocjgaa
set_option linter.unusedSectionVars false
set_option maxHeartbeats 1000000
open Go.RowKit Go.Shelf
set_option maxRecDepth 100000
set_option linter.unusedVariables false
set_option linter.unusedSimpArgs false
variable [DecidableEq Ac] [DecidableEq Ou] [DecidableEq Mg]
attribute [local go_sem] Oper.semAt_some

theorem info24 : (Try.prog.info? 24).map (fun i => (i.zero, i.size, i.bytes)) = some (some (.agg (h8 Z32)), 32, 32) := by kernel_rfl
theorem flat32_app (ls : List (List Int)) (X : List Int) : flat32 (ls ++ [X]) = flat32 ls ++ by8 X := by simp [flat32]
theorem wp_bld1 {o : Oper} {a : Act} {w : World} {K : Act → World → Prop} {Q : Exit → Act → World → Prop} (x : Operand) (ho : o.op = .buildSlice 49 1 #[(0, x)]) (X : List Int) (hx : a.eval x = .agg (h8 X)) (hX : X.length = 32)
    (h : K (a.put o.dst (.slice (some ⟨w.heap.size, 0, none⟩) 1 1)) (w.alloc (.cells (h8 X) 24))) : o.wp Try.prog a w K Q := by
  obtain ⟨i0, hi0, hz0, hz1, hz2⟩ := info_parts info24
  refine wp_buildSlice 49 24 1 _ ho (h8 X) i0 (.agg (h8 Z32)) Try.underlying49 hi0 hz0 (by rw [hz1]; omega) (by rw [hz1]; omega) ?_ h
  have e : (#[(0, x)].map fun (p : Nat × Operand) => (p.1, a.eval p.2)).toList = ([Value.agg (h8 X)].zipIdx 0).map fun x => (x.2, x.1) := by simp [hx]
  rw [hz1]
  refine Eq.trans (congrArg _ e) ?_
  rw [Great.fill_whole (s := 32) (by omega) [.agg (h8 X)] _ (fun v hv => by simp only [List.mem_singleton] at hv; rw [hv]; show (h8 X).size = 32; rw [h8_size, hX]) (by simp)]
  simp [Value.cells, h8]
/-- Proof's variables, when k levels are done. -/
structure PIS (i d n cap : Nat) (sp : Option Addr) (ls : List (List Int)) (B : Nat) (w : World) (k : Nat) (W : World) : Prop where
  bel : Below w.heap.size w W
  a0 : Arr W w.heap.size 49 #[.slice sp n cap]
  a1 : Arr W (w.heap.size + 1) 3 #[.int .i64 i]
  own : W.ownsRow (w.heap.size + 2) 24 32 (.slice (some ⟨w.heap.size + 1 + 1, 0, none⟩) k d) k (flat32 (pf k ls i))
  a2 : Arr W B 49 #[.slice (some ⟨w.heap.size + 1 + 1, 0, none⟩) k d]
  a3 : Arr W (B + 1) 3 #[.int .i64 d]
theorem PIS.below {i d n cap : Nat} {sp : Option Addr} {ls : List (List Int)} {B : Nat} {w : World} {k : Nat} {W W' : World} (h : PIS i d n cap sp ls B w k W) (hB : w.heap.size + 3 ≤ B) (hb : Below (B + 2) W W') : PIS i d n cap sp ls B w k W' :=
  ⟨h.bel.trans (hb.mono (by omega)), h.a0.below hb (by omega), h.a1.below hb (by omega), own_same h.own (fun k hk => hb.block k (by simp [Value.ownBlock] at hk; omega)), h.a2.below hb (by omega), h.a3.below hb (by omega)⟩
end Go.Proofs.Ytbhhbkoikocjgaa
