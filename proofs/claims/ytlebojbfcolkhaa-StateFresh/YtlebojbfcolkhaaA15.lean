/- Mj, Mk. -/
import Derived.Test.YtlebojbfcolkhaaA08
/- Layer merkle: the empty trees' roots, told one after the other. -/
namespace Go.Proofs.Ytlebojbfcolkhaa
open Go.RowKit Go.Shelf
set_option maxRecDepth 100000
set_option linter.unusedVariables false
set_option linter.unusedSimpArgs false
attribute [local go_sem] Oper.semAt_some

set_option maxRecDepth 100000 in
set_option maxHeartbeats 400000 in
theorem empties_any (c : Int) (w : World) :
    Calls Try.prog 91 #[.int .i64 c] w fun e w' => e = .returned (.func (Fn.func 109) #[] #[.pointer (some ⟨w.heap.size, 0, none⟩)]) ∧ w' = w.alloc (.cells #[.int .i64 c] 3) := by
  have hmf : ∀ (fn : Fn) (first cap : Array Value) (w : World), (Instr.makeFunc fn first cap).run Try.prog w = .ok (.func fn first cap) w := fun _ _ _ _ => rfl
  go_enter Try.func91, Try.ntmps91
  go_wp2
  go_ret
  exact ⟨rfl, rfl⟩

set_option maxRecDepth 100000 in
set_option maxHeartbeats 1000000 in
/-- The first c roots are told; J: what holds when so many have been told. -/
theorem empt_in (m lp gc c S0 : Nat) (hgc : gc < S0) (J : Nat → World → Prop)
    (hJc : ∀ j W, J j W → W.cell? ⟨gc, 0, none⟩ = some (.int .i64 c) ∧ S0 ≤ W.heap.size)
    (hJB : ∀ j W W', J j W → Below S0 W W' → J j W')
    (hY : ∀ j W, J j W → j < c → YieldAt Fence.wide (m - 1) Try.prog lp #[.int .i64 j, .agg (h8 (tr j []))] W fun e W' => e = .returned (.bool true) ∧ J (j + 1) W' ∧ (∀ b, S0 ≤ b → b < W.heap.size → W'.heap[b]? = W.heap[b]?))
    (W : World) (h0 : J 0 W) (hc : c ≤ 17) :
    CallsIn Fence.wide m Try.prog 109 #[.func (.yield lp) #[] #[], .pointer (some ⟨gc, 0, none⟩)] W fun e W' => (∃ v, e = .returned v) ∧ J c W' := by
  refine callsIn_of_wp Try.func109 rfl trivial ?_ rfl
  simp only [Try.ntmps109, List.size_toArray, List.length_cons, List.length_nil, Nat.reduceAdd, Nat.reduceSub, Array.replicate_succ, Array.replicate_zero, List.push_toArray, List.append_toArray, List.nil_append, List.cons_append]
  obtain ⟨c1, hsz⟩ := hJc 0 W h0
  have c1' : (W.alloc (.cells (h8 Z32) 24)).cell? ⟨gc, 0, none⟩ = some (.int .i64 c) := by rw [World.cell?_alloc_lt _ _ _ (by show gc < _; omega)]; exact c1
  have hJ0 := hJB 0 W _ h0 ((alloc_bel' W (.cells (h8 Z32) 24)).mono hsz)
  have A0 := Arr.new W 24 (h8 Z32)
  rw [h8_Z] at c1'
  gi_wp2
  gi_loopw [6] (fun d wr => ∃ j : Nat, d = .int .i64 (j : Int) ∧ j ≤ c ∧ J j wr ∧ W.heap.size < wr.heap.size ∧ Arr wr W.heap.size 24 (h8 (tr (j - 1) []))) (fun d _ => c - (intOf d).toNat)
  case atStart => exact ⟨0, rfl, by omega, hJ0, by simp, A0⟩
  case round =>
    obtain ⟨j, rfl, hj, hJj, hlt1, R0⟩ := hrel
    clear A0 hJ0 c1' c1 h0
    have hl32 : ∀ k, (tr k []).length = 32 := fun k => tr_len k [] (fun x h => by cases h)
    obtain ⟨-, hszr⟩ := hJc j wr hJj
    by_cases hlt : j < c
    · have hI : (j : Int) < c := by omega
      by_cases hj0 : j = 0
      · subst hj0
        have R0 : Arr wr W.heap.size 24 (h8 (tr 0 [])) := R0
        obtain ⟨fn, tmps, assign, body, hy, hR⟩ := hY 0 wr hJj hlt
        simp only [Int.natCast_zero] at hy
        gi_wp2_with (refine li24w (by rfl) _ (by rfl) W.heap.size 0 (by rfl) _ (hl32 0) R0.range ?_)
        refine ⟨fun h => (by cases h), hR.mono ?_⟩
        rintro e W3 ⟨rfl, hJ3, hkeep⟩
        have R3 : Arr W3 W.heap.size 24 (h8 (tr 0 [])) := (hkeep _ hsz hlt1).trans R0
        have hl3 := R3.lt
        gi_wp2
        go_roundw
        case rel => exact ⟨1, by go_num, by omega, hJ3, hl3, R3⟩
        case measure => simp [intOf]; omega
      · have hp : (0 : Int) < j := by omega
        have hprev := hl32 (j - 1)
        have htr : pr (tr (j - 1) []) (tr (j - 1) []) = tr j [] := by
          obtain ⟨k, rfl⟩ : ∃ k, j = k + 1 := ⟨j - 1, by omega⟩
          rw [tr_nil]; rfl
        have hpair := fun w => pair_h (tr (j - 1) []) (tr (j - 1) []) w hprev hprev
        rw [htr] at hpair
        clear htr
        gi_wp2_with (first
          | (refine li24w (by rfl) _ (by rfl) W.heap.size 0 (by rfl) _ hprev R0.range ?_)
          | (refine ⟨trivial, fun h => (by cases h), ?_⟩; gi_at_call 69; go_must (refine (callsIn_wide.2 (hpair _)).mono ?_; rintro e w2 ⟨rfl, hb2⟩; have hs2 := hb2.size; have R2 := R0.below hb2 hlt1; have hJ2 := hJB j wr _ hJj (below_setRow (hb2.mono hszr) hsz (h8 (tr j []))); have R2' := R2.setRow (h8 (tr j [])); obtain ⟨fn, tmps, assign, body, hy, hR⟩ := hY j _ hJ2 hlt))
          | (refine si24w (by rfl) _ _ (by rfl) W.heap.size (tr j []) _ (by rfl) (by rfl) (hl32 j) hprev R2 ?_)
          | (refine li24w (by rfl) _ (by rfl) W.heap.size 0 (by rfl) _ (hl32 j) R2'.range ?_))
        refine ⟨fun h => (by cases h), hR.mono ?_⟩
        rintro e W3 ⟨rfl, hJ3, hkeep⟩
        have R3 : Arr W3 W.heap.size 24 (h8 (tr j [])) := (hkeep _ hsz (by simp; omega)).trans R2'
        have hl3 := R3.lt
        gi_wp2
        go_roundw
        case rel => exact ⟨j + 1, by go_num, by omega, hJ3, hl3, by rw [Nat.add_sub_cancel]; exact R3⟩
        case measure => simp [intOf]; omega
    · obtain rfl : j = c := by omega
      have hI : ¬ (j : Int) < j := by omega
      gi_wp2
      go_end0
      exact ⟨⟨_, rfl⟩, hJj⟩
end Go.Proofs.Ytlebojbfcolkhaa
/- Layer merkle: a range over the empty trees' roots. -/
namespace Go.Proofs.Ytlebojbfcolkhaa
open Go.RowKit Go.Shelf
set_option maxRecDepth 100000
set_option linter.unusedVariables false
set_option linter.unusedSimpArgs false
attribute [local go_sem] Oper.semAt_some

theorem below_put {B : Nat} {a w : World} (h : Below B a w) {r : Nat} (hr : B ≤ r) (o : Obj) : Below B a (w.putObj r o) :=
  ⟨h.os, h.tape, h.output, by simpa using h.size, fun k hk => (World.putObj_heap_other (by omega)).trans (h.block k hk)⟩
theorem Arr.put {w : World} {g ty : Nat} {C : Array Value} (h : Arr w g ty C) {r : Nat} (o : Obj) (hne : g ≠ r) : Arr (w.putObj r o) g ty C := (World.putObj_heap_other hne).trans h

/-- The whole loop: I is what holds of the blocks below when so many rounds are done. -/
theorem range_emp {g : Operand} {t u : Tmp} {assign body : Code} {Q : Exit → Act → World → Prop} {a : Act} {W0 : World} (gc c D : Nat) (hD : W0.heap.size = D) (hc : c ≤ 17) (hg : a.eval g = .func (.func 109) #[] #[.pointer (some ⟨gc, 0, none⟩)]) (hgc : gc < D)
    (I : Nat → World → Prop) (hIB : ∀ j W W', I j W → Below D W W' → I j W') (hIc : ∀ j W, I j W → W.cell? ⟨gc, 0, none⟩ = some (.int .i64 c)) (h0 : I 0 W0)
    (hround : ∀ j W, I j W → j < c → D + 2 ≤ W.heap.size → ∀ m,
      assign.wpIn (Fence.wide.inRound (D + 1)) m Try.prog (Exit.then (fun a1 w1 => Below W.heap.size W w1 ∧ ∀ w2, Below (D + 1) w1 w2 → (∀ b, D + 2 ≤ b → w2.heap[b]? = w1.heap[b]?) → w2.heap.size = w1.heap.size →
        body.wpIn (Fence.wide.inRound (D + 1)) m Try.prog (Exit.then (fun a3 w3 => I (j + 1) w3 ∧ w2.heap.size ≤ w3.heap.size ∧ ∀ b, D ≤ b → b < w2.heap.size → w3.heap[b]? = w2.heap[b]?) (fun _ _ _ => False)) a1 w2) (fun _ _ _ => False))
        { tmps := (a.tmps.setIfInBounds t (.int .i64 j)).setIfInBounds u (.agg (h8 (tr j []))), defers := [] } W)
    (hdone : ∀ W' o, I c W' → D + 2 ≤ W'.heap.size → W'.heap[D]? = some (.deferred (some [])) → Q .normal { a with defers := { target := .collected D, args := #[] } :: a.defers } (W'.putObj (D + 1) o)) :
    (Code.rangeFunc g #[t, u] assign body).wpIn Fence.wide 3 Try.prog Q a W0 := by
  refine wp_range2 109 #[.pointer (some ⟨gc, 0, none⟩)] hg (enters_of Try.func109 (by kernel_rfl) rfl) (fun W => I c W ∧ D + 2 ≤ W.heap.size) ?_ (fun W' o h1 h2 => by rw [hD] at h2 ⊢; exact hdone W' o h1.1 h1.2 h2)
  intro rc h1 hpend h2 h3 h4 h5
  rw [hD]
  refine (empt_in 2 (D + 1) gc c (D + 2) (by omega) (fun j W => I j W ∧ W.heap[D]? = some (.deferred (some [])) ∧ W.heap[D + 1]? = some (.loop rc) ∧ D + 2 ≤ W.heap.size) ?hJc ?hJB ?hY _ ?h0 hc).mono ?fin
  case hJc => exact fun j W h => ⟨hIc j W h.1, h.2.2.2⟩
  case hJB => exact fun j W W' h hb => ⟨hIB j W W' h.1 (hb.mono (by omega)), (hb.block D (by omega)).trans h.2.1, (hb.block (D + 1) (by omega)).trans h.2.2.1, Nat.le_trans h.2.2.2 hb.size⟩
  case fin =>
    rintro e W' ⟨hv, hI, hdf, hlp, hsz⟩
    exact ⟨hv, ⟨hI, hsz⟩, hlp, hdf⟩
  case h0 =>
    have hb : Below D W0 ((W0.alloc (.deferred (some []))).alloc (.loop rc)) := by
      rw [← hD]; exact (alloc_bel' W0 _).alloc (by simp) _
    refine ⟨hIB 0 W0 _ h0 hb, ?_, ?_, by simp; omega⟩
    · rw [Below.heap_alloc _ _ _ (by simp; omega), ← hD]; exact heap_alloc_new W0 _
    · have := heap_alloc_new (W0.alloc (.deferred (some []))) (.loop rc)
      rwa [World.size_alloc, hD] at this
  case hY =>
    rintro j W ⟨hI, hdf, hlp, hsz⟩ hj
    refine yield_at2 _ _ hlp h2 ?_
    rw [h3, h4, h5]
    refine wpIn_mono (hround j W hI hj hsz _) ?_
    intro e a1 w1 hq
    cases e with
    | normal =>
      obtain ⟨hb1, hbody⟩ := hq
      have hl1 : w1.heap[D + 1]? = some (.loop rc) := (hb1.block _ (by omega)).trans hlp
      have hs1 := hb1.size
      refine ⟨_, run_beginRound hl1 h1, ?_⟩
      have hs2 : (w1.putObj (D + 1) (.loop { rc with state := .busy })).heap.size = w1.heap.size := by simp
      refine wpIn_mono (hbody _ (below_put (Below.refl _ _) (Nat.le_refl _) _) (fun b hb => World.putObj_heap_other (by omega)) hs2) ?_
      intro e a3 w3 hq3
      cases e with
      | normal =>
        obtain ⟨hI3, hs3, hk3⟩ := hq3
        rw [hs2] at hs3 hk3
        have l3 : w3.heap[D + 1]? = some (.loop { rc with state := .busy }) := (hk3 _ (by omega) (by omega)).trans (World.putObj_heap_same (by omega))
        refine ⟨_, _, run_endRound none l3, rfl, ⟨?_, ?_, ?_, ?_⟩, ?_⟩
        · exact hIB (j + 1) w3 _ hI3 (below_put (Below.refl _ _) (by omega) _)
        · rw [World.putObj_heap_other (by omega), hk3 D (Nat.le_refl _) (by omega), World.putObj_heap_other (by omega)]
          exact (hb1.block D (by omega)).trans hdf
        · rw [World.putObj_heap_same (by omega)]
          obtain ⟨st, pe, fn', tm, ps, asg, bd, df⟩ := rc
          cases h1; cases hpend
          rfl
        · simp; omega
        · intro b hb1' hb2
          rw [World.putObj_heap_other (by omega), hk3 b (by omega) (by omega), World.putObj_heap_other (by omega)]
          exact hb1.block b hb2
      | _ => exact hq3.elim
    | _ => exact hq.elim
end Go.Proofs.Ytlebojbfcolkhaa
