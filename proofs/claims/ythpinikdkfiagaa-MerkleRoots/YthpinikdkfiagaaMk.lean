/- Layer merkle: a range over the empty trees' roots. -/
import Derived.Test.YthpinikdkfiagaaMj
namespace Go.Proofs.Ythpinikdkfiagaa
open Go.RowKit Go.Shelf
set_option linter.unusedVariables false
set_option linter.unusedSimpArgs false
attribute [local go_sem] Oper.semAt_some

theorem below_put {B : Nat} {a w : World} (h : Below B a w) {r : Nat} (hr : B ≤ r) (o : Obj) : Below B a (w.putObj r o) :=
  ⟨h.os, h.tape, h.output, by simpa using h.size, fun k hk => (World.putObj_heap_other (by omega)).trans (h.block k hk)⟩
theorem Arr.put {w : World} {g ty : Nat} {C : Array Value} (h : Arr w g ty C) {r : Nat} (o : Obj) (hne : g ≠ r) : Arr (w.putObj r o) g ty C := (World.putObj_heap_other hne).trans h

/-- The whole loop: I is what holds of the blocks below when so many rounds are done. -/
theorem range_emp {g : Operand} {t u : Tmp} {assign body : Code} {Q : Exit → Act → World → Prop} {a : Act} {W0 : World} (gc c D : Nat) (hD : W0.heap.size = D) (hc : c ≤ 17) (hg : a.eval g = .func (.func 38) #[] #[.pointer (some ⟨gc, 0, none⟩)]) (hgc : gc < D)
    (I : Nat → World → Prop) (hIB : ∀ j W W', I j W → Below D W W' → I j W') (hIc : ∀ j W, I j W → W.cell? ⟨gc, 0, none⟩ = some (.int .i64 c)) (h0 : I 0 W0)
    (hround : ∀ j W, I j W → j < c → D + 2 ≤ W.heap.size → ∀ m,
      assign.wpIn (Fence.wide.inRound (D + 1)) m Try.prog (Exit.then (fun a1 w1 => Below W.heap.size W w1 ∧ ∀ w2, Below (D + 1) w1 w2 → (∀ b, D + 2 ≤ b → w2.heap[b]? = w1.heap[b]?) → w2.heap.size = w1.heap.size →
        body.wpIn (Fence.wide.inRound (D + 1)) m Try.prog (Exit.then (fun a3 w3 => I (j + 1) w3 ∧ w2.heap.size ≤ w3.heap.size ∧ ∀ b, D ≤ b → b < w2.heap.size → w3.heap[b]? = w2.heap[b]?) (fun _ _ _ => False)) a1 w2) (fun _ _ _ => False))
        { tmps := (a.tmps.setIfInBounds t (.int .i64 j)).setIfInBounds u (.agg (h8 (tr j []))), defers := [] } W)
    (hdone : ∀ W' o, I c W' → D + 2 ≤ W'.heap.size → W'.heap[D]? = some (.deferred (some [])) → Q .normal { a with defers := { target := .collected D, args := #[] } :: a.defers } (W'.putObj (D + 1) o)) :
    (Code.rangeFunc g #[t, u] assign body).wpIn Fence.wide 3 Try.prog Q a W0 := by
  refine wp_range2 38 #[.pointer (some ⟨gc, 0, none⟩)] hg (enters_of Try.func38 (by kernel_rfl) rfl) (fun W => I c W ∧ D + 2 ≤ W.heap.size) ?_ (fun W' o h1 h2 => by rw [hD] at h2 ⊢; exact hdone W' o h1.1 h1.2 h2)
  intro rc h1 hpend h2 h3 h4 h5
  rw [hD]
  refine (empt_in 2 (D + 1) gc c (D + 2) (by omega) (fun j W => I j W ∧ W.heap[D]? = some (.deferred (some [])) ∧ W.heap[D + 1]? = some (.loop rc) ∧ D + 2 ≤ W.heap.size) ?hJc ?hJB ?hY _ ?h0 hc).mono ?fin
  case hJc => exact fun j W h => ⟨hIc j W h.1, h.2.2.2⟩
  case hJB => exact fun j W W' h hb => ⟨hIB j W W' h.1 (hb.mono (by omega)), (hb.block D (by omega)).trans h.2.1, (hb.block (D + 1) (by omega)).trans h.2.2.1, Nat.le_trans h.2.2.2 hb.size⟩
  case fin =>
    rintro e W' ⟨hv, hI, hdf, hlp, hsz⟩
    exact ⟨hv, ⟨hI, hsz⟩, hlp, hdf⟩
  case h0 =>
    have hb : Below D W0 ((W0.alloc (.deferred (some []))).alloc (.loop rc)) := by
      rw [← hD]; exact (alloc_bel' W0 _).alloc (by simp) _
    refine ⟨hIB 0 W0 _ h0 hb, ?_, ?_, by simp; omega⟩
    · rw [Below.heap_alloc _ _ _ (by simp; omega), ← hD]; exact heap_alloc_new W0 _
    · have := heap_alloc_new (W0.alloc (.deferred (some []))) (.loop rc)
      rwa [World.size_alloc, hD] at this
  case hY =>
    rintro j W ⟨hI, hdf, hlp, hsz⟩ hj
    refine yield_at2 _ _ hlp h2 ?_
    rw [h3, h4, h5]
    refine wpIn_mono (hround j W hI hj hsz _) ?_
    intro e a1 w1 hq
    cases e with
    | normal =>
      obtain ⟨hb1, hbody⟩ := hq
      have hl1 : w1.heap[D + 1]? = some (.loop rc) := (hb1.block _ (by omega)).trans hlp
      have hs1 := hb1.size
      refine ⟨_, run_beginRound hl1 h1, ?_⟩
      have hs2 : (w1.putObj (D + 1) (.loop { rc with state := .busy })).heap.size = w1.heap.size := by simp
      refine wpIn_mono (hbody _ (below_put (Below.refl _ _) (Nat.le_refl _) _) (fun b hb => World.putObj_heap_other (by omega)) hs2) ?_
      intro e a3 w3 hq3
      cases e with
      | normal =>
        obtain ⟨hI3, hs3, hk3⟩ := hq3
        rw [hs2] at hs3 hk3
        have l3 : w3.heap[D + 1]? = some (.loop { rc with state := .busy }) := (hk3 _ (by omega) (by omega)).trans (World.putObj_heap_same (by omega))
        refine ⟨_, _, run_endRound none l3, rfl, ⟨?_, ?_, ?_, ?_⟩, ?_⟩
        · exact hIB (j + 1) w3 _ hI3 (below_put (Below.refl _ _) (by omega) _)
        · rw [World.putObj_heap_other (by omega), hk3 D (Nat.le_refl _) (by omega), World.putObj_heap_other (by omega)]
          exact (hb1.block D (by omega)).trans hdf
        · rw [World.putObj_heap_same (by omega)]
          obtain ⟨st, pe, fn', tm, ps, asg, bd, df⟩ := rc
          cases h1; cases hpend
          rfl
        · simp; omega
        · intro b hb1' hb2
          rw [World.putObj_heap_other (by omega), hk3 b (by omega) (by omega), World.putObj_heap_other (by omega)]
          exact hb1.block b hb2
      | _ => exact hq3.elim
    | _ => exact hq.elim
end Go.Proofs.Ythpinikdkfiagaa
