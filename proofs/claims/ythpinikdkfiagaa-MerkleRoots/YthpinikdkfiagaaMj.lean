/- Layer merkle: the empty trees' roots, told one after the other. -/
import Derived.Test.YthpinikdkfiagaaMi
namespace Go.Proofs.Ythpinikdkfiagaa
open Go.RowKit Go.Shelf
set_option linter.unusedVariables false
set_option linter.unusedSimpArgs false
attribute [local go_sem] Oper.semAt_some

set_option maxRecDepth 100000 in
set_option maxHeartbeats 400000 in
theorem empties_any (c : Int) (w : World) :
    Calls Try.prog 27 #[.int .i64 c] w fun e w' => e = .returned (.func (Fn.func 38) #[] #[.pointer (some ⟨w.heap.size, 0, none⟩)]) ∧ w' = w.alloc (.cells #[.int .i64 c] 3) := by
  have hmf : ∀ (fn : Fn) (first cap : Array Value) (w : World), (Instr.makeFunc fn first cap).run Try.prog w = .ok (.func fn first cap) w := fun _ _ _ _ => rfl
  go_enter Try.func27, Try.ntmps27
  go_wp2
  go_ret
  exact ⟨rfl, rfl⟩

set_option maxRecDepth 100000 in
set_option maxHeartbeats 1000000 in
/-- The first c roots are told; J: what holds when so many have been told. -/
theorem empt_in (m lp gc c S0 : Nat) (hgc : gc < S0) (J : Nat → World → Prop)
    (hJc : ∀ j W, J j W → W.cell? ⟨gc, 0, none⟩ = some (.int .i64 c) ∧ S0 ≤ W.heap.size)
    (hJB : ∀ j W W', J j W → Below S0 W W' → J j W')
    (hY : ∀ j W, J j W → j < c → YieldAt Fence.wide (m - 1) Try.prog lp #[.int .i64 j, .agg (h8 (tr j []))] W fun e W' => e = .returned (.bool true) ∧ J (j + 1) W' ∧ (∀ b, S0 ≤ b → b < W.heap.size → W'.heap[b]? = W.heap[b]?))
    (W : World) (h0 : J 0 W) (hc : c ≤ 17) :
    CallsIn Fence.wide m Try.prog 38 #[.func (.yield lp) #[] #[], .pointer (some ⟨gc, 0, none⟩)] W fun e W' => (∃ v, e = .returned v) ∧ J c W' := by
  refine callsIn_of_wp Try.func38 rfl trivial ?_ rfl
  simp only [Try.ntmps38, List.size_toArray, List.length_cons, List.length_nil, Nat.reduceAdd, Nat.reduceSub, Array.replicate_succ, Array.replicate_zero, List.push_toArray, List.append_toArray, List.nil_append, List.cons_append]
  obtain ⟨c1, hsz⟩ := hJc 0 W h0
  have c1' : (W.alloc (.cells (h8 Z32) 24)).cell? ⟨gc, 0, none⟩ = some (.int .i64 c) := by rw [World.cell?_alloc_lt _ _ _ (by show gc < _; omega)]; exact c1
  have hJ0 := hJB 0 W _ h0 ((alloc_bel' W (.cells (h8 Z32) 24)).mono hsz)
  have A0 := Arr.new W 24 (h8 Z32)
  rw [h8_Z] at c1'
  gi_wp2
  gi_loopw [6] (fun d wr => ∃ j : Nat, d = .int .i64 (j : Int) ∧ j ≤ c ∧ J j wr ∧ W.heap.size < wr.heap.size ∧ Arr wr W.heap.size 24 (h8 (tr (j - 1) []))) (fun d _ => c - (intOf d).toNat)
  case atStart => exact ⟨0, rfl, by omega, hJ0, by simp, A0⟩
  case round =>
    obtain ⟨j, rfl, hj, hJj, hlt1, R0⟩ := hrel
    clear A0 hJ0 c1' c1 h0
    have hl32 : ∀ k, (tr k []).length = 32 := fun k => tr_len k [] (fun x h => by cases h)
    obtain ⟨-, hszr⟩ := hJc j wr hJj
    by_cases hlt : j < c
    · have hI : (j : Int) < c := by omega
      by_cases hj0 : j = 0
      · subst hj0
        have R0 : Arr wr W.heap.size 24 (h8 (tr 0 [])) := R0
        obtain ⟨fn, tmps, assign, body, hy, hR⟩ := hY 0 wr hJj hlt
        simp only [Int.natCast_zero] at hy
        gi_wp2_with (refine li24w (by rfl) _ (by rfl) W.heap.size 0 (by rfl) _ (hl32 0) R0.range ?_)
        refine ⟨fun h => (by cases h), hR.mono ?_⟩
        rintro e W3 ⟨rfl, hJ3, hkeep⟩
        have R3 : Arr W3 W.heap.size 24 (h8 (tr 0 [])) := (hkeep _ hsz hlt1).trans R0
        have hl3 := R3.lt
        gi_wp2
        go_roundw
        case rel => exact ⟨1, by go_num, by omega, hJ3, hl3, R3⟩
        case measure => simp [intOf]; omega
      · have hp : (0 : Int) < j := by omega
        have hprev := hl32 (j - 1)
        have htr : pr (tr (j - 1) []) (tr (j - 1) []) = tr j [] := by
          obtain ⟨k, rfl⟩ : ∃ k, j = k + 1 := ⟨j - 1, by omega⟩
          rw [tr_nil]; rfl
        have hpair := fun w => pair_h (tr (j - 1) []) (tr (j - 1) []) w hprev hprev
        rw [htr] at hpair
        clear htr
        gi_wp2_with (first
          | (refine li24w (by rfl) _ (by rfl) W.heap.size 0 (by rfl) _ hprev R0.range ?_)
          | (refine ⟨trivial, fun h => (by cases h), ?_⟩; gi_at_call 33; go_must (refine (callsIn_wide.2 (hpair _)).mono ?_; rintro e w2 ⟨rfl, hb2⟩; have hs2 := hb2.size; have R2 := R0.below hb2 hlt1; have hJ2 := hJB j wr _ hJj (below_setRow (hb2.mono hszr) hsz (h8 (tr j []))); have R2' := R2.setRow (h8 (tr j [])); obtain ⟨fn, tmps, assign, body, hy, hR⟩ := hY j _ hJ2 hlt))
          | (refine si24w (by rfl) _ _ (by rfl) W.heap.size (tr j []) _ (by rfl) (by rfl) (hl32 j) hprev R2 ?_)
          | (refine li24w (by rfl) _ (by rfl) W.heap.size 0 (by rfl) _ (hl32 j) R2'.range ?_))
        refine ⟨fun h => (by cases h), hR.mono ?_⟩
        rintro e W3 ⟨rfl, hJ3, hkeep⟩
        have R3 : Arr W3 W.heap.size 24 (h8 (tr j [])) := (hkeep _ hsz (by simp; omega)).trans R2'
        have hl3 := R3.lt
        gi_wp2
        go_roundw
        case rel => exact ⟨j + 1, by go_num, by omega, hJ3, hl3, by rw [Nat.add_sub_cancel]; exact R3⟩
        case measure => simp [intOf]; omega
    · obtain rfl : j = c := by omega
      have hI : ¬ (j : Int) < j := by omega
      gi_wp2
      go_end0
      exact ⟨⟨_, rfl⟩, hJj⟩
end Go.Proofs.Ythpinikdkfiagaa
