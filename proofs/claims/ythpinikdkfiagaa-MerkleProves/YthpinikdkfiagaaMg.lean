/- Layer merkle, the document's answer: Check, Swap. -/
import Derived.Test.YthpinikdkfiagaaMe
import Derived.Test.YthpinikdkfiagaaMf
namespace Go.Proofs.Ythpinikdkfiagaa
open Go.RowKit
set_option linter.unusedVariables false
set_option linter.unusedSimpArgs false

set_option maxRecDepth 100000 in
set_option maxHeartbeats 1000000 in
theorem refCheck_any (R : List Int) (i : Int) (X : List Int) (N : Nat) (sp : Option Addr) (n cap : Nat) (ls : List (List Int)) (w : World) (hR : R.length = 32) (hX : X.length = 32) (hS : HS N w sp n cap ls) :
    Calls Try.prog 19 #[.agg (h8 R), .int .i64 i, .agg (h8 X), .slice sp n cap] w fun e w' => e = .returned (.bool (ckB R i X ls)) ∧ Below w.heap.size w w' := by
  have hb2 : Below w.heap.size w ((w.alloc (.cells (h8 R) 24)).alloc (.cells (h8 X) 24)) := (alloc_bel' w _).alloc (by simp) _
  have A0 := (Arr.new w 24 (h8 R)).alloc (.cells (h8 X) 24)
  have A1 := Arr.new (w.alloc (.cells (h8 R) 24)) 24 (h8 X)
  rw [World.size_alloc] at A1
  have hS2 := hS.here.below hb2
  have hF := fun w hS => refFold_any i X w.heap.size sp n cap ls w hX hS
  unfold foR foE at hF
  unfold ckB
  by_cases h : FoOK i ls.length
  · rw [if_pos h, if_pos h] at hF
    have hfl := fo_len (i := i.toNat) (ps := ls) hX
    have E := run_eq24 hfl hR
    rw [show decide (FoOK i ls.length ∧ fo i.toNat X ls = R) = decide (fo i.toNat X ls = R) from decide_eq_decide.2 ⟨fun q => q.2, fun q => ⟨h, q⟩⟩]
    generalize fo i.toNat X ls = Y at *
    clear h
    generalize decide (Y = R) = b at *
    go_enter Try.func19, Try.ntmps19
    go_wp2_with (first
      | (refine ld24g (by rfl) _ (by rfl) (w.heap.size + 1) 0 (by rfl) X hX A1.range ?_)
      | (go_at_call 15; go_must (refine (hF _ (hS2.mono (by simp <;> omega))).mono ?_; rintro e w2 ⟨rfl, hb3⟩; have hs3 := hb3.size; simp at hs3; have B0 := (A0.below hb3 (by simp <;> omega)).alloc (.cells (h8 Y) 24); have B1 := Arr.new w2 24 (h8 Y)))
      | (refine st24n (by rfl) _ _ (by rfl) w2 w2.heap.size rfl (by rfl) Y (by rfl) (by rfl) hfl ?_)
      | (refine ld24g (by rfl) _ (by rfl) w2.heap.size 0 (by rfl) Y hfl B1.range ?_)
      | (refine ld24g (by rfl) _ (by rfl) w.heap.size 0 (by rfl) R hR B0.range ?_))
    go_ret
    exact ⟨rfl, (hb2.trans (hb3.mono (by simp <;> omega))).alloc (by omega) _⟩
  · rw [if_neg h, if_neg h] at hF
    rw [decide_eq_false (fun hh => h hh.1)]
    clear h
    go_enter Try.func19, Try.ntmps19
    go_wp2_with (first
      | (refine ld24g (by rfl) _ (by rfl) (w.heap.size + 1) 0 (by rfl) X hX A1.range ?_)
      | (go_at_call 15; go_must (refine (hF _ (hS2.mono (by simp <;> omega))).mono ?_; rintro e w2 ⟨rfl, hb3⟩; have hs3 := hb3.size; simp at hs3; have B1 := Arr.new w2 24 (h8 Z32)))
      | (refine st24n (by rfl) _ _ (by rfl) w2 w2.heap.size rfl (by rfl) Z32 (by rfl) (by rfl) Z32_len ?_))
    go_ret
    exact ⟨rfl, (hb2.trans (hb3.mono (by simp <;> omega))).alloc (by omega) _⟩
set_option maxRecDepth 100000 in
set_option maxHeartbeats 1000000 in
theorem refSwap_any (R : List Int) (i : Int) (X Y : List Int) (N : Nat) (sp : Option Addr) (n cap : Nat) (ls : List (List Int)) (w : World) (hR : R.length = 32) (hX : X.length = 32) (hY : Y.length = 32) (hS : HS N w sp n cap ls) :
    Calls Try.prog 17 #[.agg (h8 R), .int .i64 i, .agg (h8 X), .agg (h8 Y), .slice sp n cap] w fun e w' => e = .returned (.tuple #[.agg (h8 (swR R i X Y ls)), .bool (ckB R i X ls)]) ∧ Below w.heap.size w w' := by
  have hb2 : Below w.heap.size w ((((w.alloc (.cells (h8 R) 24)).alloc (.cells (h8 X) 24)).alloc (.cells (h8 Y) 24)).alloc (.cells (h8 Z32) 24)) := (((alloc_bel' w _).alloc (by simp) _).alloc (by simp <;> omega) _).alloc (by simp <;> omega) _
  have A0 := (((Arr.new w 24 (h8 R)).alloc (.cells (h8 X) 24)).alloc (.cells (h8 Y) 24)).alloc (.cells (h8 Z32) 24)
  have A1 := ((Arr.new (w.alloc (.cells (h8 R) 24)) 24 (h8 X)).alloc (.cells (h8 Y) 24)).alloc (.cells (h8 Z32) 24)
  have A2 := (Arr.new ((w.alloc (.cells (h8 R) 24)).alloc (.cells (h8 X) 24)) 24 (h8 Y)).alloc (.cells (h8 Z32) 24)
  have A3 := Arr.new (((w.alloc (.cells (h8 R) 24)).alloc (.cells (h8 X) 24)).alloc (.cells (h8 Y) 24)) 24 (h8 Z32)
  simp only [World.size_alloc] at A1 A2 A3
  have hS2 := hS.here.below hb2
  have hC := fun w hS => refCheck_any R i X w.heap.size sp n cap ls w hR hX hS
  have hF := fun w hS => refFold_any i Y w.heap.size sp n cap ls w hY hS
  unfold foR foE at hF
  unfold swR
  cases hc : ckB R i X ls with
  | true =>
    rw [hc] at hC
    have h : FoOK i ls.length := by
      unfold ckB at hc
      exact (of_decide_eq_true hc).1
    rw [if_pos h, if_pos h] at hF
    rw [if_pos rfl]
    have hfl := fo_len (i := i.toNat) (ps := ls) hY
    generalize fo i.toNat Y ls = V at *
    clear h hc
    go_enter Try.func17, Try.ntmps17
    go_wp2_with (first
      | (refine ld24 (by rfl) _ (by rfl) w.heap.size 0 (by rfl) R hR A0.range ?_)
      | (refine ld24 (by rfl) _ (by rfl) (w.heap.size + 1) 0 (by rfl) X hX A1.range ?_)
      | (go_at_call 19; go_must (refine (hC _ (hS2.mono (by simp <;> omega))).mono ?_; rintro e w2 ⟨rfl, hb3⟩; have hs3 := hb3.size; simp at hs3; have hw3 := hb2.trans (hb3.mono (by simp <;> omega)); have B2 := A2.below hb3 (by simp <;> omega); have B3 := A3.below hb3 (by simp); have hS3 := hS.here.below hw3))
      | (refine ld24 (by rfl) _ (by rfl) (w.heap.size + 1 + 1) 0 (by rfl) Y hY B2.range ?_)
      | (go_at_call 15; go_must (refine (hF _ (hS3.mono (by omega))).mono ?_; rintro e w4 ⟨rfl, hb4⟩; have hs4 := hb4.size; have hw4 := hw3.trans (hb4.mono (by omega)); have C3 := (B3.below hb4 (by omega)).alloc (.cells (h8 V) 24); have C4 := Arr.new w4 24 (h8 V)))
      | (refine st24n (by rfl) _ _ (by rfl) w4 w4.heap.size rfl (by rfl) V (by rfl) (by rfl) hfl ?_)
      | (refine ld24 (by rfl) _ (by rfl) w4.heap.size 0 (by rfl) V hfl C4.range ?_)
      | (refine st24 (by rfl) _ _ (by rfl) (w.heap.size + 1 + 1 + 1) V Z32 (by rfl) (by rfl) hfl Z32_len C3 ?_))
    exact bodyPost_ret (v := .tuple #[.agg (h8 V), .bool true]) (resP Try.results17 rfl rfl hfl (C3.setRow _)) rfl ⟨rfl, below_setRow (hw4.alloc (by omega) _) (by omega) _⟩
  | false =>
    rw [hc] at hC
    rw [if_neg (by decide)]
    clear hc hF
    go_enter Try.func17, Try.ntmps17
    go_wp2_with (first
      | (refine ld24 (by rfl) _ (by rfl) w.heap.size 0 (by rfl) R hR A0.range ?_)
      | (refine ld24 (by rfl) _ (by rfl) (w.heap.size + 1) 0 (by rfl) X hX A1.range ?_)
      | (go_at_call 19; go_must (refine (hC _ (hS2.mono (by simp <;> omega))).mono ?_; rintro e w2 ⟨rfl, hb3⟩; have hs3 := hb3.size; simp at hs3; have hw3 := hb2.trans (hb3.mono (by simp <;> omega)); have B3 := A3.below hb3 (by simp)))
      | (refine st24 (by rfl) _ _ (by rfl) (w.heap.size + 1 + 1 + 1) Z32 Z32 (by rfl) (by rfl) Z32_len Z32_len B3 ?_))
    exact bodyPost_ret (v := .tuple #[.agg (h8 Z32), .bool false]) (resP Try.results17 rfl rfl Z32_len (B3.setRow _)) rfl ⟨rfl, below_setRow hw3 (by omega) _⟩
end Go.Proofs.Ythpinikdkfiagaa
