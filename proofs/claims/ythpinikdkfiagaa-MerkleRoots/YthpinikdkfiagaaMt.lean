/- Layer merkle: Proof with its errors; Empty. -/
import Derived.Test.YthpinikdkfiagaaMq
namespace Go.Proofs.Ythpinikdkfiagaa
open Go.RowKit Go.Shelf
set_option linter.unusedVariables false
set_option linter.unusedSimpArgs false
attribute [local go_sem] Oper.semAt_some

/-- Why there is no proof. -/
def pE (d i : Int) (n : Nat) : Int := if (0 ≤ d ∧ d ≤ 16) ∧ 0 ≤ i ∧ i < (2 ^ d.toNat : Nat) then (if n ≤ 2 ^ d.toNat then 0 else 4) else 2
theorem rE_zero (d : Int) : rE d 0 = if 0 ≤ d ∧ d ≤ 16 then 0 else 2 := by
  unfold rE
  split
  · rw [if_pos (Nat.zero_le _)]
  · rfl
set_option maxRecDepth 100000 in
set_option maxHeartbeats 1000000 in
theorem proof_arg (d i : Int) (sp : Option Addr) (n cap : Nat) (w : World) (h : ¬ ((0 ≤ d ∧ d ≤ 16) ∧ 0 ≤ i ∧ i < (2 ^ d.toNat : Nat))) :
    Calls Try.prog 10 #[.int .i64 d, .slice sp n cap, .int .i64 i] w fun e w' => e = .returned (.tuple #[.slice none 0 0, .int .i64 2]) ∧ Below w.heap.size w w' := by
  have hb0 := (alloc_bel' w (.cells #[.slice sp n cap] 22)).alloc (by simp) (.cells #[.int .i64 i] 3)
  have A1 := Arr.new (w.alloc (.cells #[.slice sp n cap] 22)) 3 #[.int .i64 i]
  rw [World.size_alloc] at A1
  have c1 := A1.cell 0
  simp at c1
  have hmd := mayDepth_any d
  by_cases h1 : 0 ≤ d ∧ d ≤ 16
  · rw [decide_eq_true h1] at hmd
    obtain ⟨m, rfl⟩ : ∃ m : Nat, d = m := ⟨d.toNat, by omega⟩
    have hmp := mayPlace_any m (by omega) i
    rw [decide_eq_false (fun hh => h ⟨h1, by simpa using hh⟩)] at hmp
    clear h
    go_enter Try.func10, Try.ntmps10
    go_wp2_with (first
      | (go_at_call 21; go_must (refine (hmd _).mono ?_; rintro e w1 ⟨rfl, rfl⟩))
      | (go_at_call 28; go_must (refine (hmp _).mono ?_; rintro e w1 ⟨rfl, rfl⟩)))
    go_ret2
    exact ⟨rfl, hb0⟩
  · rw [decide_eq_false h1] at hmd
    clear h
    go_enter Try.func10, Try.ntmps10
    go_wp2_with (first
      | (go_at_call 21; go_must (refine (hmd _).mono ?_; rintro e w1 ⟨rfl, rfl⟩)))
    go_ret2
    exact ⟨rfl, hb0⟩
end Go.Proofs.Ythpinikdkfiagaa
