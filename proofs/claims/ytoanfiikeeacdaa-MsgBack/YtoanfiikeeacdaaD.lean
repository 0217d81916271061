/- Layer msg: which messages may be. -/
import Derived.Test.YtoanfiikeeacdaaC
namespace Go.Proofs.Ytoanfiikeeacdaa
set_option linter.unusedSectionVars false
set_option maxHeartbeats 1000000
open Go.RowKit
set_option maxRecDepth 100000
set_option linter.unusedVariables false
set_option linter.unusedSimpArgs false

variable [DecidableEq Mg]
def unn (m : Mg) : Mg := if m.kd = 2 ∨ m.kd = 3 then mg0 else if m.kd = 1 then { m with kd := 0, tw := 0, am := 0 } else m
def inB (m : Mg) : Bool := if m.kd = 1 then decide (m.tw < 32) && decide (0 < m.am) else if m.kd = 2 then decide (m.fr < 32) && decide (m.tw < 32) else if m.kd = 3 then decide (m.fr < 32) && decide (0 < m.am) else false
theorem unn_ok {m : Mg} (h : MgOK m) : MgOK (unn m) := by
  unfold unn; split
  · exact mg0_ok
  · split
    · exact ⟨by simp, by simp, h.f0, h.f1, by simp, by simp, by simp, by simp, h.n0, h.n1, h.kl, h.kb, h.nl, h.nb⟩
    · exact h
theorem may_two {m : Mg} : (decide (unn m = mg0) && inB m) = m.may := by
  unfold unn inB Mg.may
  by_cases h1 : m.kd = 1
  · have h2 : ¬ (m.kd = 2 ∨ m.kd = 3) := by omega
    have h2' : ¬ m.kd = 2 := by omega
    have h3 : ¬ m.kd = 3 := by omega
    rw [if_neg h2, if_pos h1, if_pos h1, Bool.eq_iff_iff]
    simp only [Bool.or_eq_true, Bool.and_eq_true, decide_eq_true_eq, beq_iff_eq, mg0, Mg.mk.injEq, h1]
    simp
    constructor
    · intro ⟨⟨a, b, c, d⟩, e, f⟩; exact ⟨⟨⟨⟨⟨a, e⟩, f⟩, b⟩, c⟩, d⟩
    · intro ⟨⟨⟨⟨⟨a, e⟩, f⟩, b⟩, c⟩, d⟩; exact ⟨⟨a, b, c, d⟩, e, f⟩
  · by_cases h2 : m.kd = 2
    · simp [h2]
    · by_cases h3 : m.kd = 3
      · simp [h3]
      · simp [h1, h2, h3]
theorem decgt (a b : Int) : decide (a > b) = decide (b < a) := rfl
set_option maxHeartbeats 1000000 in
theorem inBounds_any (m : Mg) (w : World) (hm : MgOK m) :
    Calls Try.prog 19 #[.agg m.arr] w fun e w' => e = .returned (.bool (inB m)) ∧ Below w.heap.size w w' := by
  have A0 := Arr.new w 27 m.arr
  have hB := alloc_bel' w (.cells m.arr 27)
  have c0 := mg_c0 A0
  have c1 := mg_c1 A0
  have c2 := mg_c2 A0
  have c3 := mg_c3 A0
  clear A0
  go_enter Try.func19, Try.ntmps19
  by_cases h1 : m.kd = 1
  · have e1 : (m.kd == 1) = true := by simpa using h1
    by_cases q1 : m.tw < 32 <;> by_cases q2 : 0 < m.am
    all_goals
      go_wp2_with fail
      go_ret
      exact ⟨by simp [inB, h1, q1, q2], hB⟩
  · have e1 : (m.kd == 1) = false := by simpa using h1
    by_cases h2 : m.kd = 2
    · have e2 : (m.kd == 2) = true := by simpa using h2
      by_cases q1 : m.fr < 32 <;> by_cases q2 : m.tw < 32
      all_goals
        go_wp2_with fail
        go_ret
        exact ⟨by simp [inB, h2, q1, q2], hB⟩
    · have e2 : (m.kd == 2) = false := by simpa using h2
      by_cases h3 : m.kd = 3
      · have e3 : (m.kd == 3) = true := by simpa using h3
        by_cases q1 : m.fr < 32 <;> by_cases q2 : 0 < m.am
        all_goals
          go_wp2_with fail
          go_ret
          exact ⟨by simp [inB, h3, q1, q2], hB⟩
      · have e3 : (m.kd == 3) = false := by simpa using h3
        go_wp2_with fail
        go_ret
        exact ⟨by simp [inB, h1, h2, h3], hB⟩
end Go.Proofs.Ytoanfiikeeacdaa
