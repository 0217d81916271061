/- Layer interp: may a statement be? -/
import Derived.Test.YtmljihggooaboaaIe0
import Derived.Handy
import Derived.BigQuiet
import Derived.BigRegion
namespace Go.Proofs.Ytmljihggooaboaa
open Go.RowKit
set_option maxRecDepth 100000
set_option linter.unusedVariables false
set_option linter.unusedSimpArgs false

set_option maxHeartbeats 2000000 in
theorem mayS_1 {α : Type} {N : Nat} {sp : Option Addr} {n cap : Nat} {fs : List FuT} {vs : Int} (w : World) (hS : RS N w 3 (FuM N w) sp n cap fs) (hN : N ≤ w.heap.size) (v f t : Int) (a : List (ExT 8)) (th el : List α) (sa : Option Addr) (na ca : Nat) (sb : Option Addr) (nb cb : Nat) (sc : Option Addr) (nc cc : Nat) (ha : na = a.length) (hth : nb = th.length) (hel : nc = el.length) :
    Calls Try.prog 57 #[.agg #[.slice sp n cap, .int .i64 vs], .agg (stC 1 v f t (.slice sa na ca) (.slice sb nb cb) (.slice sc nc cc)).toArray] w (BoP (mayS (fs.map FuT.p) vs ⟨1, v, f, t, a, th, el⟩) w) := by
  obtain ⟨r, hr⟩ : ∃ r, r = mayS (fs.map FuT.p) vs ⟨1, v, f, t, a, th, el⟩ := ⟨_, rfl⟩
  rw [← hr]
  have A0 := (Arr.new w 102 #[.slice sp n cap, .int .i64 vs]).alloc (.cells (stC 1 v f t (.slice sa na ca) (.slice sb nb cb) (.slice sc nc cc)).toArray 78)
  have A := Arr.new (w.alloc (.cells #[.slice sp n cap, .int .i64 vs] 102)) 78 (stC 1 v f t (.slice sa na ca) (.slice sb nb cb) (.slice sc nc cc)).toArray
  simp only [World.size_alloc] at A
  have hh := fun u => has_any sp n cap v vs u
  unfold BoP at hh
  simp [mayS] at hr
  all_goals replace hr := hid hr
  all_goals replace ha := hid ha
  all_goals replace hth := hid hth
  all_goals replace hel := hid hel
  all_goals clear hS
  all_goals unfold stC at *
  all_goals obtain ⟨x1, ex1⟩ : ∃ b, ((nb : Int) == 0) = b := ⟨_, rfl⟩
  all_goals obtain ⟨x2, ex2⟩ : ∃ b, ((nc : Int) == 0) = b := ⟨_, rfl⟩
  all_goals obtain ⟨x5, ex5⟩ : ∃ b, (f == 0) = b := ⟨_, rfl⟩
  all_goals obtain ⟨x6, ex6⟩ : ∃ b, (t == 0) = b := ⟨_, rfl⟩
  all_goals obtain ⟨x3, ex3⟩ : ∃ b, ((na : Int) == 1) = b := ⟨_, rfl⟩
  all_goals by_cases hv : 0 ≤ v ∧ v < vs
  all_goals first | rw [decide_eq_true hv] at hh | rw [decide_eq_false hv] at hh
  all_goals replace hv := hid hv
  all_goals go_enter Try.func57, Try.ntmps57
  all_goals go_wp2_with (go_at_call 71; go_must (refine (hh _).mono ?_; rintro e w1 ⟨rfl, hb1⟩; have B1 := ((ab w _).alloc (by simp) _).trans (hb1.mono (by simp; omega)); have d0 := (A0.bl hb1).cell 0; have d1 := (A0.bl hb1).cell 1; have c2 : w1.cell? ⟨w.heap.size + 1, 2, none⟩ = some (.int .i64 f) := (A.bl hb1).cell 2; have c3 : w1.cell? ⟨w.heap.size + 1, 3, none⟩ = some (.int .i64 t) := (A.bl hb1).cell 3))
  all_goals
    go_ret
    refine ⟨congrArg (fun b => Ending.returned (.bool b)) (?_ : _ = r), ?_⟩
    · have h1 := hr.out
      have h2 := ha.out
      have h3 := hth.out
      have h4 := hel.out
      have h5 := hv.out
      clear A A0 hh 
      try subst ex1
      try subst ex2
      try subst ex5
      try subst ex6
      try subst ex3
      rw [Bool.eq_iff_iff]
      simp_all
      try (first | omega | (intros; omega))
    · exact B1
end Go.Proofs.Ytmljihggooaboaa
