/- Layer interp: may an expression be, but for its parts? -/
import Derived.Test.YtmljihggooaboaaIb
import Derived.Handy
import Derived.BigQuiet
import Derived.BigRegion
namespace Go.Proofs.Ytmljihggooaboaa
open Go.RowKit
set_option maxRecDepth 100000
set_option linter.unusedVariables false
set_option linter.unusedSimpArgs false

def BoP (b : Bool) (w : World) (e : Ending) (w' : World) : Prop := e = .returned (.bool b) ∧ Below w.heap.size w w'
theorem has_any (sp : Option Addr) (n cap : Nat) (v vs : Int) (w : World) :
    Calls Try.prog 71 #[.agg #[.slice sp n cap, .int .i64 vs], .int .i64 v] w (BoP (decide (0 ≤ v ∧ v < vs)) w) := by
  have b0 := ab w (.cells #[.slice sp n cap, .int .i64 vs] 102)
  by_cases h1 : 0 ≤ v
  · by_cases h2 : v < vs
    · rw [decide_eq_true ⟨h1, h2⟩]
      go_enter Try.func71, Try.ntmps71
      go_wp2_with fail
      go_ret
      exact ⟨rfl, b0⟩
    · rw [decide_eq_false (fun h => h2 h.2)]
      go_enter Try.func71, Try.ntmps71
      go_wp2_with fail
      go_ret
      exact ⟨rfl, b0⟩
  · rw [decide_eq_false (fun h => h1 h.1)]
    go_enter Try.func71, Try.ntmps71
    go_wp2_with fail
    go_ret
    exact ⟨rfl, b0⟩
set_option maxHeartbeats 1000000 in
theorem mayE_1 {α : Type} (sp : Option Addr) (n cap : Nat) (vs nn v o : Int) (l : List α) (sl : Option Addr) (m cl : Nat) (w : World) (hm : m = l.length) :
    Calls Try.prog 82 #[.agg #[.slice sp n cap, .int .i64 vs], .agg (exC 1 nn v o (.slice sl m cl)).toArray] w (BoP (mayE vs ⟨1, nn, v, o, l⟩) w) := by
  have b0 : Below w.heap.size w ((w.alloc (.cells #[.slice sp n cap, .int .i64 vs] 102)).alloc (.cells (exC 1 nn v o (.slice sl m cl)).toArray 76)) := (ab w _).alloc (by simp) _
  have hh := fun u => has_any sp n cap v vs u
  unfold BoP at hh
  have A := Arr.new (w.alloc (.cells #[.slice sp n cap, .int .i64 vs] 102)) 76 (exC 1 nn v o (.slice sl m cl)).toArray
  simp only [World.size_alloc] at A
  obtain ⟨r, hr⟩ : ∃ r, r = mayE vs ⟨1, nn, v, o, l⟩ := ⟨_, rfl⟩
  rw [← hr]
  simp [mayE] at hr
  replace hr := hid hr
  replace hm := hid hm
  unfold exC at *
  skip
  skip
  skip
  all_goals go_enter Try.func82, Try.ntmps82
  all_goals go_wp2_with (fail)
  all_goals
    go_ret
    refine ⟨congrArg (fun b => Ending.returned (.bool b)) (?_ : _ = r), ?_⟩
    · have h1 := hr.out
      have h2 := hm.out
      skip
      clear b0 hh
      simp_all
      try (first | rfl | omega | (intros; omega))
    · exact (ab w _).alloc (by simp) _
set_option maxHeartbeats 1000000 in
theorem mayE_2 {α : Type} (sp : Option Addr) (n cap : Nat) (vs nn v o : Int) (l : List α) (sl : Option Addr) (m cl : Nat) (w : World) (hm : m = l.length) :
    Calls Try.prog 82 #[.agg #[.slice sp n cap, .int .i64 vs], .agg (exC 2 nn v o (.slice sl m cl)).toArray] w (BoP (mayE vs ⟨2, nn, v, o, l⟩) w) := by
  have b0 : Below w.heap.size w ((w.alloc (.cells #[.slice sp n cap, .int .i64 vs] 102)).alloc (.cells (exC 2 nn v o (.slice sl m cl)).toArray 76)) := (ab w _).alloc (by simp) _
  have hh := fun u => has_any sp n cap v vs u
  unfold BoP at hh
  have A := Arr.new (w.alloc (.cells #[.slice sp n cap, .int .i64 vs] 102)) 76 (exC 2 nn v o (.slice sl m cl)).toArray
  simp only [World.size_alloc] at A
  obtain ⟨r, hr⟩ : ∃ r, r = mayE vs ⟨2, nn, v, o, l⟩ := ⟨_, rfl⟩
  rw [← hr]
  simp [mayE] at hr
  replace hr := hid hr
  replace hm := hid hm
  unfold exC at *
  by_cases hv : 0 ≤ v ∧ v < vs
  rw [decide_eq_true hv] at hh; rotate_left; rw [decide_eq_false hv] at hh
  all_goals replace hv := hid hv
  all_goals go_enter Try.func82, Try.ntmps82
  all_goals go_wp2_with (go_at_call 71; go_must (refine (hh _).mono ?_; rintro e w1 ⟨rfl, hb1⟩; have B1 := ((ab w _).alloc (by simp) _).trans (hb1.mono (by simp; omega)); have c1 : w1.cell? ⟨w.heap.size + 1, 1, none⟩ = some (.int .u64 nn) := (A.bl hb1).cell 1; have c3 : w1.cell? ⟨w.heap.size + 1, 3, none⟩ = some (.int .u8 o) := (A.bl hb1).cell 3))
  all_goals
    go_ret
    refine ⟨congrArg (fun b => Ending.returned (.bool b)) (?_ : _ = r), ?_⟩
    · have h1 := hr.out
      have h2 := hm.out
      have h3 := hv.out
      clear b0 hh
      simp_all
      try (first | rfl | omega | (intros; omega))
    · exact B1
set_option maxHeartbeats 1000000 in
theorem mayE_3 {α : Type} (sp : Option Addr) (n cap : Nat) (vs nn v o : Int) (l : List α) (sl : Option Addr) (m cl : Nat) (w : World) (hm : m = l.length) :
    Calls Try.prog 82 #[.agg #[.slice sp n cap, .int .i64 vs], .agg (exC 3 nn v o (.slice sl m cl)).toArray] w (BoP (mayE vs ⟨3, nn, v, o, l⟩) w) := by
  have b0 : Below w.heap.size w ((w.alloc (.cells #[.slice sp n cap, .int .i64 vs] 102)).alloc (.cells (exC 3 nn v o (.slice sl m cl)).toArray 76)) := (ab w _).alloc (by simp) _
  have hh := fun u => has_any sp n cap v vs u
  unfold BoP at hh
  have A := Arr.new (w.alloc (.cells #[.slice sp n cap, .int .i64 vs] 102)) 76 (exC 3 nn v o (.slice sl m cl)).toArray
  simp only [World.size_alloc] at A
  obtain ⟨r, hr⟩ : ∃ r, r = mayE vs ⟨3, nn, v, o, l⟩ := ⟨_, rfl⟩
  rw [← hr]
  simp [mayE] at hr
  replace hr := hid hr
  replace hm := hid hm
  unfold exC at *
  skip
  skip
  skip
  all_goals go_enter Try.func82, Try.ntmps82
  all_goals go_wp2_with (fail)
  all_goals
    go_ret
    refine ⟨congrArg (fun b => Ending.returned (.bool b)) (?_ : _ = r), ?_⟩
    · have h1 := hr.out
      have h2 := hm.out
      skip
      clear b0 hh
      simp_all
      try (first | rfl | omega | (intros; omega))
    · exact (ab w _).alloc (by simp) _
set_option maxHeartbeats 1000000 in
theorem mayE_4 {α : Type} (sp : Option Addr) (n cap : Nat) (vs nn v o : Int) (l : List α) (sl : Option Addr) (m cl : Nat) (w : World) (hm : m = l.length) :
    Calls Try.prog 82 #[.agg #[.slice sp n cap, .int .i64 vs], .agg (exC 4 nn v o (.slice sl m cl)).toArray] w (BoP (mayE vs ⟨4, nn, v, o, l⟩) w) := by
  have b0 : Below w.heap.size w ((w.alloc (.cells #[.slice sp n cap, .int .i64 vs] 102)).alloc (.cells (exC 4 nn v o (.slice sl m cl)).toArray 76)) := (ab w _).alloc (by simp) _
  have hh := fun u => has_any sp n cap v vs u
  unfold BoP at hh
  have A := Arr.new (w.alloc (.cells #[.slice sp n cap, .int .i64 vs] 102)) 76 (exC 4 nn v o (.slice sl m cl)).toArray
  simp only [World.size_alloc] at A
  obtain ⟨r, hr⟩ : ∃ r, r = mayE vs ⟨4, nn, v, o, l⟩ := ⟨_, rfl⟩
  rw [← hr]
  simp [mayE] at hr
  replace hr := hid hr
  replace hm := hid hm
  unfold exC at *
  skip
  skip
  skip
  all_goals go_enter Try.func82, Try.ntmps82
  all_goals go_wp2_with (fail)
  all_goals
    go_ret
    refine ⟨congrArg (fun b => Ending.returned (.bool b)) (?_ : _ = r), ?_⟩
    · have h1 := hr.out
      have h2 := hm.out
      skip
      clear b0 hh
      simp_all
      try (first | rfl | omega | (intros; omega))
    · exact (ab w _).alloc (by simp) _
theorem mayE_o {α : Type} (sp : Option Addr) (n cap : Nat) (vs k nn v o : Int) (l : List α) (sl : Option Addr) (m cl : Nat) (w : World) (h1 : (k == 1) = false) (h2 : (k == 2) = false) (h3 : (k == 3) = false) (h4 : (k == 4) = false) :
    Calls Try.prog 82 #[.agg #[.slice sp n cap, .int .i64 vs], .agg (exC k nn v o (.slice sl m cl)).toArray] w (BoP false w) := by
  have b0 : Below w.heap.size w ((w.alloc (.cells #[.slice sp n cap, .int .i64 vs] 102)).alloc (.cells (exC k nn v o (.slice sl m cl)).toArray 76)) := (ab w _).alloc (by simp) _
  unfold exC at *
  go_enter Try.func82, Try.ntmps82
  go_wp2_with fail
  go_ret
  exact ⟨rfl, b0⟩
theorem mayE_any {α : Type} (sp : Option Addr) (n cap : Nat) (vs : Int) (t : ExN α) (sl : Option Addr) (m cl : Nat) (w : World) (hm : m = t.l.length) :
    Calls Try.prog 82 #[.agg #[.slice sp n cap, .int .i64 vs], .agg (exC t.k t.n t.v t.o (.slice sl m cl)).toArray] w (BoP (mayE vs t) w) := by
  obtain ⟨k, nn, v, o, l⟩ := t
  by_cases h1 : k = 1
  · subst h1; exact mayE_1 sp n cap vs nn v o l sl m cl w hm
  by_cases h2 : k = 2
  · subst h2; exact mayE_2 sp n cap vs nn v o l sl m cl w hm
  by_cases h3 : k = 3
  · subst h3; exact mayE_3 sp n cap vs nn v o l sl m cl w hm
  by_cases h4 : k = 4
  · subst h4; exact mayE_4 sp n cap vs nn v o l sl m cl w hm
  have e : mayE vs ⟨k, nn, v, o, l⟩ = false := by simp [mayE, h1, h2, h3, h4]
  rw [e]
  exact mayE_o sp n cap vs k nn v o l sl m cl w (by simpa using h1) (by simpa using h2) (by simpa using h3) (by simpa using h4)
end Go.Proofs.Ytmljihggooaboaa
