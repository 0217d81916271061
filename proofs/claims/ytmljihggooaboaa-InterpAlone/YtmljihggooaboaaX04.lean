/- Ie6, Ie7, Ie8, Ie9, Ie. -/
import Derived.Test.YtmljihggooaboaaX03
import Derived.Handy
import Derived.BigQuiet
import Derived.BigRegion
/- Layer interp: may a statement be? -/
namespace Go.Proofs.Ytmljihggooaboaa
open Go.RowKit
set_option maxRecDepth 100000
set_option linter.unusedVariables false
set_option linter.unusedSimpArgs false

set_option maxHeartbeats 2000000 in
theorem mayS_6 {α : Type} {N : Nat} {sp : Option Addr} {n cap : Nat} {fs : List FuT} {vs : Int} (w : World) (hS : RS N w 3 (FuM N w) sp n cap fs) (hN : N ≤ w.heap.size) (v f t : Int) (a : List (ExT 8)) (th el : List α) (sa : Option Addr) (na ca : Nat) (sb : Option Addr) (nb cb : Nat) (sc : Option Addr) (nc cc : Nat) (ha : na = a.length) (hth : nb = th.length) (hel : nc = el.length) :
    Calls Try.prog 57 #[.agg #[.slice sp n cap, .int .i64 vs], .agg (stC 6 v f t (.slice sa na ca) (.slice sb nb cb) (.slice sc nc cc)).toArray] w (BoP (mayS (fs.map FuT.p) vs ⟨6, v, f, t, a, th, el⟩) w) := by
  obtain ⟨r, hr⟩ : ∃ r, r = mayS (fs.map FuT.p) vs ⟨6, v, f, t, a, th, el⟩ := ⟨_, rfl⟩
  rw [← hr]
  have A0 := (Arr.new w 102 #[.slice sp n cap, .int .i64 vs]).alloc (.cells (stC 6 v f t (.slice sa na ca) (.slice sb nb cb) (.slice sc nc cc)).toArray 78)
  have A := Arr.new (w.alloc (.cells #[.slice sp n cap, .int .i64 vs] 102)) 78 (stC 6 v f t (.slice sa na ca) (.slice sb nb cb) (.slice sc nc cc)).toArray
  simp only [World.size_alloc] at A
  have hh := fun u => has_any sp n cap v vs u
  unfold BoP at hh
  have b0 : Below w.heap.size w ((w.alloc (.cells #[.slice sp n cap, .int .i64 vs] 102)).alloc (.cells (stC 6 v f t (.slice sa na ca) (.slice sb nb cb) (.slice sc nc cc)).toArray 78)) := (ab w _).alloc (by simp) _
  have ht := fun (u : World) (hb : Below ((w.alloc (.cells #[.slice sp n cap, .int .i64 vs] 102)).alloc (.cells (stC 6 v f t (.slice sa na ca) (.slice sb nb cb) (.slice sc nc cc)).toArray 78)).heap.size ((w.alloc (.cells #[.slice sp n cap, .int .i64 vs] 102)).alloc (.cells (stC 6 v f t (.slice sa na ca) (.slice sb nb cb) (.slice sc nc cc)).toArray 78)) u) => takes_any (vs := vs) (f := f) (a := (na : Int)) u (hS.imp ((b0.trans (hb.mono b0.size)).mono hN) (FuM.below ((b0.trans (hb.mono b0.size)).mono hN))) (by have := (b0.trans (hb.mono b0.size)).size; omega)
  unfold BoP at ht
  clear b0
  rw [ha] at ht
  cases htk : tkB (fs.map FuT.p) f a.length
  all_goals simp only [htk] at ht
  all_goals rw [← ha] at ht
  all_goals simp [mayS, htk] at hr
  all_goals clear htk
  all_goals replace hr := hid hr
  all_goals replace ha := hid ha
  all_goals replace hth := hid hth
  all_goals replace hel := hid hel
  all_goals clear hS
  all_goals unfold stC at *
  all_goals obtain ⟨x1, ex1⟩ : ∃ b, ((nb : Int) == 0) = b := ⟨_, rfl⟩
  all_goals obtain ⟨x2, ex2⟩ : ∃ b, ((nc : Int) == 0) = b := ⟨_, rfl⟩
  all_goals obtain ⟨x6, ex6⟩ : ∃ b, (t == 0) = b := ⟨_, rfl⟩
  all_goals by_cases hv : 0 ≤ v ∧ v < vs
  all_goals first | rw [decide_eq_true hv] at hh | rw [decide_eq_false hv] at hh
  all_goals replace hv := hid hv
  all_goals go_enter Try.func57, Try.ntmps57
  all_goals go_wp2_with (first | (go_at_call 71; go_must (refine (hh _).mono ?_; rintro e w1 ⟨rfl, hb1⟩; have B1 := ((ab w _).alloc (by simp) _).trans (hb1.mono (by simp; omega)); have d0 := (A0.bl hb1).cell 0; have d1 := (A0.bl hb1).cell 1; have c2 : w1.cell? ⟨w.heap.size + 1, 2, none⟩ = some (.int .i64 f) := (A.bl hb1).cell 2; have c3 : w1.cell? ⟨w.heap.size + 1, 3, none⟩ = some (.int .i64 t) := (A.bl hb1).cell 3; have ht := ht w1 hb1)) | (go_at_call 72; go_must (refine ht.mono ?_; rintro e w2 ⟨rfl, hb2⟩; have B2 := B1.trans (hb2.mono B1.size); have e3 : w2.cell? ⟨w.heap.size + 1, 3, none⟩ = some (.int .i64 t) := ((A.bl hb1).bl hb2).cell 3)))
  all_goals
    go_ret
    refine ⟨congrArg (fun b => Ending.returned (.bool b)) (?_ : _ = r), ?_⟩
    · have h1 := hr.out
      have h2 := ha.out
      have h3 := hth.out
      have h4 := hel.out
      have h5 := hv.out
      clear A A0 hh ht
      try subst ex1
      try subst ex2
      try subst ex6
      rw [Bool.eq_iff_iff]
      simp_all
      try (first | omega | (intros; omega))
    · first | exact B2 | exact B1
end Go.Proofs.Ytmljihggooaboaa
/- Layer interp: may a statement be? -/
namespace Go.Proofs.Ytmljihggooaboaa
open Go.RowKit
set_option maxRecDepth 100000
set_option linter.unusedVariables false
set_option linter.unusedSimpArgs false

set_option maxHeartbeats 2000000 in
theorem mayS_7 {α : Type} {N : Nat} {sp : Option Addr} {n cap : Nat} {fs : List FuT} {vs : Int} (w : World) (hS : RS N w 3 (FuM N w) sp n cap fs) (hN : N ≤ w.heap.size) (v f t : Int) (a : List (ExT 8)) (th el : List α) (sa : Option Addr) (na ca : Nat) (sb : Option Addr) (nb cb : Nat) (sc : Option Addr) (nc cc : Nat) (ha : na = a.length) (hth : nb = th.length) (hel : nc = el.length) :
    Calls Try.prog 57 #[.agg #[.slice sp n cap, .int .i64 vs], .agg (stC 7 v f t (.slice sa na ca) (.slice sb nb cb) (.slice sc nc cc)).toArray] w (BoP (mayS (fs.map FuT.p) vs ⟨7, v, f, t, a, th, el⟩) w) := by
  obtain ⟨r, hr⟩ : ∃ r, r = mayS (fs.map FuT.p) vs ⟨7, v, f, t, a, th, el⟩ := ⟨_, rfl⟩
  rw [← hr]
  have A0 := (Arr.new w 102 #[.slice sp n cap, .int .i64 vs]).alloc (.cells (stC 7 v f t (.slice sa na ca) (.slice sb nb cb) (.slice sc nc cc)).toArray 78)
  have A := Arr.new (w.alloc (.cells #[.slice sp n cap, .int .i64 vs] 102)) 78 (stC 7 v f t (.slice sa na ca) (.slice sb nb cb) (.slice sc nc cc)).toArray
  simp only [World.size_alloc] at A
  simp [mayS] at hr
  all_goals replace hr := hid hr
  all_goals replace ha := hid ha
  all_goals replace hth := hid hth
  all_goals replace hel := hid hel
  all_goals clear hS
  all_goals unfold stC at *
  all_goals obtain ⟨x1, ex1⟩ : ∃ b, ((nb : Int) == 0) = b := ⟨_, rfl⟩
  all_goals obtain ⟨x2, ex2⟩ : ∃ b, ((nc : Int) == 0) = b := ⟨_, rfl⟩
  all_goals obtain ⟨x5, ex5⟩ : ∃ b, (f == 0) = b := ⟨_, rfl⟩
  all_goals obtain ⟨x3, ex3⟩ : ∃ b, ((na : Int) == 3) = b := ⟨_, rfl⟩
  all_goals obtain ⟨x4, ex4⟩ : ∃ b, (v == 0) = b := ⟨_, rfl⟩
  all_goals go_enter Try.func57, Try.ntmps57
  all_goals go_wp2_with (fail)
  all_goals
    go_ret
    refine ⟨congrArg (fun b => Ending.returned (.bool b)) (?_ : _ = r), ?_⟩
    · have h1 := hr.out
      have h2 := ha.out
      have h3 := hth.out
      have h4 := hel.out
      skip
      clear A A0  
      try subst ex1
      try subst ex2
      try subst ex5
      try subst ex3
      try subst ex4
      rw [Bool.eq_iff_iff]
      simp_all
      try (first | omega | (intros; omega))
    · exact (ab w _).alloc (by simp) _
end Go.Proofs.Ytmljihggooaboaa
/- Layer interp: may a statement be? -/
namespace Go.Proofs.Ytmljihggooaboaa
open Go.RowKit
set_option maxRecDepth 100000
set_option linter.unusedVariables false
set_option linter.unusedSimpArgs false

set_option maxHeartbeats 2000000 in
theorem mayS_8 {α : Type} {N : Nat} {sp : Option Addr} {n cap : Nat} {fs : List FuT} {vs : Int} (w : World) (hS : RS N w 3 (FuM N w) sp n cap fs) (hN : N ≤ w.heap.size) (v f t : Int) (a : List (ExT 8)) (th el : List α) (sa : Option Addr) (na ca : Nat) (sb : Option Addr) (nb cb : Nat) (sc : Option Addr) (nc cc : Nat) (ha : na = a.length) (hth : nb = th.length) (hel : nc = el.length) :
    Calls Try.prog 57 #[.agg #[.slice sp n cap, .int .i64 vs], .agg (stC 8 v f t (.slice sa na ca) (.slice sb nb cb) (.slice sc nc cc)).toArray] w (BoP (mayS (fs.map FuT.p) vs ⟨8, v, f, t, a, th, el⟩) w) := by
  obtain ⟨r, hr⟩ : ∃ r, r = mayS (fs.map FuT.p) vs ⟨8, v, f, t, a, th, el⟩ := ⟨_, rfl⟩
  rw [← hr]
  have A0 := (Arr.new w 102 #[.slice sp n cap, .int .i64 vs]).alloc (.cells (stC 8 v f t (.slice sa na ca) (.slice sb nb cb) (.slice sc nc cc)).toArray 78)
  have A := Arr.new (w.alloc (.cells #[.slice sp n cap, .int .i64 vs] 102)) 78 (stC 8 v f t (.slice sa na ca) (.slice sb nb cb) (.slice sc nc cc)).toArray
  simp only [World.size_alloc] at A
  have hh := fun u => has_any sp n cap v vs u
  unfold BoP at hh
  simp [mayS] at hr
  all_goals replace hr := hid hr
  all_goals replace ha := hid ha
  all_goals replace hth := hid hth
  all_goals replace hel := hid hel
  all_goals clear hS
  all_goals unfold stC at *
  all_goals obtain ⟨x1, ex1⟩ : ∃ b, ((nb : Int) == 0) = b := ⟨_, rfl⟩
  all_goals obtain ⟨x2, ex2⟩ : ∃ b, ((nc : Int) == 0) = b := ⟨_, rfl⟩
  all_goals obtain ⟨x5, ex5⟩ : ∃ b, (f == 0) = b := ⟨_, rfl⟩
  all_goals obtain ⟨x6, ex6⟩ : ∃ b, (t == 0) = b := ⟨_, rfl⟩
  all_goals obtain ⟨x3, ex3⟩ : ∃ b, ((na : Int) == 2) = b := ⟨_, rfl⟩
  all_goals by_cases hv : 0 ≤ v ∧ v < vs
  all_goals first | rw [decide_eq_true hv] at hh | rw [decide_eq_false hv] at hh
  all_goals replace hv := hid hv
  all_goals go_enter Try.func57, Try.ntmps57
  all_goals go_wp2_with (go_at_call 71; go_must (refine (hh _).mono ?_; rintro e w1 ⟨rfl, hb1⟩; have B1 := ((ab w _).alloc (by simp) _).trans (hb1.mono (by simp; omega)); have d0 := (A0.bl hb1).cell 0; have d1 := (A0.bl hb1).cell 1; have c2 : w1.cell? ⟨w.heap.size + 1, 2, none⟩ = some (.int .i64 f) := (A.bl hb1).cell 2; have c3 : w1.cell? ⟨w.heap.size + 1, 3, none⟩ = some (.int .i64 t) := (A.bl hb1).cell 3))
  all_goals
    go_ret
    refine ⟨congrArg (fun b => Ending.returned (.bool b)) (?_ : _ = r), ?_⟩
    · have h1 := hr.out
      have h2 := ha.out
      have h3 := hth.out
      have h4 := hel.out
      have h5 := hv.out
      clear A A0 hh 
      try subst ex1
      try subst ex2
      try subst ex5
      try subst ex6
      try subst ex3
      rw [Bool.eq_iff_iff]
      simp_all
      try (first | omega | (intros; omega))
    · exact B1
end Go.Proofs.Ytmljihggooaboaa
/- Layer interp: may a statement be? -/
namespace Go.Proofs.Ytmljihggooaboaa
open Go.RowKit
set_option maxRecDepth 100000
set_option linter.unusedVariables false
set_option linter.unusedSimpArgs false

set_option maxHeartbeats 2000000 in
theorem mayS_9 {α : Type} {N : Nat} {sp : Option Addr} {n cap : Nat} {fs : List FuT} {vs : Int} (w : World) (hS : RS N w 3 (FuM N w) sp n cap fs) (hN : N ≤ w.heap.size) (v f t : Int) (a : List (ExT 8)) (th el : List α) (sa : Option Addr) (na ca : Nat) (sb : Option Addr) (nb cb : Nat) (sc : Option Addr) (nc cc : Nat) (ha : na = a.length) (hth : nb = th.length) (hel : nc = el.length) :
    Calls Try.prog 57 #[.agg #[.slice sp n cap, .int .i64 vs], .agg (stC 9 v f t (.slice sa na ca) (.slice sb nb cb) (.slice sc nc cc)).toArray] w (BoP (mayS (fs.map FuT.p) vs ⟨9, v, f, t, a, th, el⟩) w) := by
  obtain ⟨r, hr⟩ : ∃ r, r = mayS (fs.map FuT.p) vs ⟨9, v, f, t, a, th, el⟩ := ⟨_, rfl⟩
  rw [← hr]
  have A0 := (Arr.new w 102 #[.slice sp n cap, .int .i64 vs]).alloc (.cells (stC 9 v f t (.slice sa na ca) (.slice sb nb cb) (.slice sc nc cc)).toArray 78)
  have A := Arr.new (w.alloc (.cells #[.slice sp n cap, .int .i64 vs] 102)) 78 (stC 9 v f t (.slice sa na ca) (.slice sb nb cb) (.slice sc nc cc)).toArray
  simp only [World.size_alloc] at A
  have hh := fun u => has_any sp n cap v vs u
  unfold BoP at hh
  simp [mayS] at hr
  all_goals replace hr := hid hr
  all_goals replace ha := hid ha
  all_goals replace hth := hid hth
  all_goals replace hel := hid hel
  all_goals clear hS
  all_goals unfold stC at *
  all_goals obtain ⟨x1, ex1⟩ : ∃ b, ((nb : Int) == 0) = b := ⟨_, rfl⟩
  all_goals obtain ⟨x2, ex2⟩ : ∃ b, ((nc : Int) == 0) = b := ⟨_, rfl⟩
  all_goals obtain ⟨x5, ex5⟩ : ∃ b, (f == 0) = b := ⟨_, rfl⟩
  all_goals obtain ⟨x6, ex6⟩ : ∃ b, (t == 0) = b := ⟨_, rfl⟩
  all_goals obtain ⟨x3, ex3⟩ : ∃ b, ((na : Int) == 1) = b := ⟨_, rfl⟩
  all_goals by_cases hv : 0 ≤ v ∧ v < vs
  all_goals first | rw [decide_eq_true hv] at hh | rw [decide_eq_false hv] at hh
  all_goals replace hv := hid hv
  all_goals go_enter Try.func57, Try.ntmps57
  all_goals go_wp2_with (go_at_call 71; go_must (refine (hh _).mono ?_; rintro e w1 ⟨rfl, hb1⟩; have B1 := ((ab w _).alloc (by simp) _).trans (hb1.mono (by simp; omega)); have d0 := (A0.bl hb1).cell 0; have d1 := (A0.bl hb1).cell 1; have c2 : w1.cell? ⟨w.heap.size + 1, 2, none⟩ = some (.int .i64 f) := (A.bl hb1).cell 2; have c3 : w1.cell? ⟨w.heap.size + 1, 3, none⟩ = some (.int .i64 t) := (A.bl hb1).cell 3))
  all_goals
    go_ret
    refine ⟨congrArg (fun b => Ending.returned (.bool b)) (?_ : _ = r), ?_⟩
    · have h1 := hr.out
      have h2 := ha.out
      have h3 := hth.out
      have h4 := hel.out
      have h5 := hv.out
      clear A A0 hh 
      try subst ex1
      try subst ex2
      try subst ex5
      try subst ex6
      try subst ex3
      rw [Bool.eq_iff_iff]
      simp_all
      try (first | omega | (intros; omega))
    · exact B1
end Go.Proofs.Ytmljihggooaboaa
/- Layer interp: may a statement be, but for its parts? -/
namespace Go.Proofs.Ytmljihggooaboaa
open Go.RowKit
set_option maxRecDepth 100000
set_option linter.unusedVariables false
set_option linter.unusedSimpArgs false

theorem mayS_o {α : Type} {N : Nat} {sp : Option Addr} {n cap : Nat} {fs : List FuT} {vs : Int} (w : World) (hS : RS N w 3 (FuM N w) sp n cap fs) (hN : N ≤ w.heap.size) (k v f t : Int) (sa : Option Addr) (na ca : Nat) (sb : Option Addr) (nb cb : Nat) (sc : Option Addr) (nc cc : Nat) (h1 : (k == 1) = false) (h2 : (k == 2) = false) (h3 : (k == 3) = false) (h4 : (k == 4) = false) (h5 : (k == 5) = false) (h6 : (k == 6) = false) (h7 : (k == 7) = false) (h8 : (k == 8) = false) (h9 : (k == 9) = false) :
    Calls Try.prog 57 #[.agg #[.slice sp n cap, .int .i64 vs], .agg (stC k v f t (.slice sa na ca) (.slice sb nb cb) (.slice sc nc cc)).toArray] w (BoP false w) := by
  clear hS
  unfold stC at *
  go_enter Try.func57, Try.ntmps57
  go_wp2_with fail
  all_goals
    go_ret
    exact ⟨rfl, (ab w _).alloc (by simp) _⟩
theorem mayS_any {α : Type} {N : Nat} {sp : Option Addr} {n cap : Nat} {fs : List FuT} {vs : Int} (w : World) (hS : RS N w 3 (FuM N w) sp n cap fs) (hN : N ≤ w.heap.size) (s : StN α) (sa : Option Addr) (na ca : Nat) (sb : Option Addr) (nb cb : Nat) (sc : Option Addr) (nc cc : Nat) (ha : na = s.a.length) (hth : nb = s.th.length) (hel : nc = s.el.length) :
    Calls Try.prog 57 #[.agg #[.slice sp n cap, .int .i64 vs], .agg (stC s.k s.v s.f s.t (.slice sa na ca) (.slice sb nb cb) (.slice sc nc cc)).toArray] w (BoP (mayS (fs.map FuT.p) vs s) w) := by
  obtain ⟨k, v, f, t, a, th, el⟩ := s
  by_cases h1 : k = 1
  · subst h1; exact mayS_1 w hS hN v f t a th el sa na ca sb nb cb sc nc cc ha hth hel
  by_cases h2 : k = 2
  · subst h2; exact mayS_2 w hS hN v f t a th el sa na ca sb nb cb sc nc cc ha hth hel
  by_cases h3 : k = 3
  · subst h3; exact mayS_3 w hS hN v f t a th el sa na ca sb nb cb sc nc cc ha hth hel
  by_cases h4 : k = 4
  · subst h4; exact mayS_4 w hS hN v f t a th el sa na ca sb nb cb sc nc cc ha hth hel
  by_cases h5 : k = 5
  · subst h5; exact mayS_5 w hS hN v f t a th el sa na ca sb nb cb sc nc cc ha hth hel
  by_cases h6 : k = 6
  · subst h6; exact mayS_6 w hS hN v f t a th el sa na ca sb nb cb sc nc cc ha hth hel
  by_cases h7 : k = 7
  · subst h7; exact mayS_7 w hS hN v f t a th el sa na ca sb nb cb sc nc cc ha hth hel
  by_cases h8 : k = 8
  · subst h8; exact mayS_8 w hS hN v f t a th el sa na ca sb nb cb sc nc cc ha hth hel
  by_cases h9 : k = 9
  · subst h9; exact mayS_9 w hS hN v f t a th el sa na ca sb nb cb sc nc cc ha hth hel
  have e : mayS (fs.map FuT.p) vs ⟨k, v, f, t, a, th, el⟩ = false := by simp [mayS, h1, h2, h3, h4, h5, h6, h7, h8, h9]
  rw [e]
  exact mayS_o (α := α) w hS hN k v f t sa na ca sb nb cb sc nc cc (by simpa using h1) (by simpa using h2) (by simpa using h3) (by simpa using h4) (by simpa using h5) (by simpa using h6) (by simpa using h7) (by simpa using h8) (by simpa using h9)
end Go.Proofs.Ytmljihggooaboaa
