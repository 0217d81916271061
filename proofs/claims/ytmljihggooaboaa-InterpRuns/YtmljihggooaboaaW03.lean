/- Ie5, Ie6, Ie7, Ie8, Ie9, Ie, If, Ig0. -/
import Derived.Test.YtmljihggooaboaaW02
import Derived.Handy
import Derived.BigQuiet
import Derived.BigRegion
/- Layer interp: may a statement be? -/
namespace Go.Proofs.Ytmljihggooaboaa
open Go.RowKit
set_option maxRecDepth 100000
set_option linter.unusedVariables false
set_option linter.unusedSimpArgs false

set_option maxHeartbeats 2000000 in
theorem mayS_5 {α : Type} {N : Nat} {sp : Option Addr} {n cap : Nat} {fs : List FuT} {vs : Int} (w : World) (hS : RS N w 3 (FuM N w) sp n cap fs) (hN : N ≤ w.heap.size) (v f t : Int) (a : List (ExT 8)) (th el : List α) (sa : Option Addr) (na ca : Nat) (sb : Option Addr) (nb cb : Nat) (sc : Option Addr) (nc cc : Nat) (ha : na = a.length) (hth : nb = th.length) (hel : nc = el.length) :
    Calls Try.prog 57 #[.agg #[.slice sp n cap, .int .i64 vs], .agg (stC 5 v f t (.slice sa na ca) (.slice sb nb cb) (.slice sc nc cc)).toArray] w (BoP (mayS (fs.map FuT.p) vs ⟨5, v, f, t, a, th, el⟩) w) := by
  obtain ⟨r, hr⟩ : ∃ r, r = mayS (fs.map FuT.p) vs ⟨5, v, f, t, a, th, el⟩ := ⟨_, rfl⟩
  rw [← hr]
  have A0 := (Arr.new w 102 #[.slice sp n cap, .int .i64 vs]).alloc (.cells (stC 5 v f t (.slice sa na ca) (.slice sb nb cb) (.slice sc nc cc)).toArray 78)
  have A := Arr.new (w.alloc (.cells #[.slice sp n cap, .int .i64 vs] 102)) 78 (stC 5 v f t (.slice sa na ca) (.slice sb nb cb) (.slice sc nc cc)).toArray
  simp only [World.size_alloc] at A
  simp [mayS] at hr
  all_goals replace hr := hid hr
  all_goals replace ha := hid ha
  all_goals replace hth := hid hth
  all_goals replace hel := hid hel
  all_goals clear hS
  all_goals unfold stC at *
  all_goals obtain ⟨x1, ex1⟩ : ∃ b, ((nb : Int) == 0) = b := ⟨_, rfl⟩
  all_goals obtain ⟨x2, ex2⟩ : ∃ b, ((nc : Int) == 0) = b := ⟨_, rfl⟩
  all_goals obtain ⟨x5, ex5⟩ : ∃ b, (f == 0) = b := ⟨_, rfl⟩
  all_goals obtain ⟨x6, ex6⟩ : ∃ b, (t == 0) = b := ⟨_, rfl⟩
  all_goals obtain ⟨x3, ex3⟩ : ∃ b, ((na : Int) == 1) = b := ⟨_, rfl⟩
  all_goals obtain ⟨x4, ex4⟩ : ∃ b, (v == 0) = b := ⟨_, rfl⟩
  all_goals go_enter Try.func57, Try.ntmps57
  all_goals go_wp2_with (fail)
  all_goals
    go_ret
    refine ⟨congrArg (fun b => Ending.returned (.bool b)) (?_ : _ = r), ?_⟩
    · have h1 := hr.out
      have h2 := ha.out
      have h3 := hth.out
      have h4 := hel.out
      skip
      clear A A0  
      try subst ex1
      try subst ex2
      try subst ex5
      try subst ex6
      try subst ex3
      try subst ex4
      rw [Bool.eq_iff_iff]
      simp_all
      try (first | omega | (intros; omega))
    · exact (ab w _).alloc (by simp) _
end Go.Proofs.Ytmljihggooaboaa
/- Layer interp: may a statement be? -/
namespace Go.Proofs.Ytmljihggooaboaa
open Go.RowKit
set_option maxRecDepth 100000
set_option linter.unusedVariables false
set_option linter.unusedSimpArgs false

set_option maxHeartbeats 2000000 in
theorem mayS_6 {α : Type} {N : Nat} {sp : Option Addr} {n cap : Nat} {fs : List FuT} {vs : Int} (w : World) (hS : RS N w 3 (FuM N w) sp n cap fs) (hN : N ≤ w.heap.size) (v f t : Int) (a : List (ExT 8)) (th el : List α) (sa : Option Addr) (na ca : Nat) (sb : Option Addr) (nb cb : Nat) (sc : Option Addr) (nc cc : Nat) (ha : na = a.length) (hth : nb = th.length) (hel : nc = el.length) :
    Calls Try.prog 57 #[.agg #[.slice sp n cap, .int .i64 vs], .agg (stC 6 v f t (.slice sa na ca) (.slice sb nb cb) (.slice sc nc cc)).toArray] w (BoP (mayS (fs.map FuT.p) vs ⟨6, v, f, t, a, th, el⟩) w) := by
  obtain ⟨r, hr⟩ : ∃ r, r = mayS (fs.map FuT.p) vs ⟨6, v, f, t, a, th, el⟩ := ⟨_, rfl⟩
  rw [← hr]
  have A0 := (Arr.new w 102 #[.slice sp n cap, .int .i64 vs]).alloc (.cells (stC 6 v f t (.slice sa na ca) (.slice sb nb cb) (.slice sc nc cc)).toArray 78)
  have A := Arr.new (w.alloc (.cells #[.slice sp n cap, .int .i64 vs] 102)) 78 (stC 6 v f t (.slice sa na ca) (.slice sb nb cb) (.slice sc nc cc)).toArray
  simp only [World.size_alloc] at A
  have hh := fun u => has_any sp n cap v vs u
  unfold BoP at hh
  have b0 : Below w.heap.size w ((w.alloc (.cells #[.slice sp n cap, .int .i64 vs] 102)).alloc (.cells (stC 6 v f t (.slice sa na ca) (.slice sb nb cb) (.slice sc nc cc)).toArray 78)) := (ab w _).alloc (by simp) _
  have ht := fun (u : World) (hb : Below ((w.alloc (.cells #[.slice sp n cap, .int .i64 vs] 102)).alloc (.cells (stC 6 v f t (.slice sa na ca) (.slice sb nb cb) (.slice sc nc cc)).toArray 78)).heap.size ((w.alloc (.cells #[.slice sp n cap, .int .i64 vs] 102)).alloc (.cells (stC 6 v f t (.slice sa na ca) (.slice sb nb cb) (.slice sc nc cc)).toArray 78)) u) => takes_any (vs := vs) (f := f) (a := (na : Int)) u (hS.imp ((b0.trans (hb.mono b0.size)).mono hN) (FuM.below ((b0.trans (hb.mono b0.size)).mono hN))) (by have := (b0.trans (hb.mono b0.size)).size; omega)
  unfold BoP at ht
  clear b0
  rw [ha] at ht
  cases htk : tkB (fs.map FuT.p) f a.length
  all_goals simp only [htk] at ht
  all_goals rw [← ha] at ht
  all_goals simp [mayS, htk] at hr
  all_goals clear htk
  all_goals replace hr := hid hr
  all_goals replace ha := hid ha
  all_goals replace hth := hid hth
  all_goals replace hel := hid hel
  all_goals clear hS
  all_goals unfold stC at *
  all_goals obtain ⟨x1, ex1⟩ : ∃ b, ((nb : Int) == 0) = b := ⟨_, rfl⟩
  all_goals obtain ⟨x2, ex2⟩ : ∃ b, ((nc : Int) == 0) = b := ⟨_, rfl⟩
  all_goals obtain ⟨x6, ex6⟩ : ∃ b, (t == 0) = b := ⟨_, rfl⟩
  all_goals by_cases hv : 0 ≤ v ∧ v < vs
  all_goals first | rw [decide_eq_true hv] at hh | rw [decide_eq_false hv] at hh
  all_goals replace hv := hid hv
  all_goals go_enter Try.func57, Try.ntmps57
  all_goals go_wp2_with (first | (go_at_call 71; go_must (refine (hh _).mono ?_; rintro e w1 ⟨rfl, hb1⟩; have B1 := ((ab w _).alloc (by simp) _).trans (hb1.mono (by simp; omega)); have d0 := (A0.bl hb1).cell 0; have d1 := (A0.bl hb1).cell 1; have c2 : w1.cell? ⟨w.heap.size + 1, 2, none⟩ = some (.int .i64 f) := (A.bl hb1).cell 2; have c3 : w1.cell? ⟨w.heap.size + 1, 3, none⟩ = some (.int .i64 t) := (A.bl hb1).cell 3; have ht := ht w1 hb1)) | (go_at_call 72; go_must (refine ht.mono ?_; rintro e w2 ⟨rfl, hb2⟩; have B2 := B1.trans (hb2.mono B1.size); have e3 : w2.cell? ⟨w.heap.size + 1, 3, none⟩ = some (.int .i64 t) := ((A.bl hb1).bl hb2).cell 3)))
  all_goals
    go_ret
    refine ⟨congrArg (fun b => Ending.returned (.bool b)) (?_ : _ = r), ?_⟩
    · have h1 := hr.out
      have h2 := ha.out
      have h3 := hth.out
      have h4 := hel.out
      have h5 := hv.out
      clear A A0 hh ht
      try subst ex1
      try subst ex2
      try subst ex6
      rw [Bool.eq_iff_iff]
      simp_all
      try (first | omega | (intros; omega))
    · first | exact B2 | exact B1
end Go.Proofs.Ytmljihggooaboaa
/- Layer interp: may a statement be? -/
namespace Go.Proofs.Ytmljihggooaboaa
open Go.RowKit
set_option maxRecDepth 100000
set_option linter.unusedVariables false
set_option linter.unusedSimpArgs false

set_option maxHeartbeats 2000000 in
theorem mayS_7 {α : Type} {N : Nat} {sp : Option Addr} {n cap : Nat} {fs : List FuT} {vs : Int} (w : World) (hS : RS N w 3 (FuM N w) sp n cap fs) (hN : N ≤ w.heap.size) (v f t : Int) (a : List (ExT 8)) (th el : List α) (sa : Option Addr) (na ca : Nat) (sb : Option Addr) (nb cb : Nat) (sc : Option Addr) (nc cc : Nat) (ha : na = a.length) (hth : nb = th.length) (hel : nc = el.length) :
    Calls Try.prog 57 #[.agg #[.slice sp n cap, .int .i64 vs], .agg (stC 7 v f t (.slice sa na ca) (.slice sb nb cb) (.slice sc nc cc)).toArray] w (BoP (mayS (fs.map FuT.p) vs ⟨7, v, f, t, a, th, el⟩) w) := by
  obtain ⟨r, hr⟩ : ∃ r, r = mayS (fs.map FuT.p) vs ⟨7, v, f, t, a, th, el⟩ := ⟨_, rfl⟩
  rw [← hr]
  have A0 := (Arr.new w 102 #[.slice sp n cap, .int .i64 vs]).alloc (.cells (stC 7 v f t (.slice sa na ca) (.slice sb nb cb) (.slice sc nc cc)).toArray 78)
  have A := Arr.new (w.alloc (.cells #[.slice sp n cap, .int .i64 vs] 102)) 78 (stC 7 v f t (.slice sa na ca) (.slice sb nb cb) (.slice sc nc cc)).toArray
  simp only [World.size_alloc] at A
  simp [mayS] at hr
  all_goals replace hr := hid hr
  all_goals replace ha := hid ha
  all_goals replace hth := hid hth
  all_goals replace hel := hid hel
  all_goals clear hS
  all_goals unfold stC at *
  all_goals obtain ⟨x1, ex1⟩ : ∃ b, ((nb : Int) == 0) = b := ⟨_, rfl⟩
  all_goals obtain ⟨x2, ex2⟩ : ∃ b, ((nc : Int) == 0) = b := ⟨_, rfl⟩
  all_goals obtain ⟨x5, ex5⟩ : ∃ b, (f == 0) = b := ⟨_, rfl⟩
  all_goals obtain ⟨x3, ex3⟩ : ∃ b, ((na : Int) == 3) = b := ⟨_, rfl⟩
  all_goals obtain ⟨x4, ex4⟩ : ∃ b, (v == 0) = b := ⟨_, rfl⟩
  all_goals go_enter Try.func57, Try.ntmps57
  all_goals go_wp2_with (fail)
  all_goals
    go_ret
    refine ⟨congrArg (fun b => Ending.returned (.bool b)) (?_ : _ = r), ?_⟩
    · have h1 := hr.out
      have h2 := ha.out
      have h3 := hth.out
      have h4 := hel.out
      skip
      clear A A0  
      try subst ex1
      try subst ex2
      try subst ex5
      try subst ex3
      try subst ex4
      rw [Bool.eq_iff_iff]
      simp_all
      try (first | omega | (intros; omega))
    · exact (ab w _).alloc (by simp) _
end Go.Proofs.Ytmljihggooaboaa
/- Layer interp: may a statement be? -/
namespace Go.Proofs.Ytmljihggooaboaa
open Go.RowKit
set_option maxRecDepth 100000
set_option linter.unusedVariables false
set_option linter.unusedSimpArgs false

set_option maxHeartbeats 2000000 in
theorem mayS_8 {α : Type} {N : Nat} {sp : Option Addr} {n cap : Nat} {fs : List FuT} {vs : Int} (w : World) (hS : RS N w 3 (FuM N w) sp n cap fs) (hN : N ≤ w.heap.size) (v f t : Int) (a : List (ExT 8)) (th el : List α) (sa : Option Addr) (na ca : Nat) (sb : Option Addr) (nb cb : Nat) (sc : Option Addr) (nc cc : Nat) (ha : na = a.length) (hth : nb = th.length) (hel : nc = el.length) :
    Calls Try.prog 57 #[.agg #[.slice sp n cap, .int .i64 vs], .agg (stC 8 v f t (.slice sa na ca) (.slice sb nb cb) (.slice sc nc cc)).toArray] w (BoP (mayS (fs.map FuT.p) vs ⟨8, v, f, t, a, th, el⟩) w) := by
  obtain ⟨r, hr⟩ : ∃ r, r = mayS (fs.map FuT.p) vs ⟨8, v, f, t, a, th, el⟩ := ⟨_, rfl⟩
  rw [← hr]
  have A0 := (Arr.new w 102 #[.slice sp n cap, .int .i64 vs]).alloc (.cells (stC 8 v f t (.slice sa na ca) (.slice sb nb cb) (.slice sc nc cc)).toArray 78)
  have A := Arr.new (w.alloc (.cells #[.slice sp n cap, .int .i64 vs] 102)) 78 (stC 8 v f t (.slice sa na ca) (.slice sb nb cb) (.slice sc nc cc)).toArray
  simp only [World.size_alloc] at A
  have hh := fun u => has_any sp n cap v vs u
  unfold BoP at hh
  simp [mayS] at hr
  all_goals replace hr := hid hr
  all_goals replace ha := hid ha
  all_goals replace hth := hid hth
  all_goals replace hel := hid hel
  all_goals clear hS
  all_goals unfold stC at *
  all_goals obtain ⟨x1, ex1⟩ : ∃ b, ((nb : Int) == 0) = b := ⟨_, rfl⟩
  all_goals obtain ⟨x2, ex2⟩ : ∃ b, ((nc : Int) == 0) = b := ⟨_, rfl⟩
  all_goals obtain ⟨x5, ex5⟩ : ∃ b, (f == 0) = b := ⟨_, rfl⟩
  all_goals obtain ⟨x6, ex6⟩ : ∃ b, (t == 0) = b := ⟨_, rfl⟩
  all_goals obtain ⟨x3, ex3⟩ : ∃ b, ((na : Int) == 2) = b := ⟨_, rfl⟩
  all_goals by_cases hv : 0 ≤ v ∧ v < vs
  all_goals first | rw [decide_eq_true hv] at hh | rw [decide_eq_false hv] at hh
  all_goals replace hv := hid hv
  all_goals go_enter Try.func57, Try.ntmps57
  all_goals go_wp2_with (go_at_call 71; go_must (refine (hh _).mono ?_; rintro e w1 ⟨rfl, hb1⟩; have B1 := ((ab w _).alloc (by simp) _).trans (hb1.mono (by simp; omega)); have d0 := (A0.bl hb1).cell 0; have d1 := (A0.bl hb1).cell 1; have c2 : w1.cell? ⟨w.heap.size + 1, 2, none⟩ = some (.int .i64 f) := (A.bl hb1).cell 2; have c3 : w1.cell? ⟨w.heap.size + 1, 3, none⟩ = some (.int .i64 t) := (A.bl hb1).cell 3))
  all_goals
    go_ret
    refine ⟨congrArg (fun b => Ending.returned (.bool b)) (?_ : _ = r), ?_⟩
    · have h1 := hr.out
      have h2 := ha.out
      have h3 := hth.out
      have h4 := hel.out
      have h5 := hv.out
      clear A A0 hh 
      try subst ex1
      try subst ex2
      try subst ex5
      try subst ex6
      try subst ex3
      rw [Bool.eq_iff_iff]
      simp_all
      try (first | omega | (intros; omega))
    · exact B1
end Go.Proofs.Ytmljihggooaboaa
/- Layer interp: may a statement be? -/
namespace Go.Proofs.Ytmljihggooaboaa
open Go.RowKit
set_option maxRecDepth 100000
set_option linter.unusedVariables false
set_option linter.unusedSimpArgs false

set_option maxHeartbeats 2000000 in
theorem mayS_9 {α : Type} {N : Nat} {sp : Option Addr} {n cap : Nat} {fs : List FuT} {vs : Int} (w : World) (hS : RS N w 3 (FuM N w) sp n cap fs) (hN : N ≤ w.heap.size) (v f t : Int) (a : List (ExT 8)) (th el : List α) (sa : Option Addr) (na ca : Nat) (sb : Option Addr) (nb cb : Nat) (sc : Option Addr) (nc cc : Nat) (ha : na = a.length) (hth : nb = th.length) (hel : nc = el.length) :
    Calls Try.prog 57 #[.agg #[.slice sp n cap, .int .i64 vs], .agg (stC 9 v f t (.slice sa na ca) (.slice sb nb cb) (.slice sc nc cc)).toArray] w (BoP (mayS (fs.map FuT.p) vs ⟨9, v, f, t, a, th, el⟩) w) := by
  obtain ⟨r, hr⟩ : ∃ r, r = mayS (fs.map FuT.p) vs ⟨9, v, f, t, a, th, el⟩ := ⟨_, rfl⟩
  rw [← hr]
  have A0 := (Arr.new w 102 #[.slice sp n cap, .int .i64 vs]).alloc (.cells (stC 9 v f t (.slice sa na ca) (.slice sb nb cb) (.slice sc nc cc)).toArray 78)
  have A := Arr.new (w.alloc (.cells #[.slice sp n cap, .int .i64 vs] 102)) 78 (stC 9 v f t (.slice sa na ca) (.slice sb nb cb) (.slice sc nc cc)).toArray
  simp only [World.size_alloc] at A
  have hh := fun u => has_any sp n cap v vs u
  unfold BoP at hh
  simp [mayS] at hr
  all_goals replace hr := hid hr
  all_goals replace ha := hid ha
  all_goals replace hth := hid hth
  all_goals replace hel := hid hel
  all_goals clear hS
  all_goals unfold stC at *
  all_goals obtain ⟨x1, ex1⟩ : ∃ b, ((nb : Int) == 0) = b := ⟨_, rfl⟩
  all_goals obtain ⟨x2, ex2⟩ : ∃ b, ((nc : Int) == 0) = b := ⟨_, rfl⟩
  all_goals obtain ⟨x5, ex5⟩ : ∃ b, (f == 0) = b := ⟨_, rfl⟩
  all_goals obtain ⟨x6, ex6⟩ : ∃ b, (t == 0) = b := ⟨_, rfl⟩
  all_goals obtain ⟨x3, ex3⟩ : ∃ b, ((na : Int) == 1) = b := ⟨_, rfl⟩
  all_goals by_cases hv : 0 ≤ v ∧ v < vs
  all_goals first | rw [decide_eq_true hv] at hh | rw [decide_eq_false hv] at hh
  all_goals replace hv := hid hv
  all_goals go_enter Try.func57, Try.ntmps57
  all_goals go_wp2_with (go_at_call 71; go_must (refine (hh _).mono ?_; rintro e w1 ⟨rfl, hb1⟩; have B1 := ((ab w _).alloc (by simp) _).trans (hb1.mono (by simp; omega)); have d0 := (A0.bl hb1).cell 0; have d1 := (A0.bl hb1).cell 1; have c2 : w1.cell? ⟨w.heap.size + 1, 2, none⟩ = some (.int .i64 f) := (A.bl hb1).cell 2; have c3 : w1.cell? ⟨w.heap.size + 1, 3, none⟩ = some (.int .i64 t) := (A.bl hb1).cell 3))
  all_goals
    go_ret
    refine ⟨congrArg (fun b => Ending.returned (.bool b)) (?_ : _ = r), ?_⟩
    · have h1 := hr.out
      have h2 := ha.out
      have h3 := hth.out
      have h4 := hel.out
      have h5 := hv.out
      clear A A0 hh 
      try subst ex1
      try subst ex2
      try subst ex5
      try subst ex6
      try subst ex3
      rw [Bool.eq_iff_iff]
      simp_all
      try (first | omega | (intros; omega))
    · exact B1
end Go.Proofs.Ytmljihggooaboaa
/- Layer interp: may a statement be, but for its parts? -/
namespace Go.Proofs.Ytmljihggooaboaa
open Go.RowKit
set_option maxRecDepth 100000
set_option linter.unusedVariables false
set_option linter.unusedSimpArgs false

theorem mayS_o {α : Type} {N : Nat} {sp : Option Addr} {n cap : Nat} {fs : List FuT} {vs : Int} (w : World) (hS : RS N w 3 (FuM N w) sp n cap fs) (hN : N ≤ w.heap.size) (k v f t : Int) (sa : Option Addr) (na ca : Nat) (sb : Option Addr) (nb cb : Nat) (sc : Option Addr) (nc cc : Nat) (h1 : (k == 1) = false) (h2 : (k == 2) = false) (h3 : (k == 3) = false) (h4 : (k == 4) = false) (h5 : (k == 5) = false) (h6 : (k == 6) = false) (h7 : (k == 7) = false) (h8 : (k == 8) = false) (h9 : (k == 9) = false) :
    Calls Try.prog 57 #[.agg #[.slice sp n cap, .int .i64 vs], .agg (stC k v f t (.slice sa na ca) (.slice sb nb cb) (.slice sc nc cc)).toArray] w (BoP false w) := by
  clear hS
  unfold stC at *
  go_enter Try.func57, Try.ntmps57
  go_wp2_with fail
  all_goals
    go_ret
    exact ⟨rfl, (ab w _).alloc (by simp) _⟩
theorem mayS_any {α : Type} {N : Nat} {sp : Option Addr} {n cap : Nat} {fs : List FuT} {vs : Int} (w : World) (hS : RS N w 3 (FuM N w) sp n cap fs) (hN : N ≤ w.heap.size) (s : StN α) (sa : Option Addr) (na ca : Nat) (sb : Option Addr) (nb cb : Nat) (sc : Option Addr) (nc cc : Nat) (ha : na = s.a.length) (hth : nb = s.th.length) (hel : nc = s.el.length) :
    Calls Try.prog 57 #[.agg #[.slice sp n cap, .int .i64 vs], .agg (stC s.k s.v s.f s.t (.slice sa na ca) (.slice sb nb cb) (.slice sc nc cc)).toArray] w (BoP (mayS (fs.map FuT.p) vs s) w) := by
  obtain ⟨k, v, f, t, a, th, el⟩ := s
  by_cases h1 : k = 1
  · subst h1; exact mayS_1 w hS hN v f t a th el sa na ca sb nb cb sc nc cc ha hth hel
  by_cases h2 : k = 2
  · subst h2; exact mayS_2 w hS hN v f t a th el sa na ca sb nb cb sc nc cc ha hth hel
  by_cases h3 : k = 3
  · subst h3; exact mayS_3 w hS hN v f t a th el sa na ca sb nb cb sc nc cc ha hth hel
  by_cases h4 : k = 4
  · subst h4; exact mayS_4 w hS hN v f t a th el sa na ca sb nb cb sc nc cc ha hth hel
  by_cases h5 : k = 5
  · subst h5; exact mayS_5 w hS hN v f t a th el sa na ca sb nb cb sc nc cc ha hth hel
  by_cases h6 : k = 6
  · subst h6; exact mayS_6 w hS hN v f t a th el sa na ca sb nb cb sc nc cc ha hth hel
  by_cases h7 : k = 7
  · subst h7; exact mayS_7 w hS hN v f t a th el sa na ca sb nb cb sc nc cc ha hth hel
  by_cases h8 : k = 8
  · subst h8; exact mayS_8 w hS hN v f t a th el sa na ca sb nb cb sc nc cc ha hth hel
  by_cases h9 : k = 9
  · subst h9; exact mayS_9 w hS hN v f t a th el sa na ca sb nb cb sc nc cc ha hth hel
  have e : mayS (fs.map FuT.p) vs ⟨k, v, f, t, a, th, el⟩ = false := by simp [mayS, h1, h2, h3, h4, h5, h6, h7, h8, h9]
  rw [e]
  exact mayS_o (α := α) w hS hN k v f t sa na ca sb nb cb sc nc cc (by simpa using h1) (by simpa using h2) (by simpa using h3) (by simpa using h4) (by simpa using h5) (by simpa using h6) (by simpa using h7) (by simpa using h8) (by simpa using h9)
end Go.Proofs.Ytmljihggooaboaa
/- Layer interp: which statements may be. -/
namespace Go.Proofs.Ytmljihggooaboaa
open Go.RowKit
set_option maxRecDepth 100000
set_option linter.unusedVariables false
set_option linter.unusedSimpArgs false

set_option maxHeartbeats 2000000 in
theorem stmt_s {N d : Nat} {es : Option Addr} {en ec : Nat} {fs : List FuT} {vs : Int} (hd100 : d ≤ 100) (hE : StAt N es en ec fs vs d) : StAt N es en ec fs vs (d + 1) := by
  intro u cs t k hk hN hF hM
  obtain ⟨sa, na, ca, sb, nb, cb, sc, nc, cc, rfl, hok, hSa, hSb, hSc⟩ := hM
  have b0 : Below u.heap.size u ((u.alloc (.cells #[.slice es en ec, .int .i64 vs] 102)).alloc (.cells (stC t.nd.k t.nd.v t.nd.f t.nd.t (.slice sa na ca) (.slice sb nb cb) (.slice sc nc cc)).toArray 78)) := (ab u _).alloc (by simp) _
  have hmy := mayS_any (vs := vs) ((u.alloc (.cells #[.slice es en ec, .int .i64 vs] 102)).alloc (.cells (stC t.nd.k t.nd.v t.nd.f t.nd.t (.slice sa na ca) (.slice sb nb cb) (.slice sc nc cc)).toArray 78)) (hF.imp (b0.mono hN) (FuM.below (b0.mono hN))) (by simp; omega) t.nd sa na ca sb nb cb sc nc cc hSa.len.out hSb.len.out hSc.len.out
  have A := (Arr.new u 102 #[.slice es en ec, .int .i64 vs]).alloc (.cells (stC t.nd.k t.nd.v t.nd.f t.nd.t (.slice sa na ca) (.slice sb nb cb) (.slice sc nc cc)).toArray 78)
  have A2 := Arr.new (u.alloc (.cells #[.slice es en ec, .int .i64 vs] 102)) 78 (stC t.nd.k t.nd.v t.nd.f t.nd.t (.slice sa na ca) (.slice sb nb cb) (.slice sc nc cc)).toArray
  simp only [World.size_alloc] at A2
  unfold BoP at hmy
  by_cases h0 : k = 0
  · subst h0
    have e : stN (fs.map FuT.p) vs (d + 1) t 0 = none := by unfold stN; rw [if_pos (.inl rfl)]
    rw [e]
    have hd0 : ¬ ((d : Int) + 1 = 0) := by omega
    clear hE hSa hSb hSc hF hmy A A2
    unfold stC at *
    go_enter Try.func41, Try.ntmps41
    go_wp2_with fail
    go_ret2
    exact ⟨rfl, b0⟩
  have hk0 : ((k : Int) == 0) = false := by simpa using h0
  have hd0 : (((d + 1 : Nat) : Int) == 0) = false := by simp; omega
  have hsub : IntKind.i64.wrap (((d + 1 : Nat) : Int) - 1) = (d : Int) := by rw [IntKind.wrap_i64]; omega
  have hkk : IntKind.i64.wrap ((k : Int) - 1) = ((k - 1 : Nat) : Int) := by rw [IntKind.wrap_i64]; omega
  cases hb : mayS (fs.map FuT.p) vs t.nd with
  | false =>
    have e : stN (fs.map FuT.p) vs (d + 1) t k = none := by unfold stN; rw [if_pos (.inr hb)]
    rw [e]
    rw [hb] at hmy
    clear hE hSa hSb hSc hF A A2 hsub h0
    generalize ((d + 1 : Nat) : Int) = dd at *
    unfold stC at *
    go_enter Try.func41, Try.ntmps41
    go_wp2_with (go_at_call 57; go_must (refine hmy.mono ?_; rintro e w1 ⟨rfl, hb1⟩))
    go_ret2
    exact ⟨rfl, b0.trans (hb1.mono b0.size)⟩
  | true =>
    have e : stN (fs.map FuT.p) vs (d + 1) t k = (fld (exN vs 8) t.nd.a (k - 1)).bind fun n1 => (fld (stN (fs.map FuT.p) vs d) t.nd.th n1).bind (fld (stN (fs.map FuT.p) vs d) t.nd.el) := by
      unfold stN
      rw [if_neg (by rintro (h | h); exact h0 h; exact (by rw [show mayS (fs.map FuT.p) vs (α := StT d) t = mayS (fs.map FuT.p) vs t.nd from rfl, hb] at h; cases h))]
      rfl
    rw [e]
    rw [hb] at hmy
    have hx : ∀ (w1 : World), Below ((u.alloc (.cells #[.slice es en ec, .int .i64 vs] 102)).alloc (.cells (stC t.nd.k t.nd.v t.nd.f t.nd.t (.slice sa na ca) (.slice sb nb cb) (.slice sc nc cc)).toArray 78)).heap.size ((u.alloc (.cells #[.slice es en ec, .int .i64 vs] 102)).alloc (.cells (stC t.nd.k t.nd.v t.nd.f t.nd.t (.slice sa na ca) (.slice sb nb cb) (.slice sc nc cc)).toArray 78)) w1 → ∀ x y : Int, x = (8 : Nat) → y = (k - 1 : Nat) → Calls Try.prog 58 #[.agg #[.slice es en ec, .int .i64 vs], .slice sa na ca, .int .i64 x, .int .i64 y] w1 (CtP (fld (exN vs 8) t.nd.a (k - 1)) w1) := fun w1 hb1 x y hx hy => by
      have hbb := (b0.trans (hb1.mono b0.size)).mono hN
      exact exprs58 (expr_any 8 (by omega)) w1 (hSa.imp hbb (ExM.below hbb 8)) (by have := hbb.size; omega) x y (k - 1) hx hy (by omega)
    have hy : ∀ (n1 : Nat) (w1 : World), n1 ≤ 4096 → Below ((u.alloc (.cells #[.slice es en ec, .int .i64 vs] 102)).alloc (.cells (stC t.nd.k t.nd.v t.nd.f t.nd.t (.slice sa na ca) (.slice sb nb cb) (.slice sc nc cc)).toArray 78)).heap.size ((u.alloc (.cells #[.slice es en ec, .int .i64 vs] 102)).alloc (.cells (stC t.nd.k t.nd.v t.nd.f t.nd.t (.slice sa na ca) (.slice sb nb cb) (.slice sc nc cc)).toArray 78)) w1 → ∀ x y : Int, x = d → y = n1 → Calls Try.prog 34 #[.agg #[.slice es en ec, .int .i64 vs], .slice sb nb cb, .int .i64 x, .int .i64 y] w1 (CtP (fld (stN (fs.map FuT.p) vs d) t.nd.th n1) w1) := fun n1 w1 hn1 hb1 x y hx hy => by
      have hbb := (b0.trans (hb1.mono b0.size)).mono hN
      exact stmts34 hE w1 (hSb.imp hbb (StM.below hbb d)) (by have := hbb.size; omega) (hF.imp hbb (FuM.below hbb)) x y n1 hx hy hn1
    have hz : ∀ (n1 : Nat) (w1 : World), n1 ≤ 4096 → Below ((u.alloc (.cells #[.slice es en ec, .int .i64 vs] 102)).alloc (.cells (stC t.nd.k t.nd.v t.nd.f t.nd.t (.slice sa na ca) (.slice sb nb cb) (.slice sc nc cc)).toArray 78)).heap.size ((u.alloc (.cells #[.slice es en ec, .int .i64 vs] 102)).alloc (.cells (stC t.nd.k t.nd.v t.nd.f t.nd.t (.slice sa na ca) (.slice sb nb cb) (.slice sc nc cc)).toArray 78)) w1 → ∀ x y : Int, x = d → y = n1 → Calls Try.prog 34 #[.agg #[.slice es en ec, .int .i64 vs], .slice sc nc cc, .int .i64 x, .int .i64 y] w1 (CtP (fld (stN (fs.map FuT.p) vs d) t.nd.el n1) w1) := fun n1 w1 hn1 hb1 x y hx hy => by
      have hbb := (b0.trans (hb1.mono b0.size)).mono hN
      exact stmts34 hE w1 (hSc.imp hbb (StM.below hbb d)) (by have := hbb.size; omega) (hF.imp hbb (FuM.below hbb)) x y n1 hx hy hn1
    unfold CtP at hx hy hz
    have hle := fun m => fld_le (exN_le (vs := vs) 8) t.nd.a (k - 1) m
    have hle2 := fun n m => fld_le (stN_le (ps := fs.map FuT.p) (vs := vs) d) t.nd.th n m
    clear hE hSa hSb hSc hF
    generalize hdd : ((d + 1 : Nat) : Int) = dd at *
    cases h1 : fld (exN vs 8) t.nd.a (k - 1) with
    | none =>
      rw [h1] at hx
      clear hy hz h0
      unfold stC at *
      go_enter Try.func41, Try.ntmps41
      go_wp2_with (first
        | (go_at_call 57; go_must (refine hmy.mono ?_; rintro e w1 ⟨rfl, hb1⟩; have s0 := (A.bl hb1).cell 0; have s1 := (A.bl hb1).cell 1; have s4 := (A2.bl hb1).cell 4; replace hx := hx w1 hb1))
        | (go_at_call 58; go_must (refine (hx _ _ rfl rfl).mono ?_; rintro e w2 ⟨rfl, hb2⟩)))
      go_ret2
      have hB := b0.trans (hb1.mono b0.size)
      exact ⟨rfl, hB.trans (hb2.mono hB.size)⟩
    | some n1 =>
      have hn1 : n1 ≤ 4096 := by have := hle n1 h1; omega
      rw [h1] at hx
      replace hy := hy n1
      replace hle2 := hle2 n1
      show Calls _ _ _ _ (CtP ((fld (stN (fs.map FuT.p) vs d) t.nd.th n1).bind (fld (stN (fs.map FuT.p) vs d) t.nd.el)) u)
      cases h2 : fld (stN (fs.map FuT.p) vs d) t.nd.th n1 with
      | none =>
        rw [h2] at hy
        clear hz h0 hle2 hle
        unfold stC at *
        go_enter Try.func41, Try.ntmps41
        go_wp2_with (first
          | (go_at_call 57; go_must (refine hmy.mono ?_; rintro e w1 ⟨rfl, hb1⟩; have s0 := (A.bl hb1).cell 0; have s1 := (A.bl hb1).cell 1; have s4 := (A2.bl hb1).cell 4; replace hx := hx w1 hb1))
          | (go_at_call 58; go_must (refine (hx _ _ rfl rfl).mono ?_; rintro e w2 ⟨rfl, hb2⟩; have hb12 := hb1.trans (hb2.mono hb1.size); have r0 := (A.bl hb12).cell 0; have r1 := (A.bl hb12).cell 1; have r5 := (A2.bl hb12).cell 5; replace hy := hy w2 hn1 hb12))
          | (go_at_call 34; go_must (refine (hy _ _ rfl rfl).mono ?_; rintro e w3 ⟨rfl, hb3⟩)))
        go_ret2
        have hB := b0.trans (hb12.mono b0.size)
        exact ⟨rfl, hB.trans (hb3.mono hB.size)⟩
      | some n2 =>
        have hn2 : n2 ≤ 4096 := by have := hle2 n2 h2; omega
        rw [h2] at hy
        replace hz := hz n2
        show Calls _ _ _ _ (CtP (fld (stN (fs.map FuT.p) vs d) t.nd.el n2) u)
        generalize fld (stN (fs.map FuT.p) vs d) t.nd.el n2 = r at *
        clear h0 hle2 hle
        unfold stC at *
        go_enter Try.func41, Try.ntmps41
        go_upto_region 6 with (first
          | (go_at_call 57; go_must (refine hmy.mono ?_; rintro e w1 ⟨rfl, hb1⟩; have s0 := (A.bl hb1).cell 0; have s1 := (A.bl hb1).cell 1; have s4 := (A2.bl hb1).cell 4; replace hx := hx w1 hb1))
          | (go_at_call 58; go_must (refine (hx _ _ rfl rfl).mono ?_; rintro e w2 ⟨rfl, hb2⟩; have hb12 := hb1.trans (hb2.mono hb1.size); have r0 := (A.bl hb12).cell 0; have r1 := (A.bl hb12).cell 1; have r5 := (A2.bl hb12).cell 5; replace hy := hy w2 hn1 hb12)))
        go_upto_region 7 with (go_at_call 34; go_must (refine (hy _ _ rfl rfl).mono ?_; rintro e w3 ⟨rfl, hb3⟩; have hb13 := hb12.trans (hb3.mono hb12.size); have q0 := (A.bl hb13).cell 0; have q1 := (A.bl hb13).cell 1; have q6 := (A2.bl hb13).cell 6; replace hz := hz w3 hn2 hb13; clear hy))
        go_wp2_with (go_at_call 34; go_must (refine (hz _ _ rfl rfl).mono ?_; rintro e w4 ⟨rfl, hb4⟩))
        go_ret2
        have hB := b0.trans (hb13.mono b0.size)
        exact ⟨rfl, hB.trans (hb4.mono hB.size)⟩
theorem stmt_any {N : Nat} {es : Option Addr} {en ec : Nat} {fs : List FuT} {vs : Int} : ∀ d : Nat, d ≤ 100 → StAt N es en ec fs vs d
  | 0, _ => by
    intro u cs t k hk hN hF hM
    obtain ⟨xk, xv, xf, xt, xa, ya, za, xb, yb, zb, xc, yc, zc, rfl⟩ := hM.cells
    have b0 : Below u.heap.size u ((u.alloc (.cells #[.slice es en ec, .int .i64 vs] 102)).alloc (.cells (stC xk xv xf xt (.slice xa ya za) (.slice xb yb zb) (.slice xc yc zc)).toArray 78)) := (ab u _).alloc (by simp) _
    rw [show stN (fs.map FuT.p) vs 0 t k = none from rfl]
    clear hM hF
    unfold stC at *
    go_enter Try.func41, Try.ntmps41
    go_wp2_with fail
    go_ret2
    exact ⟨rfl, b0⟩
  | d + 1, h => stmt_s (by omega) (stmt_any d (by omega))
end Go.Proofs.Ytmljihggooaboaa
/- Layer interp: how a program begins. -/
namespace Go.Proofs.Ytmljihggooaboaa
open Go.RowKit
set_option maxRecDepth 100000
set_option linter.unusedVariables false
set_option linter.unusedSimpArgs false

theorem RS.take {α : Type} {N : Nat} {w : World} {sz : Nat} {R : List Value → α → Prop} {sp : Option Addr} {n cap : Nat} {l : List α} (h : RS N w sz R sp n cap l) {j : Nat} (hj : j ≤ n) : RS N w sz R sp j cap (l.take j) :=
  ⟨hid (by rw [List.length_take, ← h.len.out]; omega), fun e => by have := h.nil e; omega, by have := h.le; omega, h.big, by have := h.small; omega, fun h0 => by
    obtain ⟨g, off, e, hg, hR⟩ := h.at0 (by omega)
    refine ⟨g, off, e, hg, fun i a ha => hR i a ?_⟩
    by_cases hi : i < j
    · rw [List.getElem?_take_of_lt hi] at ha; exact ha
    · rw [List.getElem?_eq_none (by rw [List.length_take]; omega)] at ha; cases ha⟩
set_option maxHeartbeats 1000000 in
theorem beg_any {N : Nat} {sp : Option Addr} {n cap : Nat} (p : PgT) (w : World) (hS : RS N w 3 (FuM N w) sp n cap p.fs) (hN : N ≤ w.heap.size) :
    Calls Try.prog 33 #[.agg #[.slice sp n cap, .int .i64 p.da]] w (BoP (begB p) w) := by
  have b0 := ab w (.cells #[.slice sp n cap, .int .i64 p.da] 24)
  have hsm := hS.small
  have hl := hS.len.out
  by_cases h1 : 0 < n
  · have hw : IntKind.i64.wrap ((n : Int) - 1) = ((n - 1 : Nat) : Int) := by rw [IntKind.wrap_i64]; omega
    by_cases h2 : n ≤ 32
    · obtain ⟨t, ht⟩ : ∃ t, p.fs[n - 1]? = some t := ⟨p.fs[n - 1]'(by omega), List.getElem?_eq_getElem _⟩
      have hlast : p.fs.getLast?.map FuT.p = some t.p := by rw [List.getLast?_eq_getElem?, ← hl, ht]; rfl
      obtain ⟨g, off, rfl, hg, hR⟩ := hS.at0 h1
      obtain ⟨cs, hrg, hM⟩ := hR (n - 1) t ht
      obtain ⟨q1, q2, q3, rfl, -, -⟩ := hM
      have hrg2 := rb hrg (b0.mono hN) hg
      have c0 := hrg2 0 _ rfl
      simp only [Nat.add_zero] at c0
      obtain ⟨r, hr⟩ : ∃ r, r = begB p := ⟨_, rfl⟩
      rw [← hr]
      unfold begB at hr
      rw [hlast, ← hl] at hr
      replace hr := hid hr
      have hlt : n - 1 < n := by omega
      have h32 : ((n - 1 : Nat) : Int) < 32 := by omega
      have hn0 : (0 : Int) ≤ ((n - 1 : Nat) : Int) := by omega
      obtain ⟨x1, ex1⟩ : ∃ b, (t.p == 0) = b := ⟨_, rfl⟩
      have hj : Hid (0 < n ∧ n ≤ 32) := hid ⟨h1, h2⟩
      clear hS hR hrg hrg2 hl ht hlast h1 h2
      generalize n - 1 = j at *
      go_enter Try.func33, Try.ntmps33
      go_wp2_with fail
      all_goals
        go_ret
        refine ⟨congrArg (fun b => Ending.returned (.bool b)) (?_ : _ = r), b0⟩
        have h3 := hr.out
        have h4 := hj.out
        try subst ex1
        clear b0 c0
        rw [Bool.eq_iff_iff]
        simp_all
        try (first | omega | (intros; omega))
    · have e : begB p = false := decide_eq_false (by rintro ⟨-, h, -⟩; rw [← hl] at h; exact h2 h)
      rw [e]
      have h32 : ¬ ((n - 1 : Nat) : Int) < 32 := by omega
      have hn0 : (0 : Int) ≤ ((n - 1 : Nat) : Int) := by omega
      clear hS hl h1 h2 e
      generalize n - 1 = j at *
      go_enter Try.func33, Try.ntmps33
      go_wp2_with fail
      go_ret
      exact ⟨rfl, b0⟩
  · obtain rfl : n = 0 := by omega
    have e : begB p = false := decide_eq_false (by rintro ⟨h, -⟩; rw [← hl] at h; omega)
    rw [e]
    have hw : IntKind.i64.wrap (((0 : Nat) : Int) - 1) = -1 := by rw [IntKind.wrap_i64]; omega
    clear hS hl h1 e
    go_enter Try.func33, Try.ntmps33
    go_wp2_with fail
    go_ret
    exact ⟨rfl, b0⟩
end Go.Proofs.Ytmljihggooaboaa
