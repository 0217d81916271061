/- Layer interp: may a statement be, but for its parts? -/
import Derived.Test.YtmljihggooaboaaIe1
import Derived.Test.YtmljihggooaboaaIe2
import Derived.Test.YtmljihggooaboaaIe3
import Derived.Test.YtmljihggooaboaaIe4
import Derived.Test.YtmljihggooaboaaIe5
import Derived.Test.YtmljihggooaboaaIe6
import Derived.Test.YtmljihggooaboaaIe7
import Derived.Test.YtmljihggooaboaaIe8
import Derived.Test.YtmljihggooaboaaIe9
import Derived.Handy
import Derived.BigQuiet
import Derived.BigRegion
namespace Go.Proofs.Ytmljihggooaboaa
open Go.RowKit
set_option maxRecDepth 100000
set_option linter.unusedVariables false
set_option linter.unusedSimpArgs false

theorem mayS_o {α : Type} {N : Nat} {sp : Option Addr} {n cap : Nat} {fs : List FuT} {vs : Int} (w : World) (hS : RS N w 3 (FuM N w) sp n cap fs) (hN : N ≤ w.heap.size) (k v f t : Int) (sa : Option Addr) (na ca : Nat) (sb : Option Addr) (nb cb : Nat) (sc : Option Addr) (nc cc : Nat) (h1 : (k == 1) = false) (h2 : (k == 2) = false) (h3 : (k == 3) = false) (h4 : (k == 4) = false) (h5 : (k == 5) = false) (h6 : (k == 6) = false) (h7 : (k == 7) = false) (h8 : (k == 8) = false) (h9 : (k == 9) = false) :
    Calls Try.prog 57 #[.agg #[.slice sp n cap, .int .i64 vs], .agg (stC k v f t (.slice sa na ca) (.slice sb nb cb) (.slice sc nc cc)).toArray] w (BoP false w) := by
  clear hS
  unfold stC at *
  go_enter Try.func57, Try.ntmps57
  go_wp2_with fail
  all_goals
    go_ret
    exact ⟨rfl, (ab w _).alloc (by simp) _⟩
theorem mayS_any {α : Type} {N : Nat} {sp : Option Addr} {n cap : Nat} {fs : List FuT} {vs : Int} (w : World) (hS : RS N w 3 (FuM N w) sp n cap fs) (hN : N ≤ w.heap.size) (s : StN α) (sa : Option Addr) (na ca : Nat) (sb : Option Addr) (nb cb : Nat) (sc : Option Addr) (nc cc : Nat) (ha : na = s.a.length) (hth : nb = s.th.length) (hel : nc = s.el.length) :
    Calls Try.prog 57 #[.agg #[.slice sp n cap, .int .i64 vs], .agg (stC s.k s.v s.f s.t (.slice sa na ca) (.slice sb nb cb) (.slice sc nc cc)).toArray] w (BoP (mayS (fs.map FuT.p) vs s) w) := by
  obtain ⟨k, v, f, t, a, th, el⟩ := s
  by_cases h1 : k = 1
  · subst h1; exact mayS_1 w hS hN v f t a th el sa na ca sb nb cb sc nc cc ha hth hel
  by_cases h2 : k = 2
  · subst h2; exact mayS_2 w hS hN v f t a th el sa na ca sb nb cb sc nc cc ha hth hel
  by_cases h3 : k = 3
  · subst h3; exact mayS_3 w hS hN v f t a th el sa na ca sb nb cb sc nc cc ha hth hel
  by_cases h4 : k = 4
  · subst h4; exact mayS_4 w hS hN v f t a th el sa na ca sb nb cb sc nc cc ha hth hel
  by_cases h5 : k = 5
  · subst h5; exact mayS_5 w hS hN v f t a th el sa na ca sb nb cb sc nc cc ha hth hel
  by_cases h6 : k = 6
  · subst h6; exact mayS_6 w hS hN v f t a th el sa na ca sb nb cb sc nc cc ha hth hel
  by_cases h7 : k = 7
  · subst h7; exact mayS_7 w hS hN v f t a th el sa na ca sb nb cb sc nc cc ha hth hel
  by_cases h8 : k = 8
  · subst h8; exact mayS_8 w hS hN v f t a th el sa na ca sb nb cb sc nc cc ha hth hel
  by_cases h9 : k = 9
  · subst h9; exact mayS_9 w hS hN v f t a th el sa na ca sb nb cb sc nc cc ha hth hel
  have e : mayS (fs.map FuT.p) vs ⟨k, v, f, t, a, th, el⟩ = false := by simp [mayS, h1, h2, h3, h4, h5, h6, h7, h8, h9]
  rw [e]
  exact mayS_o (α := α) w hS hN k v f t sa na ca sb nb cb sc nc cc (by simpa using h1) (by simpa using h2) (by simpa using h3) (by simpa using h4) (by simpa using h5) (by simpa using h6) (by simpa using h7) (by simpa using h8) (by simpa using h9)
end Go.Proofs.Ytmljihggooaboaa
