/- The law MemPlays, whole. -/
import Derived.Test.YtndonaebdbbofaaX27
namespace Go.Proofs.Ytndonaebdbbofaa
open Go.RowKit
set_option maxRecDepth 100000
set_option linter.unusedVariables false
set_option linter.unusedSimpArgs false


theorem plays_walk (sp : Option Addr) (n cap : Nat) (L : List Int) (sq : Option Addr) (k cq : Nat) (os : List Sc) (w : World) (hM : MS w.heap.size w sp n cap L) (hU : ∀ k, U64 (L.getD k 0)) (hSC : SC w.heap.size w sq k cq os) :
    Calls Try.prog 3 #[.slice sp n cap, .slice sq k cq] w fun e w' => e = .returned (.bool true) ∧ Below w.heap.size w w' := by
  cases h : szB L.length with
  | true =>
    obtain ⟨d, hd, e⟩ := szB_pow h
    have hn : n = 2 ^ d := by rw [hM.len.out, e]
    have hp : 0 < 2 ^ d := Nat.pow_pos (by omega)
    exact plays_ok sp n cap d (2 * n - 1) L sq k cq os w hM hU hSC hd (Hid.mk' hn) (Hid.mk' (by omega))
  | false => exact plays_no sp n cap L sq k cq w hM hU h
end Go.Proofs.Ytndonaebdbbofaa
