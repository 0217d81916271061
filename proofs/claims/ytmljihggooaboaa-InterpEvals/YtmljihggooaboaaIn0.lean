/- Layer interp: what is known, at first. -/
import Derived.Test.YtmljihggooaboaaIm
import Derived.Laws.Rows
import Derived.Handy
import Derived.BigQuiet
import Derived.BigRegion
import Derived.Laws.MakeOwn
import Derived.Laws.CopyOwn
namespace Go.Proofs.Ytmljihggooaboaa
open Go.RowKit
set_option maxRecDepth 100000
set_option linter.unusedVariables false
set_option linter.unusedSimpArgs false

theorem newShelf_any (sk : Option Addr) (nk ck : Nat) (w : World) :
    Calls Try.prog 17 #[.slice sk nk ck] w fun e w' => ∃ gp, e = .returned (.agg #[.slice sk nk ck, .map (some gp)]) ∧ w.heap.size ≤ gp ∧ w'.heap[gp]? = some (.map #[] 0) ∧ Below w.heap.size w w' := by
  have hmm := @run_makeMap Try.prog
  go_enter Try.func17, Try.ntmps17
  go_wp2
  exact bodyPost_ret (v := .agg #[.slice sk nk ck, .map (some (w.heap.size + 1))]) (results_cell_row Try.results17 _ _ w.heap.size 62 _ (0, 0) _ rfl ((Arr.new w 62 _).alloc _) Try.underlying62 rfl (by kernel_rfl)) rfl ⟨_, rfl, by omega, by simpa using heap_alloc_new (w.alloc (.cells #[.slice sk nk ck, .map (some (w.heap.size + 1))] 62)) (.map #[] 0), (ab w _).alloc (by simp) _⟩
end Go.Proofs.Ytmljihggooaboaa
