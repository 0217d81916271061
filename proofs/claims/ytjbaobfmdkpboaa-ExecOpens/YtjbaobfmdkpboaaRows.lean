/-
  No cell of these rows narrows 'for every input' (looked for: loops, veiled, ifaces, maps, wideKeys, modest, calm, conditions, laid).
  DERIVED. THE GIVEN ROWS OF THIS SEAT. 5 by the template 'for every input the law returns true; each argument reads behind the call as it read before'; 0 by the template 'total and deterministic' (their statements: YtjbaobfmdkpboaaTotals.lean).
  GIVEN WITH THE SEED: the statements are not yours to turn. If you find one false, say at which input.
  Laid BY PROGRAM, IN A SANDBOX (cutbox-rows.mjs): the forced cells as the released guide's own fill.sh prints them over the translation 23bbab1777ee2ff1… (all of the seat's roots in one cut). By AI agents, Wed Nov 11 2026. No macro, syntax, notation, axiom, sorry.
-/
import Derived.Test.YtjbaobfmdkpboaaChecked
import GoSem.Claim
import GoSem.ClaimJoined
import GoSem.ClaimMapViews
import Derived.JoinedTies
import Derived.KernelRfl
namespace Go.Proofs.Ytjbaobfmdkpboaa
/- THE CELL 'sum', in the pinned program and in every row, IS THE sha256 OF THE DUMP (.gsa) THAT YtjbaobfmdkpboaaProg.lean LOADS. Nothing in Lean hashes anything: it is a label: what it is worth is what the hold of that sum in a sandbox is worth. -/
noncomputable def Try.pinned : Pinned := { name := "ytjbaobfmdkpboaa", sum := "23bbab1777ee2ff1b18df62d6a804e01fbf9263612818b75d4dc38c72f8b29f2", checked := Try.checked }
namespace Rows
def none {H : Type} : Left H := { results := [], args := [] }

/-- 'proctorlaw08.ExecDeltas': WHATEVER THE INPUT: true; the input reads as it did. -/
def execDeltasSpec : ChangeSpec := { name := "execDeltas", fn := fun _ => fun
  | [d1, d2] => { results := [.lit (.bool true)], args := [d1, d2] }
  | _ => none }
def execDeltasRow : OpenClaim := { program := "ytjbaobfmdkpboaa", sum := "23bbab1777ee2ff1b18df62d6a804e01fbf9263612818b75d4dc38c72f8b29f2", func := "proctor/proctorlaw08.ExecDeltas", spec := "execDeltas", apart := false }
def ExecDeltasSaid : Prop := execDeltasRow.holds Try.pinned (OpenSpec.ofChange execDeltasSpec)

/-- ITS FALSE NEIGHBOUR: 'it returns false'. Refute it at one input. -/
def execDeltasWrong : ChangeSpec := { name := "execDeltas", fn := fun _ => fun
  | [d1, d2] => { results := [.lit (.bool false)], args := [d1, d2] }
  | _ => none }
def ExecDeltasWrongFalsely : Prop := execDeltasRow.holds Try.pinned (OpenSpec.ofChange execDeltasWrong)

/-- 'proctorlaw08.ExecOpens': WHATEVER THE INPUT: true; the input reads as it did. -/
def execOpensSpec : ChangeSpec := { name := "execOpens", fn := fun _ => fun
  | [d1, d2] => { results := [.lit (.bool true)], args := [d1, d2] }
  | _ => none }
def execOpensRow : OpenClaim := { program := "ytjbaobfmdkpboaa", sum := "23bbab1777ee2ff1b18df62d6a804e01fbf9263612818b75d4dc38c72f8b29f2", func := "proctor/proctorlaw08.ExecOpens", spec := "execOpens", apart := false }
def ExecOpensSaid : Prop := execOpensRow.holds Try.pinned (OpenSpec.ofChange execOpensSpec)

/-- ITS FALSE NEIGHBOUR: 'it returns false'. Refute it at one input. -/
def execOpensWrong : ChangeSpec := { name := "execOpens", fn := fun _ => fun
  | [d1, d2] => { results := [.lit (.bool false)], args := [d1, d2] }
  | _ => none }
def ExecOpensWrongFalsely : Prop := execOpensRow.holds Try.pinned (OpenSpec.ofChange execOpensWrong)

/-- 'proctorlaw08.ExecKeeps': WHATEVER THE INPUT: true; the input reads as it did. -/
def execKeepsSpec : ChangeSpec := { name := "execKeeps", fn := fun _ => fun
  | [d1, d2] => { results := [.lit (.bool true)], args := [d1, d2] }
  | _ => none }
def execKeepsRow : OpenClaim := { program := "ytjbaobfmdkpboaa", sum := "23bbab1777ee2ff1b18df62d6a804e01fbf9263612818b75d4dc38c72f8b29f2", func := "proctor/proctorlaw08.ExecKeeps", spec := "execKeeps", apart := false }
def ExecKeepsSaid : Prop := execKeepsRow.holds Try.pinned (OpenSpec.ofChange execKeepsSpec)

/-- ITS FALSE NEIGHBOUR: 'it returns false'. Refute it at one input. -/
def execKeepsWrong : ChangeSpec := { name := "execKeeps", fn := fun _ => fun
  | [d1, d2] => { results := [.lit (.bool false)], args := [d1, d2] }
  | _ => none }
def ExecKeepsWrongFalsely : Prop := execKeepsRow.holds Try.pinned (OpenSpec.ofChange execKeepsWrong)

/-- 'proctorlaw08.ExecOnce': WHATEVER THE INPUT: true; the input reads as it did. -/
def execOnceSpec : ChangeSpec := { name := "execOnce", fn := fun _ => fun
  | [d1, d2] => { results := [.lit (.bool true)], args := [d1, d2] }
  | _ => none }
def execOnceRow : OpenClaim := { program := "ytjbaobfmdkpboaa", sum := "23bbab1777ee2ff1b18df62d6a804e01fbf9263612818b75d4dc38c72f8b29f2", func := "proctor/proctorlaw08.ExecOnce", spec := "execOnce", apart := false }
def ExecOnceSaid : Prop := execOnceRow.holds Try.pinned (OpenSpec.ofChange execOnceSpec)

/-- ITS FALSE NEIGHBOUR: 'it returns false'. Refute it at one input. -/
def execOnceWrong : ChangeSpec := { name := "execOnce", fn := fun _ => fun
  | [d1, d2] => { results := [.lit (.bool false)], args := [d1, d2] }
  | _ => none }
def ExecOnceWrongFalsely : Prop := execOnceRow.holds Try.pinned (OpenSpec.ofChange execOnceWrong)

/-- 'proctorlaw08.ExecFresh': WHATEVER THE INPUT: true; the input reads as it did. -/
def execFreshSpec : ChangeSpec := { name := "execFresh", fn := fun _ => fun
  | [d1, d2] => { results := [.lit (.bool true)], args := [d1, d2] }
  | _ => none }
def execFreshRow : OpenClaim := { program := "ytjbaobfmdkpboaa", sum := "23bbab1777ee2ff1b18df62d6a804e01fbf9263612818b75d4dc38c72f8b29f2", func := "proctor/proctorlaw08.ExecFresh", spec := "execFresh", apart := false }
def ExecFreshSaid : Prop := execFreshRow.holds Try.pinned (OpenSpec.ofChange execFreshSpec)

/-- ITS FALSE NEIGHBOUR: 'it returns false'. Refute it at one input. -/
def execFreshWrong : ChangeSpec := { name := "execFresh", fn := fun _ => fun
  | [d1, d2] => { results := [.lit (.bool false)], args := [d1, d2] }
  | _ => none }
def ExecFreshWrongFalsely : Prop := execFreshRow.holds Try.pinned (OpenSpec.ofChange execFreshWrong)

/- THE SECOND FORM. 'bulk': how many values and letters a reading holds, each counted each time it is reached (what is shared counts as often as it is met; a slice's spare places count too). A statement '..UptoSaid' is the law's where the arguments, and the package variables that the reading takes, are together of bulk at most 1048576: NARROWER than '..Said'. Prove '..Said' where nothing that the law and all that it calls make is longer than what came in: it says more and counts as full. Else prove '..UptoSaid'. A law counts once. -/
mutual
def uptoBulk {H : Type} : DataW H → Nat
  | .lit (.string bytes) => bytes.length + 1
  | .lit _ => 1
  | .nil => 1
  | .ptr d => uptoBulk d + 1
  | .slice elems spare => uptoBulkAll elems + uptoBulkAll spare + 1
  | .agg parts => uptoBulkAll parts + 1
  | .iface _ d => uptoBulk d + 1
  | .map entries => uptoBulkEntries entries + 1
  | .held _ => 1
def uptoBulkAll {H : Type} : List (DataW H) → Nat
  | [] => 0
  | d :: r => uptoBulk d + uptoBulkAll r
def uptoBulkEntries {H : Type} : List (Lit × DataW H) → Nat
  | [] => 0
  | x :: r => uptoBulkEntry x + uptoBulkEntries r
def uptoBulkEntry {H : Type} : Lit × DataW H → Nat
  | (.string bytes, d) => bytes.length + uptoBulk d + 1
  | (_, d) => uptoBulk d + 1
 end
def uptoSmall : (H : Type) → List (DataW H) → Bool := fun _ ds => decide (uptoBulkAll ds ≤ 1048576)
def OpenSpec.upto (s : _root_.Go.ChangeSpec) : _root_.Go.OpenSpec := { _root_.Go.OpenSpec.ofChange s with cond := some uptoSmall }

/-- 'proctorlaw08.ExecDeltas', WHERE WHAT IT READS IS OF BULK AT MOST 1048576: true; the input reads as it did. -/
def execDeltasUptoRow : OpenClaim := { program := "ytjbaobfmdkpboaa", sum := "23bbab1777ee2ff1b18df62d6a804e01fbf9263612818b75d4dc38c72f8b29f2", func := "proctor/proctorlaw08.ExecDeltas", spec := "execDeltas", apart := false, narrowed := true }
def ExecDeltasUptoSaid : Prop := execDeltasUptoRow.holds Try.pinned (OpenSpec.upto execDeltasSpec)

/-- 'proctorlaw08.ExecOpens', WHERE WHAT IT READS IS OF BULK AT MOST 1048576: true; the input reads as it did. -/
def execOpensUptoRow : OpenClaim := { program := "ytjbaobfmdkpboaa", sum := "23bbab1777ee2ff1b18df62d6a804e01fbf9263612818b75d4dc38c72f8b29f2", func := "proctor/proctorlaw08.ExecOpens", spec := "execOpens", apart := false, narrowed := true }
def ExecOpensUptoSaid : Prop := execOpensUptoRow.holds Try.pinned (OpenSpec.upto execOpensSpec)

/-- 'proctorlaw08.ExecKeeps', WHERE WHAT IT READS IS OF BULK AT MOST 1048576: true; the input reads as it did. -/
def execKeepsUptoRow : OpenClaim := { program := "ytjbaobfmdkpboaa", sum := "23bbab1777ee2ff1b18df62d6a804e01fbf9263612818b75d4dc38c72f8b29f2", func := "proctor/proctorlaw08.ExecKeeps", spec := "execKeeps", apart := false, narrowed := true }
def ExecKeepsUptoSaid : Prop := execKeepsUptoRow.holds Try.pinned (OpenSpec.upto execKeepsSpec)

/-- 'proctorlaw08.ExecOnce', WHERE WHAT IT READS IS OF BULK AT MOST 1048576: true; the input reads as it did. -/
def execOnceUptoRow : OpenClaim := { program := "ytjbaobfmdkpboaa", sum := "23bbab1777ee2ff1b18df62d6a804e01fbf9263612818b75d4dc38c72f8b29f2", func := "proctor/proctorlaw08.ExecOnce", spec := "execOnce", apart := false, narrowed := true }
def ExecOnceUptoSaid : Prop := execOnceUptoRow.holds Try.pinned (OpenSpec.upto execOnceSpec)

/-- 'proctorlaw08.ExecFresh', WHERE WHAT IT READS IS OF BULK AT MOST 1048576: true; the input reads as it did. -/
def execFreshUptoRow : OpenClaim := { program := "ytjbaobfmdkpboaa", sum := "23bbab1777ee2ff1b18df62d6a804e01fbf9263612818b75d4dc38c72f8b29f2", func := "proctor/proctorlaw08.ExecFresh", spec := "execFresh", apart := false, narrowed := true }
def ExecFreshUptoSaid : Prop := execFreshUptoRow.holds Try.pinned (OpenSpec.upto execFreshSpec)

end Rows
end Go.Proofs.Ytjbaobfmdkpboaa
