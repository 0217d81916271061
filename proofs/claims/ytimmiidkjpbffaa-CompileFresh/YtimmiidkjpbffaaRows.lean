/-
  NARROWER THAN 'FOR EVERY INPUT', by the rows' own cells (each row's printed sentence says how): CompileBounds: loops · CompileFresh: loops.
  DERIVED. THE GIVEN ROWS OF THIS SEAT. 3 by the template 'for every input the law returns true; each argument reads behind the call as it read before'; 0 by the template 'total and deterministic' (their statements: YtimmiidkjpbffaaTotals.lean).
  GIVEN WITH THE SEED: the statements are not yours to turn. If you find one false, say at which input.
  Laid BY PROGRAM, IN A SANDBOX (cutbox-rows.mjs): the forced cells as the released guide's own fill.sh prints them over the translation cb06c10a9bbd88d4… (all of the seat's roots in one cut). By AI agents, Wed Nov 11 2026. No macro, syntax, notation, axiom, sorry.
-/
import Derived.Test.YtimmiidkjpbffaaChecked
import GoSem.Claim
import GoSem.ClaimJoined
import GoSem.ClaimMapViews
import Derived.JoinedTies
import Derived.KernelRfl
namespace Go.Proofs.Ytimmiidkjpbffaa
/- THE CELL 'sum', in the pinned program and in every row, IS THE sha256 OF THE DUMP (.gsa) THAT YtimmiidkjpbffaaProg.lean LOADS. Nothing in Lean hashes anything: it is a label: what it is worth is what the hold of that sum in a sandbox is worth. -/
noncomputable def Try.pinned : Pinned := { name := "ytimmiidkjpbffaa", sum := "cb06c10a9bbd88d4f30e13403a406e42292302a8e119a311bd4b4807eb2df196", checked := Try.checked }
namespace Rows
def none {H : Type} : Left H := { results := [], args := [] }

/-- 'proctorlaw15.CompileStarts': WHATEVER THE INPUT: true; the input reads as it did. -/
def compileStartsSpec : ChangeSpec := { name := "compileStarts", fn := fun _ => fun
  | [d1, d2, d3] => { results := [.lit (.bool true)], args := [d1, d2, d3] }
  | _ => none }
def compileStartsRow : OpenClaim := { program := "ytimmiidkjpbffaa", sum := "cb06c10a9bbd88d4f30e13403a406e42292302a8e119a311bd4b4807eb2df196", func := "proctor/proctorlaw15.CompileStarts", spec := "compileStarts", unfollowed := true, recurses := true, apart := false }
def CompileStartsSaid : Prop := compileStartsRow.holds Try.pinned (OpenSpec.ofChange compileStartsSpec)

/-- ITS FALSE NEIGHBOUR: 'it returns false'. Refute it at one input. -/
def compileStartsWrong : ChangeSpec := { name := "compileStarts", fn := fun _ => fun
  | [d1, d2, d3] => { results := [.lit (.bool false)], args := [d1, d2, d3] }
  | _ => none }
def CompileStartsWrongFalsely : Prop := compileStartsRow.holds Try.pinned (OpenSpec.ofChange compileStartsWrong)

/-- 'proctorlaw15.CompileBounds': WHATEVER THE INPUT: true; the input reads as it did. -/
def compileBoundsSpec : ChangeSpec := { name := "compileBounds", fn := fun _ => fun
  | [d1, d2] => { results := [.lit (.bool true)], args := [d1, d2] }
  | _ => none }
def compileBoundsRow : OpenClaim := { program := "ytimmiidkjpbffaa", sum := "cb06c10a9bbd88d4f30e13403a406e42292302a8e119a311bd4b4807eb2df196", func := "proctor/proctorlaw15.CompileBounds", spec := "compileBounds", unfollowed := true, recurses := true, loops := true, apart := false }
def CompileBoundsSaid : Prop := compileBoundsRow.holds Try.pinned (OpenSpec.ofChange compileBoundsSpec)

/-- ITS FALSE NEIGHBOUR: 'it returns false'. Refute it at one input. -/
def compileBoundsWrong : ChangeSpec := { name := "compileBounds", fn := fun _ => fun
  | [d1, d2] => { results := [.lit (.bool false)], args := [d1, d2] }
  | _ => none }
def CompileBoundsWrongFalsely : Prop := compileBoundsRow.holds Try.pinned (OpenSpec.ofChange compileBoundsWrong)

/-- 'proctorlaw15.CompileFresh': WHATEVER THE INPUT: true; the input reads as it did. -/
def compileFreshSpec : ChangeSpec := { name := "compileFresh", fn := fun _ => fun
  | [d1, d2] => { results := [.lit (.bool true)], args := [d1, d2] }
  | _ => none }
def compileFreshRow : OpenClaim := { program := "ytimmiidkjpbffaa", sum := "cb06c10a9bbd88d4f30e13403a406e42292302a8e119a311bd4b4807eb2df196", func := "proctor/proctorlaw15.CompileFresh", spec := "compileFresh", unfollowed := true, recurses := true, loops := true, apart := false }
def CompileFreshSaid : Prop := compileFreshRow.holds Try.pinned (OpenSpec.ofChange compileFreshSpec)

/-- ITS FALSE NEIGHBOUR: 'it returns false'. Refute it at one input. -/
def compileFreshWrong : ChangeSpec := { name := "compileFresh", fn := fun _ => fun
  | [d1, d2] => { results := [.lit (.bool false)], args := [d1, d2] }
  | _ => none }
def CompileFreshWrongFalsely : Prop := compileFreshRow.holds Try.pinned (OpenSpec.ofChange compileFreshWrong)

/- THE SECOND FORM. 'bulk': how many values and letters a reading holds, each counted each time it is reached (what is shared counts as often as it is met; a slice's spare places count too). A statement '..UptoSaid' is the law's where the arguments, and the package variables that the reading takes, are together of bulk at most 1048576: NARROWER than '..Said'. Prove '..Said' where nothing that the law and all that it calls make is longer than what came in: it says more and counts as full. Else prove '..UptoSaid'. A law counts once. -/
mutual
def uptoBulk {H : Type} : DataW H → Nat
  | .lit (.string bytes) => bytes.length + 1
  | .lit _ => 1
  | .nil => 1
  | .ptr d => uptoBulk d + 1
  | .slice elems spare => uptoBulkAll elems + uptoBulkAll spare + 1
  | .agg parts => uptoBulkAll parts + 1
  | .iface _ d => uptoBulk d + 1
  | .map entries => uptoBulkEntries entries + 1
  | .held _ => 1
def uptoBulkAll {H : Type} : List (DataW H) → Nat
  | [] => 0
  | d :: r => uptoBulk d + uptoBulkAll r
def uptoBulkEntries {H : Type} : List (Lit × DataW H) → Nat
  | [] => 0
  | x :: r => uptoBulkEntry x + uptoBulkEntries r
def uptoBulkEntry {H : Type} : Lit × DataW H → Nat
  | (.string bytes, d) => bytes.length + uptoBulk d + 1
  | (_, d) => uptoBulk d + 1
 end
def uptoSmall : (H : Type) → List (DataW H) → Bool := fun _ ds => decide (uptoBulkAll ds ≤ 1048576)
def OpenSpec.upto (s : _root_.Go.ChangeSpec) : _root_.Go.OpenSpec := { _root_.Go.OpenSpec.ofChange s with cond := some uptoSmall }

/-- 'proctorlaw15.CompileStarts', WHERE WHAT IT READS IS OF BULK AT MOST 1048576: true; the input reads as it did. -/
def compileStartsUptoRow : OpenClaim := { program := "ytimmiidkjpbffaa", sum := "cb06c10a9bbd88d4f30e13403a406e42292302a8e119a311bd4b4807eb2df196", func := "proctor/proctorlaw15.CompileStarts", spec := "compileStarts", unfollowed := true, recurses := true, apart := false, narrowed := true }
def CompileStartsUptoSaid : Prop := compileStartsUptoRow.holds Try.pinned (OpenSpec.upto compileStartsSpec)

/-- 'proctorlaw15.CompileBounds', WHERE WHAT IT READS IS OF BULK AT MOST 1048576: true; the input reads as it did. -/
def compileBoundsUptoRow : OpenClaim := { program := "ytimmiidkjpbffaa", sum := "cb06c10a9bbd88d4f30e13403a406e42292302a8e119a311bd4b4807eb2df196", func := "proctor/proctorlaw15.CompileBounds", spec := "compileBounds", unfollowed := true, recurses := true, loops := true, apart := false, narrowed := true }
def CompileBoundsUptoSaid : Prop := compileBoundsUptoRow.holds Try.pinned (OpenSpec.upto compileBoundsSpec)

/-- 'proctorlaw15.CompileFresh', WHERE WHAT IT READS IS OF BULK AT MOST 1048576: true; the input reads as it did. -/
def compileFreshUptoRow : OpenClaim := { program := "ytimmiidkjpbffaa", sum := "cb06c10a9bbd88d4f30e13403a406e42292302a8e119a311bd4b4807eb2df196", func := "proctor/proctorlaw15.CompileFresh", spec := "compileFresh", unfollowed := true, recurses := true, loops := true, apart := false, narrowed := true }
def CompileFreshUptoSaid : Prop := compileFreshUptoRow.holds Try.pinned (OpenSpec.upto compileFreshSpec)

end Rows
end Go.Proofs.Ytimmiidkjpbffaa
