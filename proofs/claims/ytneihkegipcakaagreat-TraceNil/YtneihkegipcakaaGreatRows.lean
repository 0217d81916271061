/-
  No cell of these rows narrows 'for every input' (looked for: loops, veiled, ifaces, maps, wideKeys, modest, calm, conditions, laid).
  DERIVED. THE GIVEN ROWS OF THIS SEAT. 4 by the template 'for every input the law returns true; each argument reads behind the call as it read before'; 0 by the template 'total and deterministic' (their statements: YtneihkegipcakaaGreatTotals.lean).
  GIVEN WITH THE SEED: the statements are not yours to turn. If you find one false, say at which input.
  Laid BY PROGRAM, IN A SANDBOX (cutbox-rows.mjs): the forced cells as the released guide's own fill.sh prints them over the translation bb98c2fc62b852c4… (all of the seat's roots in one cut). By AI agents, Wed Nov 11 2026. No macro, syntax, notation, axiom, sorry.
-/
import Derived.Test.YtneihkegipcakaaGreatChecked
import GoSem.Claim
import GoSem.ClaimJoined
import GoSem.ClaimMapViews
import Derived.JoinedTies
import Derived.KernelRfl
namespace Go.Proofs.YtneihkegipcakaaGreat
/- THE CELL 'sum', in the pinned program and in every row, IS THE sha256 OF THE DUMP (.gsa) THAT YtneihkegipcakaaGreatProg.lean LOADS. Nothing in Lean hashes anything: it is a label: what it is worth is what the hold of that sum in a sandbox is worth. -/
noncomputable def Tryz.pinned : Pinned := { name := "ytneihkegipcakaagreat", sum := "bb98c2fc62b852c401c4cd8976e57fd10a8d57dad6aa1f3b68ab3782da723b9e", checked := Tryz.checked }
namespace Rows
def none {H : Type} : Left H := { results := [], args := [] }

/-- 'proctorlaw18.TraceAsks': WHATEVER THE INPUT: true; the input reads as it did. -/
def traceAsksSpec : ChangeSpec := { name := "traceAsks", fn := fun _ => fun
  | [d1, d2, d3] => { results := [.lit (.bool true)], args := [d1, d2, d3] }
  | _ => none }
def traceAsksRow : OpenClaim := { program := "ytneihkegipcakaagreat", sum := "bb98c2fc62b852c401c4cd8976e57fd10a8d57dad6aa1f3b68ab3782da723b9e", func := "proctor/proctorlaw18.TraceAsks", spec := "traceAsks", unfollowed := true, recurses := true, plainKeys := false, apart := false }
def TraceAsksSaid : Prop := traceAsksRow.holds Tryz.pinned (OpenSpec.ofChange traceAsksSpec)

/-- ITS FALSE NEIGHBOUR: 'it returns false'. Refute it at one input. -/
def traceAsksWrong : ChangeSpec := { name := "traceAsks", fn := fun _ => fun
  | [d1, d2, d3] => { results := [.lit (.bool false)], args := [d1, d2, d3] }
  | _ => none }
def TraceAsksWrongFalsely : Prop := traceAsksRow.holds Tryz.pinned (OpenSpec.ofChange traceAsksWrong)

/-- 'proctorlaw18.TraceNil': WHATEVER THE INPUT: true; the input reads as it did. -/
def traceNilSpec : ChangeSpec := { name := "traceNil", fn := fun _ => fun
  | [d] => { results := [.lit (.bool true)], args := [d] }
  | _ => none }
def traceNilRow : OpenClaim := { program := "ytneihkegipcakaagreat", sum := "bb98c2fc62b852c401c4cd8976e57fd10a8d57dad6aa1f3b68ab3782da723b9e", func := "proctor/proctorlaw18.TraceNil", spec := "traceNil", unfollowed := true, recurses := true, plainKeys := false, apart := false }
def TraceNilSaid : Prop := traceNilRow.holds Tryz.pinned (OpenSpec.ofChange traceNilSpec)

/-- ITS FALSE NEIGHBOUR: 'it returns false'. Refute it at one input. -/
def traceNilWrong : ChangeSpec := { name := "traceNil", fn := fun _ => fun
  | [d] => { results := [.lit (.bool false)], args := [d] }
  | _ => none }
def TraceNilWrongFalsely : Prop := traceNilRow.holds Tryz.pinned (OpenSpec.ofChange traceNilWrong)

/-- 'proctorlaw18.TraceFirst': WHATEVER THE INPUT: true; the input reads as it did. -/
def traceFirstSpec : ChangeSpec := { name := "traceFirst", fn := fun _ => fun
  | [d1, d2, d3] => { results := [.lit (.bool true)], args := [d1, d2, d3] }
  | _ => none }
def traceFirstRow : OpenClaim := { program := "ytneihkegipcakaagreat", sum := "bb98c2fc62b852c401c4cd8976e57fd10a8d57dad6aa1f3b68ab3782da723b9e", func := "proctor/proctorlaw18.TraceFirst", spec := "traceFirst", unfollowed := true, recurses := true, plainKeys := false, apart := false }
def TraceFirstSaid : Prop := traceFirstRow.holds Tryz.pinned (OpenSpec.ofChange traceFirstSpec)

/-- ITS FALSE NEIGHBOUR: 'it returns false'. Refute it at one input. -/
def traceFirstWrong : ChangeSpec := { name := "traceFirst", fn := fun _ => fun
  | [d1, d2, d3] => { results := [.lit (.bool false)], args := [d1, d2, d3] }
  | _ => none }
def TraceFirstWrongFalsely : Prop := traceFirstRow.holds Tryz.pinned (OpenSpec.ofChange traceFirstWrong)

/-- 'proctorlaw18.TraceProves': WHATEVER THE INPUT: true; the input reads as it did. -/
def traceProvesSpec : ChangeSpec := { name := "traceProves", fn := fun _ => fun
  | [d1, d2, d3] => { results := [.lit (.bool true)], args := [d1, d2, d3] }
  | _ => none }
def traceProvesRow : OpenClaim := { program := "ytneihkegipcakaagreat", sum := "bb98c2fc62b852c401c4cd8976e57fd10a8d57dad6aa1f3b68ab3782da723b9e", func := "proctor/proctorlaw18.TraceProves", spec := "traceProves", unfollowed := true, recurses := true, plainKeys := false, apart := false }
def TraceProvesSaid : Prop := traceProvesRow.holds Tryz.pinned (OpenSpec.ofChange traceProvesSpec)

/-- ITS FALSE NEIGHBOUR: 'it returns false'. Refute it at one input. -/
def traceProvesWrong : ChangeSpec := { name := "traceProves", fn := fun _ => fun
  | [d1, d2, d3] => { results := [.lit (.bool false)], args := [d1, d2, d3] }
  | _ => none }
def TraceProvesWrongFalsely : Prop := traceProvesRow.holds Tryz.pinned (OpenSpec.ofChange traceProvesWrong)

/- THE SECOND FORM. 'bulk': how many values and letters a reading holds, each counted each time it is reached (what is shared counts as often as it is met; a slice's spare places count too). A statement '..UptoSaid' is the law's where the arguments, and the package variables that the reading takes, are together of bulk at most 1048576: NARROWER than '..Said'. Prove '..Said' where nothing that the law and all that it calls make is longer than what came in: it says more and counts as full. Else prove '..UptoSaid'. A law counts once. -/
mutual
def uptoBulk {H : Type} : DataW H → Nat
  | .lit (.string bytes) => bytes.length + 1
  | .lit _ => 1
  | .nil => 1
  | .ptr d => uptoBulk d + 1
  | .slice elems spare => uptoBulkAll elems + uptoBulkAll spare + 1
  | .agg parts => uptoBulkAll parts + 1
  | .iface _ d => uptoBulk d + 1
  | .map entries => uptoBulkEntries entries + 1
  | .held _ => 1
def uptoBulkAll {H : Type} : List (DataW H) → Nat
  | [] => 0
  | d :: r => uptoBulk d + uptoBulkAll r
def uptoBulkEntries {H : Type} : List (Lit × DataW H) → Nat
  | [] => 0
  | x :: r => uptoBulkEntry x + uptoBulkEntries r
def uptoBulkEntry {H : Type} : Lit × DataW H → Nat
  | (.string bytes, d) => bytes.length + uptoBulk d + 1
  | (_, d) => uptoBulk d + 1
 end
def uptoSmall : (H : Type) → List (DataW H) → Bool := fun _ ds => decide (uptoBulkAll ds ≤ 1048576)
def OpenSpec.upto (s : _root_.Go.ChangeSpec) : _root_.Go.OpenSpec := { _root_.Go.OpenSpec.ofChange s with cond := some uptoSmall }

/-- 'proctorlaw18.TraceAsks', WHERE WHAT IT READS IS OF BULK AT MOST 1048576: true; the input reads as it did. -/
def traceAsksUptoRow : OpenClaim := { program := "ytneihkegipcakaagreat", sum := "bb98c2fc62b852c401c4cd8976e57fd10a8d57dad6aa1f3b68ab3782da723b9e", func := "proctor/proctorlaw18.TraceAsks", spec := "traceAsks", unfollowed := true, recurses := true, plainKeys := false, apart := false, narrowed := true }
def TraceAsksUptoSaid : Prop := traceAsksUptoRow.holds Tryz.pinned (OpenSpec.upto traceAsksSpec)

/-- 'proctorlaw18.TraceNil', WHERE WHAT IT READS IS OF BULK AT MOST 1048576: true; the input reads as it did. -/
def traceNilUptoRow : OpenClaim := { program := "ytneihkegipcakaagreat", sum := "bb98c2fc62b852c401c4cd8976e57fd10a8d57dad6aa1f3b68ab3782da723b9e", func := "proctor/proctorlaw18.TraceNil", spec := "traceNil", unfollowed := true, recurses := true, plainKeys := false, apart := false, narrowed := true }
def TraceNilUptoSaid : Prop := traceNilUptoRow.holds Tryz.pinned (OpenSpec.upto traceNilSpec)

/-- 'proctorlaw18.TraceFirst', WHERE WHAT IT READS IS OF BULK AT MOST 1048576: true; the input reads as it did. -/
def traceFirstUptoRow : OpenClaim := { program := "ytneihkegipcakaagreat", sum := "bb98c2fc62b852c401c4cd8976e57fd10a8d57dad6aa1f3b68ab3782da723b9e", func := "proctor/proctorlaw18.TraceFirst", spec := "traceFirst", unfollowed := true, recurses := true, plainKeys := false, apart := false, narrowed := true }
def TraceFirstUptoSaid : Prop := traceFirstUptoRow.holds Tryz.pinned (OpenSpec.upto traceFirstSpec)

/-- 'proctorlaw18.TraceProves', WHERE WHAT IT READS IS OF BULK AT MOST 1048576: true; the input reads as it did. -/
def traceProvesUptoRow : OpenClaim := { program := "ytneihkegipcakaagreat", sum := "bb98c2fc62b852c401c4cd8976e57fd10a8d57dad6aa1f3b68ab3782da723b9e", func := "proctor/proctorlaw18.TraceProves", spec := "traceProves", unfollowed := true, recurses := true, plainKeys := false, apart := false, narrowed := true }
def TraceProvesUptoSaid : Prop := traceProvesUptoRow.holds Tryz.pinned (OpenSpec.upto traceProvesSpec)

end Rows
end Go.Proofs.YtneihkegipcakaaGreat
