/-
  NARROWER THAN 'FOR EVERY INPUT', by the rows' own cells (each row's printed sentence says how): InterpRuns: loops · InterpFuel: loops · InterpAlone: loops.
  DERIVED. THE GIVEN ROWS OF THIS SEAT. 4 by the template 'for every input the law returns true; each argument reads behind the call as it read before'; 0 by the template 'total and deterministic' (their statements: YtmljihggooaboaaTotals.lean).
  GIVEN WITH THE SEED: the statements are not yours to turn. If you find one false, say at which input.
  Laid BY PROGRAM, IN A SANDBOX (cutbox-rows.mjs): the forced cells as the released guide's own fill.sh prints them over the translation 896ced49d6af5d27… (all of the seat's roots in one cut). By AI agents, Wed Nov 11 2026. No macro, syntax, notation, axiom, sorry.
-/
import Derived.Test.YtmljihggooaboaaChecked
import GoSem.Claim
import GoSem.ClaimJoined
import GoSem.ClaimMapViews
import Derived.JoinedTies
import Derived.KernelRfl
namespace Go.Proofs.Ytmljihggooaboaa
/- THE CELL 'sum', in the pinned program and in every row, IS THE sha256 OF THE DUMP (.gsa) THAT YtmljihggooaboaaProg.lean LOADS. Nothing in Lean hashes anything: it is a label: what it is worth is what the hold of that sum in a sandbox is worth. -/
noncomputable def Try.pinned : Pinned := { name := "ytmljihggooaboaa", sum := "896ced49d6af5d2739d27f550d64ed47aa2d65598c2b2f9d067d8d3d3c34cc68", checked := Try.checked }
namespace Rows
def none {H : Type} : Left H := { results := [], args := [] }

/-- 'proctorlaw14.InterpRuns': WHATEVER THE INPUT: true; the input reads as it did. -/
def interpRunsSpec : ChangeSpec := { name := "interpRuns", fn := fun _ => fun
  | [d1, d2, d3] => { results := [.lit (.bool true)], args := [d1, d2, d3] }
  | _ => none }
def interpRunsRow : OpenClaim := { program := "ytmljihggooaboaa", sum := "896ced49d6af5d2739d27f550d64ed47aa2d65598c2b2f9d067d8d3d3c34cc68", func := "proctor/proctorlaw14.InterpRuns", spec := "interpRuns", unfollowed := true, recurses := true, loops := true, plainKeys := false, apart := false }
def InterpRunsSaid : Prop := interpRunsRow.holds Try.pinned (OpenSpec.ofChange interpRunsSpec)

/-- ITS FALSE NEIGHBOUR: 'it returns false'. Refute it at one input. -/
def interpRunsWrong : ChangeSpec := { name := "interpRuns", fn := fun _ => fun
  | [d1, d2, d3] => { results := [.lit (.bool false)], args := [d1, d2, d3] }
  | _ => none }
def InterpRunsWrongFalsely : Prop := interpRunsRow.holds Try.pinned (OpenSpec.ofChange interpRunsWrong)

/-- 'proctorlaw14.InterpEvals': WHATEVER THE INPUT: true; the input reads as it did. -/
def interpEvalsSpec : ChangeSpec := { name := "interpEvals", fn := fun _ => fun
  | [d1, d2, d3] => { results := [.lit (.bool true)], args := [d1, d2, d3] }
  | _ => none }
def interpEvalsRow : OpenClaim := { program := "ytmljihggooaboaa", sum := "896ced49d6af5d2739d27f550d64ed47aa2d65598c2b2f9d067d8d3d3c34cc68", func := "proctor/proctorlaw14.InterpEvals", spec := "interpEvals", unfollowed := true, recurses := true, plainKeys := false, apart := false }
def InterpEvalsSaid : Prop := interpEvalsRow.holds Try.pinned (OpenSpec.ofChange interpEvalsSpec)

/-- ITS FALSE NEIGHBOUR: 'it returns false'. Refute it at one input. -/
def interpEvalsWrong : ChangeSpec := { name := "interpEvals", fn := fun _ => fun
  | [d1, d2, d3] => { results := [.lit (.bool false)], args := [d1, d2, d3] }
  | _ => none }
def InterpEvalsWrongFalsely : Prop := interpEvalsRow.holds Try.pinned (OpenSpec.ofChange interpEvalsWrong)

/-- 'proctorlaw14.InterpFuel': WHATEVER THE INPUT: true; the input reads as it did. -/
def interpFuelSpec : ChangeSpec := { name := "interpFuel", fn := fun _ => fun
  | [d1, d2, d3] => { results := [.lit (.bool true)], args := [d1, d2, d3] }
  | _ => none }
def interpFuelRow : OpenClaim := { program := "ytmljihggooaboaa", sum := "896ced49d6af5d2739d27f550d64ed47aa2d65598c2b2f9d067d8d3d3c34cc68", func := "proctor/proctorlaw14.InterpFuel", spec := "interpFuel", unfollowed := true, recurses := true, loops := true, plainKeys := false, apart := false }
def InterpFuelSaid : Prop := interpFuelRow.holds Try.pinned (OpenSpec.ofChange interpFuelSpec)

/-- ITS FALSE NEIGHBOUR: 'it returns false'. Refute it at one input. -/
def interpFuelWrong : ChangeSpec := { name := "interpFuel", fn := fun _ => fun
  | [d1, d2, d3] => { results := [.lit (.bool false)], args := [d1, d2, d3] }
  | _ => none }
def InterpFuelWrongFalsely : Prop := interpFuelRow.holds Try.pinned (OpenSpec.ofChange interpFuelWrong)

/-- 'proctorlaw14.InterpAlone': WHATEVER THE INPUT: true; the input reads as it did. -/
def interpAloneSpec : ChangeSpec := { name := "interpAlone", fn := fun _ => fun
  | [d1, d2, d3] => { results := [.lit (.bool true)], args := [d1, d2, d3] }
  | _ => none }
def interpAloneRow : OpenClaim := { program := "ytmljihggooaboaa", sum := "896ced49d6af5d2739d27f550d64ed47aa2d65598c2b2f9d067d8d3d3c34cc68", func := "proctor/proctorlaw14.InterpAlone", spec := "interpAlone", unfollowed := true, recurses := true, loops := true, plainKeys := false, apart := false }
def InterpAloneSaid : Prop := interpAloneRow.holds Try.pinned (OpenSpec.ofChange interpAloneSpec)

/-- ITS FALSE NEIGHBOUR: 'it returns false'. Refute it at one input. -/
def interpAloneWrong : ChangeSpec := { name := "interpAlone", fn := fun _ => fun
  | [d1, d2, d3] => { results := [.lit (.bool false)], args := [d1, d2, d3] }
  | _ => none }
def InterpAloneWrongFalsely : Prop := interpAloneRow.holds Try.pinned (OpenSpec.ofChange interpAloneWrong)

/- THE SECOND FORM. 'bulk': how many values and letters a reading holds, each counted each time it is reached (what is shared counts as often as it is met; a slice's spare places count too). A statement '..UptoSaid' is the law's where the arguments, and the package variables that the reading takes, are together of bulk at most 1048576: NARROWER than '..Said'. Prove '..Said' where nothing that the law and all that it calls make is longer than what came in: it says more and counts as full. Else prove '..UptoSaid'. A law counts once. -/
mutual
def uptoBulk {H : Type} : DataW H → Nat
  | .lit (.string bytes) => bytes.length + 1
  | .lit _ => 1
  | .nil => 1
  | .ptr d => uptoBulk d + 1
  | .slice elems spare => uptoBulkAll elems + uptoBulkAll spare + 1
  | .agg parts => uptoBulkAll parts + 1
  | .iface _ d => uptoBulk d + 1
  | .map entries => uptoBulkEntries entries + 1
  | .held _ => 1
def uptoBulkAll {H : Type} : List (DataW H) → Nat
  | [] => 0
  | d :: r => uptoBulk d + uptoBulkAll r
def uptoBulkEntries {H : Type} : List (Lit × DataW H) → Nat
  | [] => 0
  | x :: r => uptoBulkEntry x + uptoBulkEntries r
def uptoBulkEntry {H : Type} : Lit × DataW H → Nat
  | (.string bytes, d) => bytes.length + uptoBulk d + 1
  | (_, d) => uptoBulk d + 1
 end
def uptoSmall : (H : Type) → List (DataW H) → Bool := fun _ ds => decide (uptoBulkAll ds ≤ 1048576)
def OpenSpec.upto (s : _root_.Go.ChangeSpec) : _root_.Go.OpenSpec := { _root_.Go.OpenSpec.ofChange s with cond := some uptoSmall }

/-- 'proctorlaw14.InterpRuns', WHERE WHAT IT READS IS OF BULK AT MOST 1048576: true; the input reads as it did. -/
def interpRunsUptoRow : OpenClaim := { program := "ytmljihggooaboaa", sum := "896ced49d6af5d2739d27f550d64ed47aa2d65598c2b2f9d067d8d3d3c34cc68", func := "proctor/proctorlaw14.InterpRuns", spec := "interpRuns", unfollowed := true, recurses := true, loops := true, plainKeys := false, apart := false, narrowed := true }
def InterpRunsUptoSaid : Prop := interpRunsUptoRow.holds Try.pinned (OpenSpec.upto interpRunsSpec)

/-- 'proctorlaw14.InterpEvals', WHERE WHAT IT READS IS OF BULK AT MOST 1048576: true; the input reads as it did. -/
def interpEvalsUptoRow : OpenClaim := { program := "ytmljihggooaboaa", sum := "896ced49d6af5d2739d27f550d64ed47aa2d65598c2b2f9d067d8d3d3c34cc68", func := "proctor/proctorlaw14.InterpEvals", spec := "interpEvals", unfollowed := true, recurses := true, plainKeys := false, apart := false, narrowed := true }
def InterpEvalsUptoSaid : Prop := interpEvalsUptoRow.holds Try.pinned (OpenSpec.upto interpEvalsSpec)

/-- 'proctorlaw14.InterpFuel', WHERE WHAT IT READS IS OF BULK AT MOST 1048576: true; the input reads as it did. -/
def interpFuelUptoRow : OpenClaim := { program := "ytmljihggooaboaa", sum := "896ced49d6af5d2739d27f550d64ed47aa2d65598c2b2f9d067d8d3d3c34cc68", func := "proctor/proctorlaw14.InterpFuel", spec := "interpFuel", unfollowed := true, recurses := true, loops := true, plainKeys := false, apart := false, narrowed := true }
def InterpFuelUptoSaid : Prop := interpFuelUptoRow.holds Try.pinned (OpenSpec.upto interpFuelSpec)

/-- 'proctorlaw14.InterpAlone', WHERE WHAT IT READS IS OF BULK AT MOST 1048576: true; the input reads as it did. -/
def interpAloneUptoRow : OpenClaim := { program := "ytmljihggooaboaa", sum := "896ced49d6af5d2739d27f550d64ed47aa2d65598c2b2f9d067d8d3d3c34cc68", func := "proctor/proctorlaw14.InterpAlone", spec := "interpAlone", unfollowed := true, recurses := true, loops := true, plainKeys := false, apart := false, narrowed := true }
def InterpAloneUptoSaid : Prop := interpAloneUptoRow.holds Try.pinned (OpenSpec.upto interpAloneSpec)

end Rows
end Go.Proofs.Ytmljihggooaboaa
