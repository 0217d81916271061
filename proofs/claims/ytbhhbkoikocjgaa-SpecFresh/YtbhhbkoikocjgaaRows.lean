/-
  No cell of these rows narrows 'for every input' (looked for: loops, veiled, ifaces, maps, wideKeys, modest, calm, conditions, laid).
  DERIVED. THE GIVEN ROWS OF THIS SEAT. 5 by the template 'for every input the law returns true; each argument reads behind the call as it read before'; 0 by the template 'total and deterministic' (their statements: YtbhhbkoikocjgaaTotals.lean).
  GIVEN WITH THE SEED: the statements are not yours to turn. If you find one false, say at which input.
  Laid BY PROGRAM, IN A SANDBOX (cutbox-rows.mjs): the forced cells as the released guide's own fill.sh prints them over the translation 879c1fa5926325d1… (all of the seat's roots in one cut). By AI agents, Wed Nov 11 2026. No macro, syntax, notation, axiom, sorry.
-/
import Derived.Test.YtbhhbkoikocjgaaChecked
import GoSem.Claim
import GoSem.ClaimJoined
import GoSem.ClaimMapViews
import Derived.JoinedTies
import Derived.KernelRfl
namespace Go.Proofs.Ytbhhbkoikocjgaa
/- THE CELL 'sum', in the pinned program and in every row, IS THE sha256 OF THE DUMP (.gsa) THAT YtbhhbkoikocjgaaProg.lean LOADS. Nothing in Lean hashes anything: it is a label: what it is worth is what the hold of that sum in a sandbox is worth. -/
noncomputable def Try.pinned : Pinned := { name := "ytbhhbkoikocjgaa", sum := "879c1fa5926325d15b3a328125de5047192c253aaee03859b27e9d7cbd9838c5", checked := Try.checked }
namespace Rows
def none {H : Type} : Left H := { results := [], args := [] }

/-- 'proctorlaw09.SpecRuns': WHATEVER THE INPUT: true; the input reads as it did. -/
def specRunsSpec : ChangeSpec := { name := "specRuns", fn := fun _ => fun
  | [d1, d2, d3] => { results := [.lit (.bool true)], args := [d1, d2, d3] }
  | _ => none }
def specRunsRow : OpenClaim := { program := "ytbhhbkoikocjgaa", sum := "879c1fa5926325d15b3a328125de5047192c253aaee03859b27e9d7cbd9838c5", func := "proctor/proctorlaw09.SpecRuns", spec := "specRuns", unfollowed := true, recurses := true, apart := false }
def SpecRunsSaid : Prop := specRunsRow.holds Try.pinned (OpenSpec.ofChange specRunsSpec)

/-- ITS FALSE NEIGHBOUR: 'it returns false'. Refute it at one input. -/
def specRunsWrong : ChangeSpec := { name := "specRuns", fn := fun _ => fun
  | [d1, d2, d3] => { results := [.lit (.bool false)], args := [d1, d2, d3] }
  | _ => none }
def SpecRunsWrongFalsely : Prop := specRunsRow.holds Try.pinned (OpenSpec.ofChange specRunsWrong)

/-- 'proctorlaw09.SpecRoots': WHATEVER THE INPUT: true; the input reads as it did. -/
def specRootsSpec : ChangeSpec := { name := "specRoots", fn := fun _ => fun
  | [d1, d2] => { results := [.lit (.bool true)], args := [d1, d2] }
  | _ => none }
def specRootsRow : OpenClaim := { program := "ytbhhbkoikocjgaa", sum := "879c1fa5926325d15b3a328125de5047192c253aaee03859b27e9d7cbd9838c5", func := "proctor/proctorlaw09.SpecRoots", spec := "specRoots", unfollowed := true, recurses := true, apart := false }
def SpecRootsSaid : Prop := specRootsRow.holds Try.pinned (OpenSpec.ofChange specRootsSpec)

/-- ITS FALSE NEIGHBOUR: 'it returns false'. Refute it at one input. -/
def specRootsWrong : ChangeSpec := { name := "specRoots", fn := fun _ => fun
  | [d1, d2] => { results := [.lit (.bool false)], args := [d1, d2] }
  | _ => none }
def SpecRootsWrongFalsely : Prop := specRootsRow.holds Try.pinned (OpenSpec.ofChange specRootsWrong)

/-- 'proctorlaw09.SpecAll': WHATEVER THE INPUT: true; the input reads as it did. -/
def specAllSpec : ChangeSpec := { name := "specAll", fn := fun _ => fun
  | [d1, d2, d3] => { results := [.lit (.bool true)], args := [d1, d2, d3] }
  | _ => none }
def specAllRow : OpenClaim := { program := "ytbhhbkoikocjgaa", sum := "879c1fa5926325d15b3a328125de5047192c253aaee03859b27e9d7cbd9838c5", func := "proctor/proctorlaw09.SpecAll", spec := "specAll", unfollowed := true, recurses := true, apart := false }
def SpecAllSaid : Prop := specAllRow.holds Try.pinned (OpenSpec.ofChange specAllSpec)

/-- ITS FALSE NEIGHBOUR: 'it returns false'. Refute it at one input. -/
def specAllWrong : ChangeSpec := { name := "specAll", fn := fun _ => fun
  | [d1, d2, d3] => { results := [.lit (.bool false)], args := [d1, d2, d3] }
  | _ => none }
def SpecAllWrongFalsely : Prop := specAllRow.holds Try.pinned (OpenSpec.ofChange specAllWrong)

/-- 'proctorlaw09.SpecParts': WHATEVER THE INPUT: true; the input reads as it did. -/
def specPartsSpec : ChangeSpec := { name := "specParts", fn := fun _ => fun
  | [d1, d2, d3] => { results := [.lit (.bool true)], args := [d1, d2, d3] }
  | _ => none }
def specPartsRow : OpenClaim := { program := "ytbhhbkoikocjgaa", sum := "879c1fa5926325d15b3a328125de5047192c253aaee03859b27e9d7cbd9838c5", func := "proctor/proctorlaw09.SpecParts", spec := "specParts", unfollowed := true, recurses := true, apart := false }
def SpecPartsSaid : Prop := specPartsRow.holds Try.pinned (OpenSpec.ofChange specPartsSpec)

/-- ITS FALSE NEIGHBOUR: 'it returns false'. Refute it at one input. -/
def specPartsWrong : ChangeSpec := { name := "specParts", fn := fun _ => fun
  | [d1, d2, d3] => { results := [.lit (.bool false)], args := [d1, d2, d3] }
  | _ => none }
def SpecPartsWrongFalsely : Prop := specPartsRow.holds Try.pinned (OpenSpec.ofChange specPartsWrong)

/-- 'proctorlaw09.SpecFresh': WHATEVER THE INPUT: true; the input reads as it did. -/
def specFreshSpec : ChangeSpec := { name := "specFresh", fn := fun _ => fun
  | [d1, d2] => { results := [.lit (.bool true)], args := [d1, d2] }
  | _ => none }
def specFreshRow : OpenClaim := { program := "ytbhhbkoikocjgaa", sum := "879c1fa5926325d15b3a328125de5047192c253aaee03859b27e9d7cbd9838c5", func := "proctor/proctorlaw09.SpecFresh", spec := "specFresh", unfollowed := true, recurses := true, apart := false }
def SpecFreshSaid : Prop := specFreshRow.holds Try.pinned (OpenSpec.ofChange specFreshSpec)

/-- ITS FALSE NEIGHBOUR: 'it returns false'. Refute it at one input. -/
def specFreshWrong : ChangeSpec := { name := "specFresh", fn := fun _ => fun
  | [d1, d2] => { results := [.lit (.bool false)], args := [d1, d2] }
  | _ => none }
def SpecFreshWrongFalsely : Prop := specFreshRow.holds Try.pinned (OpenSpec.ofChange specFreshWrong)

/- THE SECOND FORM. 'bulk': how many values and letters a reading holds, each counted each time it is reached (what is shared counts as often as it is met; a slice's spare places count too). A statement '..UptoSaid' is the law's where the arguments, and the package variables that the reading takes, are together of bulk at most 1048576: NARROWER than '..Said'. Prove '..Said' where nothing that the law and all that it calls make is longer than what came in: it says more and counts as full. Else prove '..UptoSaid'. A law counts once. -/
mutual
def uptoBulk {H : Type} : DataW H → Nat
  | .lit (.string bytes) => bytes.length + 1
  | .lit _ => 1
  | .nil => 1
  | .ptr d => uptoBulk d + 1
  | .slice elems spare => uptoBulkAll elems + uptoBulkAll spare + 1
  | .agg parts => uptoBulkAll parts + 1
  | .iface _ d => uptoBulk d + 1
  | .map entries => uptoBulkEntries entries + 1
  | .held _ => 1
def uptoBulkAll {H : Type} : List (DataW H) → Nat
  | [] => 0
  | d :: r => uptoBulk d + uptoBulkAll r
def uptoBulkEntries {H : Type} : List (Lit × DataW H) → Nat
  | [] => 0
  | x :: r => uptoBulkEntry x + uptoBulkEntries r
def uptoBulkEntry {H : Type} : Lit × DataW H → Nat
  | (.string bytes, d) => bytes.length + uptoBulk d + 1
  | (_, d) => uptoBulk d + 1
 end
def uptoSmall : (H : Type) → List (DataW H) → Bool := fun _ ds => decide (uptoBulkAll ds ≤ 1048576)
def OpenSpec.upto (s : _root_.Go.ChangeSpec) : _root_.Go.OpenSpec := { _root_.Go.OpenSpec.ofChange s with cond := some uptoSmall }

/-- 'proctorlaw09.SpecRuns', WHERE WHAT IT READS IS OF BULK AT MOST 1048576: true; the input reads as it did. -/
def specRunsUptoRow : OpenClaim := { program := "ytbhhbkoikocjgaa", sum := "879c1fa5926325d15b3a328125de5047192c253aaee03859b27e9d7cbd9838c5", func := "proctor/proctorlaw09.SpecRuns", spec := "specRuns", unfollowed := true, recurses := true, apart := false, narrowed := true }
def SpecRunsUptoSaid : Prop := specRunsUptoRow.holds Try.pinned (OpenSpec.upto specRunsSpec)

/-- 'proctorlaw09.SpecRoots', WHERE WHAT IT READS IS OF BULK AT MOST 1048576: true; the input reads as it did. -/
def specRootsUptoRow : OpenClaim := { program := "ytbhhbkoikocjgaa", sum := "879c1fa5926325d15b3a328125de5047192c253aaee03859b27e9d7cbd9838c5", func := "proctor/proctorlaw09.SpecRoots", spec := "specRoots", unfollowed := true, recurses := true, apart := false, narrowed := true }
def SpecRootsUptoSaid : Prop := specRootsUptoRow.holds Try.pinned (OpenSpec.upto specRootsSpec)

/-- 'proctorlaw09.SpecAll', WHERE WHAT IT READS IS OF BULK AT MOST 1048576: true; the input reads as it did. -/
def specAllUptoRow : OpenClaim := { program := "ytbhhbkoikocjgaa", sum := "879c1fa5926325d15b3a328125de5047192c253aaee03859b27e9d7cbd9838c5", func := "proctor/proctorlaw09.SpecAll", spec := "specAll", unfollowed := true, recurses := true, apart := false, narrowed := true }
def SpecAllUptoSaid : Prop := specAllUptoRow.holds Try.pinned (OpenSpec.upto specAllSpec)

/-- 'proctorlaw09.SpecParts', WHERE WHAT IT READS IS OF BULK AT MOST 1048576: true; the input reads as it did. -/
def specPartsUptoRow : OpenClaim := { program := "ytbhhbkoikocjgaa", sum := "879c1fa5926325d15b3a328125de5047192c253aaee03859b27e9d7cbd9838c5", func := "proctor/proctorlaw09.SpecParts", spec := "specParts", unfollowed := true, recurses := true, apart := false, narrowed := true }
def SpecPartsUptoSaid : Prop := specPartsUptoRow.holds Try.pinned (OpenSpec.upto specPartsSpec)

/-- 'proctorlaw09.SpecFresh', WHERE WHAT IT READS IS OF BULK AT MOST 1048576: true; the input reads as it did. -/
def specFreshUptoRow : OpenClaim := { program := "ytbhhbkoikocjgaa", sum := "879c1fa5926325d15b3a328125de5047192c253aaee03859b27e9d7cbd9838c5", func := "proctor/proctorlaw09.SpecFresh", spec := "specFresh", unfollowed := true, recurses := true, apart := false, narrowed := true }
def SpecFreshUptoSaid : Prop := specFreshUptoRow.holds Try.pinned (OpenSpec.upto specFreshSpec)

end Rows
end Go.Proofs.Ytbhhbkoikocjgaa
