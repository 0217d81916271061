/-
  No cell of these rows narrows 'for every input' (looked for: loops, veiled, ifaces, maps, wideKeys, modest, calm, conditions, laid).
  DERIVED. THE GIVEN ROWS OF THIS SEAT. 6 by the template 'for every input the law returns true; each argument reads behind the call as it read before'; 0 by the template 'total and deterministic' (their statements: YtnjbmffgbgbjmaaTotals.lean).
  GIVEN WITH THE SEED: the statements are not yours to turn. If you find one false, say at which input.
  Laid BY PROGRAM, IN A SANDBOX (cutbox-rows.mjs): the forced cells as the released guide's own fill.sh prints them over the translation 85c8ef7065c1abe3… (all of the seat's roots in one cut). By AI agents, Wed Nov 11 2026. No macro, syntax, notation, axiom, sorry.
-/
import Derived.Test.YtnjbmffgbgbjmaaChecked
import GoSem.Claim
import GoSem.ClaimJoined
import GoSem.ClaimMapViews
import Derived.JoinedTies
import Derived.KernelRfl
namespace Go.Proofs.Ytnjbmffgbgbjmaa
/- THE CELL 'sum', in the pinned program and in every row, IS THE sha256 OF THE DUMP (.gsa) THAT YtnjbmffgbgbjmaaProg.lean LOADS. Nothing in Lean hashes anything: it is a label: what it is worth is what the hold of that sum in a sandbox is worth. -/
noncomputable def Try.pinned : Pinned := { name := "ytnjbmffgbgbjmaa", sum := "85c8ef7065c1abe3669e6565670b1140ee70af8850a4619c3a23d2bab9257993", checked := Try.checked }
namespace Rows
def none {H : Type} : Left H := { results := [], args := [] }

/-- 'proctorlaw10.VmWords': WHATEVER THE INPUT: true; the input reads as it did. -/
def vmWordsSpec : ChangeSpec := { name := "vmWords", fn := fun _ => fun
  | [d1, d2, d3] => { results := [.lit (.bool true)], args := [d1, d2, d3] }
  | _ => none }
def vmWordsRow : OpenClaim := { program := "ytnjbmffgbgbjmaa", sum := "85c8ef7065c1abe3669e6565670b1140ee70af8850a4619c3a23d2bab9257993", func := "proctor/proctorlaw10.VmWords", spec := "vmWords", unfollowed := true, recurses := true, plainKeys := false, apart := false }
def VmWordsSaid : Prop := vmWordsRow.holds Try.pinned (OpenSpec.ofChange vmWordsSpec)

/-- ITS FALSE NEIGHBOUR: 'it returns false'. Refute it at one input. -/
def vmWordsWrong : ChangeSpec := { name := "vmWords", fn := fun _ => fun
  | [d1, d2, d3] => { results := [.lit (.bool false)], args := [d1, d2, d3] }
  | _ => none }
def VmWordsWrongFalsely : Prop := vmWordsRow.holds Try.pinned (OpenSpec.ofChange vmWordsWrong)

/-- 'proctorlaw10.VmSteps': WHATEVER THE INPUT: true; the input reads as it did. -/
def vmStepsSpec : ChangeSpec := { name := "vmSteps", fn := fun _ => fun
  | [d1, d2, d3] => { results := [.lit (.bool true)], args := [d1, d2, d3] }
  | _ => none }
def vmStepsRow : OpenClaim := { program := "ytnjbmffgbgbjmaa", sum := "85c8ef7065c1abe3669e6565670b1140ee70af8850a4619c3a23d2bab9257993", func := "proctor/proctorlaw10.VmSteps", spec := "vmSteps", unfollowed := true, recurses := true, plainKeys := false, apart := false }
def VmStepsSaid : Prop := vmStepsRow.holds Try.pinned (OpenSpec.ofChange vmStepsSpec)

/-- ITS FALSE NEIGHBOUR: 'it returns false'. Refute it at one input. -/
def vmStepsWrong : ChangeSpec := { name := "vmSteps", fn := fun _ => fun
  | [d1, d2, d3] => { results := [.lit (.bool false)], args := [d1, d2, d3] }
  | _ => none }
def VmStepsWrongFalsely : Prop := vmStepsRow.holds Try.pinned (OpenSpec.ofChange vmStepsWrong)

/-- 'proctorlaw10.VmRuns': WHATEVER THE INPUT: true; the input reads as it did. -/
def vmRunsSpec : ChangeSpec := { name := "vmRuns", fn := fun _ => fun
  | [d1, d2, d3] => { results := [.lit (.bool true)], args := [d1, d2, d3] }
  | _ => none }
def vmRunsRow : OpenClaim := { program := "ytnjbmffgbgbjmaa", sum := "85c8ef7065c1abe3669e6565670b1140ee70af8850a4619c3a23d2bab9257993", func := "proctor/proctorlaw10.VmRuns", spec := "vmRuns", unfollowed := true, recurses := true, plainKeys := false, apart := false }
def VmRunsSaid : Prop := vmRunsRow.holds Try.pinned (OpenSpec.ofChange vmRunsSpec)

/-- ITS FALSE NEIGHBOUR: 'it returns false'. Refute it at one input. -/
def vmRunsWrong : ChangeSpec := { name := "vmRuns", fn := fun _ => fun
  | [d1, d2, d3] => { results := [.lit (.bool false)], args := [d1, d2, d3] }
  | _ => none }
def VmRunsWrongFalsely : Prop := vmRunsRow.holds Try.pinned (OpenSpec.ofChange vmRunsWrong)

/-- 'proctorlaw10.VmLoads': WHATEVER THE INPUT: true; the input reads as it did. -/
def vmLoadsSpec : ChangeSpec := { name := "vmLoads", fn := fun _ => fun
  | [d1, d2, d3] => { results := [.lit (.bool true)], args := [d1, d2, d3] }
  | _ => none }
def vmLoadsRow : OpenClaim := { program := "ytnjbmffgbgbjmaa", sum := "85c8ef7065c1abe3669e6565670b1140ee70af8850a4619c3a23d2bab9257993", func := "proctor/proctorlaw10.VmLoads", spec := "vmLoads", unfollowed := true, recurses := true, plainKeys := false, apart := false }
def VmLoadsSaid : Prop := vmLoadsRow.holds Try.pinned (OpenSpec.ofChange vmLoadsSpec)

/-- ITS FALSE NEIGHBOUR: 'it returns false'. Refute it at one input. -/
def vmLoadsWrong : ChangeSpec := { name := "vmLoads", fn := fun _ => fun
  | [d1, d2, d3] => { results := [.lit (.bool false)], args := [d1, d2, d3] }
  | _ => none }
def VmLoadsWrongFalsely : Prop := vmLoadsRow.holds Try.pinned (OpenSpec.ofChange vmLoadsWrong)

/-- 'proctorlaw10.VmParts': WHATEVER THE INPUT: true; the input reads as it did. -/
def vmPartsSpec : ChangeSpec := { name := "vmParts", fn := fun _ => fun
  | [d1, d2, d3] => { results := [.lit (.bool true)], args := [d1, d2, d3] }
  | _ => none }
def vmPartsRow : OpenClaim := { program := "ytnjbmffgbgbjmaa", sum := "85c8ef7065c1abe3669e6565670b1140ee70af8850a4619c3a23d2bab9257993", func := "proctor/proctorlaw10.VmParts", spec := "vmParts", unfollowed := true, recurses := true, plainKeys := false, apart := false }
def VmPartsSaid : Prop := vmPartsRow.holds Try.pinned (OpenSpec.ofChange vmPartsSpec)

/-- ITS FALSE NEIGHBOUR: 'it returns false'. Refute it at one input. -/
def vmPartsWrong : ChangeSpec := { name := "vmParts", fn := fun _ => fun
  | [d1, d2, d3] => { results := [.lit (.bool false)], args := [d1, d2, d3] }
  | _ => none }
def VmPartsWrongFalsely : Prop := vmPartsRow.holds Try.pinned (OpenSpec.ofChange vmPartsWrong)

/-- 'proctorlaw10.VmFresh': WHATEVER THE INPUT: true; the input reads as it did. -/
def vmFreshSpec : ChangeSpec := { name := "vmFresh", fn := fun _ => fun
  | [d1, d2, d3] => { results := [.lit (.bool true)], args := [d1, d2, d3] }
  | _ => none }
def vmFreshRow : OpenClaim := { program := "ytnjbmffgbgbjmaa", sum := "85c8ef7065c1abe3669e6565670b1140ee70af8850a4619c3a23d2bab9257993", func := "proctor/proctorlaw10.VmFresh", spec := "vmFresh", unfollowed := true, recurses := true, plainKeys := false, apart := false }
def VmFreshSaid : Prop := vmFreshRow.holds Try.pinned (OpenSpec.ofChange vmFreshSpec)

/-- ITS FALSE NEIGHBOUR: 'it returns false'. Refute it at one input. -/
def vmFreshWrong : ChangeSpec := { name := "vmFresh", fn := fun _ => fun
  | [d1, d2, d3] => { results := [.lit (.bool false)], args := [d1, d2, d3] }
  | _ => none }
def VmFreshWrongFalsely : Prop := vmFreshRow.holds Try.pinned (OpenSpec.ofChange vmFreshWrong)

/- THE SECOND FORM. 'bulk': how many values and letters a reading holds, each counted each time it is reached (what is shared counts as often as it is met; a slice's spare places count too). A statement '..UptoSaid' is the law's where the arguments, and the package variables that the reading takes, are together of bulk at most 1048576: NARROWER than '..Said'. Prove '..Said' where nothing that the law and all that it calls make is longer than what came in: it says more and counts as full. Else prove '..UptoSaid'. A law counts once. -/
mutual
def uptoBulk {H : Type} : DataW H → Nat
  | .lit (.string bytes) => bytes.length + 1
  | .lit _ => 1
  | .nil => 1
  | .ptr d => uptoBulk d + 1
  | .slice elems spare => uptoBulkAll elems + uptoBulkAll spare + 1
  | .agg parts => uptoBulkAll parts + 1
  | .iface _ d => uptoBulk d + 1
  | .map entries => uptoBulkEntries entries + 1
  | .held _ => 1
def uptoBulkAll {H : Type} : List (DataW H) → Nat
  | [] => 0
  | d :: r => uptoBulk d + uptoBulkAll r
def uptoBulkEntries {H : Type} : List (Lit × DataW H) → Nat
  | [] => 0
  | x :: r => uptoBulkEntry x + uptoBulkEntries r
def uptoBulkEntry {H : Type} : Lit × DataW H → Nat
  | (.string bytes, d) => bytes.length + uptoBulk d + 1
  | (_, d) => uptoBulk d + 1
 end
def uptoSmall : (H : Type) → List (DataW H) → Bool := fun _ ds => decide (uptoBulkAll ds ≤ 1048576)
def OpenSpec.upto (s : _root_.Go.ChangeSpec) : _root_.Go.OpenSpec := { _root_.Go.OpenSpec.ofChange s with cond := some uptoSmall }

/-- 'proctorlaw10.VmWords', WHERE WHAT IT READS IS OF BULK AT MOST 1048576: true; the input reads as it did. -/
def vmWordsUptoRow : OpenClaim := { program := "ytnjbmffgbgbjmaa", sum := "85c8ef7065c1abe3669e6565670b1140ee70af8850a4619c3a23d2bab9257993", func := "proctor/proctorlaw10.VmWords", spec := "vmWords", unfollowed := true, recurses := true, plainKeys := false, apart := false, narrowed := true }
def VmWordsUptoSaid : Prop := vmWordsUptoRow.holds Try.pinned (OpenSpec.upto vmWordsSpec)

/-- 'proctorlaw10.VmSteps', WHERE WHAT IT READS IS OF BULK AT MOST 1048576: true; the input reads as it did. -/
def vmStepsUptoRow : OpenClaim := { program := "ytnjbmffgbgbjmaa", sum := "85c8ef7065c1abe3669e6565670b1140ee70af8850a4619c3a23d2bab9257993", func := "proctor/proctorlaw10.VmSteps", spec := "vmSteps", unfollowed := true, recurses := true, plainKeys := false, apart := false, narrowed := true }
def VmStepsUptoSaid : Prop := vmStepsUptoRow.holds Try.pinned (OpenSpec.upto vmStepsSpec)

/-- 'proctorlaw10.VmRuns', WHERE WHAT IT READS IS OF BULK AT MOST 1048576: true; the input reads as it did. -/
def vmRunsUptoRow : OpenClaim := { program := "ytnjbmffgbgbjmaa", sum := "85c8ef7065c1abe3669e6565670b1140ee70af8850a4619c3a23d2bab9257993", func := "proctor/proctorlaw10.VmRuns", spec := "vmRuns", unfollowed := true, recurses := true, plainKeys := false, apart := false, narrowed := true }
def VmRunsUptoSaid : Prop := vmRunsUptoRow.holds Try.pinned (OpenSpec.upto vmRunsSpec)

/-- 'proctorlaw10.VmLoads', WHERE WHAT IT READS IS OF BULK AT MOST 1048576: true; the input reads as it did. -/
def vmLoadsUptoRow : OpenClaim := { program := "ytnjbmffgbgbjmaa", sum := "85c8ef7065c1abe3669e6565670b1140ee70af8850a4619c3a23d2bab9257993", func := "proctor/proctorlaw10.VmLoads", spec := "vmLoads", unfollowed := true, recurses := true, plainKeys := false, apart := false, narrowed := true }
def VmLoadsUptoSaid : Prop := vmLoadsUptoRow.holds Try.pinned (OpenSpec.upto vmLoadsSpec)

/-- 'proctorlaw10.VmParts', WHERE WHAT IT READS IS OF BULK AT MOST 1048576: true; the input reads as it did. -/
def vmPartsUptoRow : OpenClaim := { program := "ytnjbmffgbgbjmaa", sum := "85c8ef7065c1abe3669e6565670b1140ee70af8850a4619c3a23d2bab9257993", func := "proctor/proctorlaw10.VmParts", spec := "vmParts", unfollowed := true, recurses := true, plainKeys := false, apart := false, narrowed := true }
def VmPartsUptoSaid : Prop := vmPartsUptoRow.holds Try.pinned (OpenSpec.upto vmPartsSpec)

/-- 'proctorlaw10.VmFresh', WHERE WHAT IT READS IS OF BULK AT MOST 1048576: true; the input reads as it did. -/
def vmFreshUptoRow : OpenClaim := { program := "ytnjbmffgbgbjmaa", sum := "85c8ef7065c1abe3669e6565670b1140ee70af8850a4619c3a23d2bab9257993", func := "proctor/proctorlaw10.VmFresh", spec := "vmFresh", unfollowed := true, recurses := true, plainKeys := false, apart := false, narrowed := true }
def VmFreshUptoSaid : Prop := vmFreshUptoRow.holds Try.pinned (OpenSpec.upto vmFreshSpec)

end Rows
end Go.Proofs.Ytnjbmffgbgbjmaa
