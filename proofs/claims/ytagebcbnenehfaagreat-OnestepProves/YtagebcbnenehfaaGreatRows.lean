/-
  No cell of these rows narrows 'for every input' (looked for: loops, veiled, ifaces, maps, wideKeys, modest, calm, conditions, laid).
  DERIVED. THE GIVEN ROWS OF THIS SEAT. 6 by the template 'for every input the law returns true; each argument reads behind the call as it read before'; 0 by the template 'total and deterministic' (their statements: YtagebcbnenehfaaGreatTotals.lean).
  GIVEN WITH THE SEED: the statements are not yours to turn. If you find one false, say at which input.
  Laid BY PROGRAM, IN A SANDBOX (cutbox-rows.mjs): the forced cells as the released guide's own fill.sh prints them over the translation 278557f19b74fc1f… (all of the seat's roots in one cut). By AI agents, Wed Nov 11 2026. No macro, syntax, notation, axiom, sorry.
-/
import Derived.Test.YtagebcbnenehfaaGreatChecked
import GoSem.Claim
import GoSem.ClaimJoined
import GoSem.ClaimMapViews
import Derived.JoinedTies
import Derived.KernelRfl
namespace Go.Proofs.YtagebcbnenehfaaGreat
/- THE CELL 'sum', in the pinned program and in every row, IS THE sha256 OF THE DUMP (.gsa) THAT YtagebcbnenehfaaGreatProg.lean LOADS. Nothing in Lean hashes anything: it is a label: what it is worth is what the hold of that sum in a sandbox is worth. -/
noncomputable def Tryz.pinned : Pinned := { name := "ytagebcbnenehfaagreat", sum := "278557f19b74fc1fec609904db316c3aad309d0803b294afb8a96d8c60a8a434", checked := Tryz.checked }
namespace Rows
def none {H : Type} : Left H := { results := [], args := [] }

/-- 'proctorlaw12.OnestepMakes': WHATEVER THE INPUT: true; the input reads as it did. -/
def onestepMakesSpec : ChangeSpec := { name := "onestepMakes", fn := fun _ => fun
  | [d1, d2] => { results := [.lit (.bool true)], args := [d1, d2] }
  | _ => none }
def onestepMakesRow : OpenClaim := { program := "ytagebcbnenehfaagreat", sum := "278557f19b74fc1fec609904db316c3aad309d0803b294afb8a96d8c60a8a434", func := "proctor/proctorlaw12.OnestepMakes", spec := "onestepMakes", unfollowed := true, recurses := true, plainKeys := false, apart := false }
def OnestepMakesSaid : Prop := onestepMakesRow.holds Tryz.pinned (OpenSpec.ofChange onestepMakesSpec)

/-- ITS FALSE NEIGHBOUR: 'it returns false'. Refute it at one input. -/
def onestepMakesWrong : ChangeSpec := { name := "onestepMakes", fn := fun _ => fun
  | [d1, d2] => { results := [.lit (.bool false)], args := [d1, d2] }
  | _ => none }
def OnestepMakesWrongFalsely : Prop := onestepMakesRow.holds Tryz.pinned (OpenSpec.ofChange onestepMakesWrong)

/-- 'proctorlaw12.OnestepChecks': WHATEVER THE INPUT: true; the input reads as it did. -/
def onestepChecksSpec : ChangeSpec := { name := "onestepChecks", fn := fun _ => fun
  | [d1, d2] => { results := [.lit (.bool true)], args := [d1, d2] }
  | _ => none }
def onestepChecksRow : OpenClaim := { program := "ytagebcbnenehfaagreat", sum := "278557f19b74fc1fec609904db316c3aad309d0803b294afb8a96d8c60a8a434", func := "proctor/proctorlaw12.OnestepChecks", spec := "onestepChecks", unfollowed := true, recurses := true, plainKeys := false, apart := false }
def OnestepChecksSaid : Prop := onestepChecksRow.holds Tryz.pinned (OpenSpec.ofChange onestepChecksSpec)

/-- ITS FALSE NEIGHBOUR: 'it returns false'. Refute it at one input. -/
def onestepChecksWrong : ChangeSpec := { name := "onestepChecks", fn := fun _ => fun
  | [d1, d2] => { results := [.lit (.bool false)], args := [d1, d2] }
  | _ => none }
def OnestepChecksWrongFalsely : Prop := onestepChecksRow.holds Tryz.pinned (OpenSpec.ofChange onestepChecksWrong)

/-- 'proctorlaw12.OnestepBytes': WHATEVER THE INPUT: true; the input reads as it did. -/
def onestepBytesSpec : ChangeSpec := { name := "onestepBytes", fn := fun _ => fun
  | [d1, d2] => { results := [.lit (.bool true)], args := [d1, d2] }
  | _ => none }
def onestepBytesRow : OpenClaim := { program := "ytagebcbnenehfaagreat", sum := "278557f19b74fc1fec609904db316c3aad309d0803b294afb8a96d8c60a8a434", func := "proctor/proctorlaw12.OnestepBytes", spec := "onestepBytes", inPlace := ["slices.overlaps[byte]"], unfollowed := true, recurses := true, plainKeys := false, apart := false }
def OnestepBytesSaid : Prop := onestepBytesRow.holds Tryz.pinned (OpenSpec.ofChange onestepBytesSpec)

/-- ITS FALSE NEIGHBOUR: 'it returns false'. Refute it at one input. -/
def onestepBytesWrong : ChangeSpec := { name := "onestepBytes", fn := fun _ => fun
  | [d1, d2] => { results := [.lit (.bool false)], args := [d1, d2] }
  | _ => none }
def OnestepBytesWrongFalsely : Prop := onestepBytesRow.holds Tryz.pinned (OpenSpec.ofChange onestepBytesWrong)

/-- 'proctorlaw12.OnestepProves': WHATEVER THE INPUT: true; the input reads as it did. -/
def onestepProvesSpec : ChangeSpec := { name := "onestepProves", fn := fun _ => fun
  | [d1, d2] => { results := [.lit (.bool true)], args := [d1, d2] }
  | _ => none }
def onestepProvesRow : OpenClaim := { program := "ytagebcbnenehfaagreat", sum := "278557f19b74fc1fec609904db316c3aad309d0803b294afb8a96d8c60a8a434", func := "proctor/proctorlaw12.OnestepProves", spec := "onestepProves", unfollowed := true, recurses := true, plainKeys := false, apart := false }
def OnestepProvesSaid : Prop := onestepProvesRow.holds Tryz.pinned (OpenSpec.ofChange onestepProvesSpec)

/-- ITS FALSE NEIGHBOUR: 'it returns false'. Refute it at one input. -/
def onestepProvesWrong : ChangeSpec := { name := "onestepProves", fn := fun _ => fun
  | [d1, d2] => { results := [.lit (.bool false)], args := [d1, d2] }
  | _ => none }
def OnestepProvesWrongFalsely : Prop := onestepProvesRow.holds Tryz.pinned (OpenSpec.ofChange onestepProvesWrong)

/-- 'proctorlaw12.OnestepOnly': WHATEVER THE INPUT: true; the input reads as it did. -/
def onestepOnlySpec : ChangeSpec := { name := "onestepOnly", fn := fun _ => fun
  | [d1, d2, d3] => { results := [.lit (.bool true)], args := [d1, d2, d3] }
  | _ => none }
def onestepOnlyRow : OpenClaim := { program := "ytagebcbnenehfaagreat", sum := "278557f19b74fc1fec609904db316c3aad309d0803b294afb8a96d8c60a8a434", func := "proctor/proctorlaw12.OnestepOnly", spec := "onestepOnly", unfollowed := true, recurses := true, plainKeys := false, apart := false }
def OnestepOnlySaid : Prop := onestepOnlyRow.holds Tryz.pinned (OpenSpec.ofChange onestepOnlySpec)

/-- ITS FALSE NEIGHBOUR: 'it returns false'. Refute it at one input. -/
def onestepOnlyWrong : ChangeSpec := { name := "onestepOnly", fn := fun _ => fun
  | [d1, d2, d3] => { results := [.lit (.bool false)], args := [d1, d2, d3] }
  | _ => none }
def OnestepOnlyWrongFalsely : Prop := onestepOnlyRow.holds Tryz.pinned (OpenSpec.ofChange onestepOnlyWrong)

/-- 'proctorlaw12.OnestepBack': WHATEVER THE INPUT: true; the input reads as it did. -/
def onestepBackSpec : ChangeSpec := { name := "onestepBack", fn := fun _ => fun
  | [d1, d2] => { results := [.lit (.bool true)], args := [d1, d2] }
  | _ => none }
def onestepBackRow : OpenClaim := { program := "ytagebcbnenehfaagreat", sum := "278557f19b74fc1fec609904db316c3aad309d0803b294afb8a96d8c60a8a434", func := "proctor/proctorlaw12.OnestepBack", spec := "onestepBack", inPlace := ["slices.overlaps[byte]"], unfollowed := true, recurses := true, plainKeys := false, apart := false }
def OnestepBackSaid : Prop := onestepBackRow.holds Tryz.pinned (OpenSpec.ofChange onestepBackSpec)

/-- ITS FALSE NEIGHBOUR: 'it returns false'. Refute it at one input. -/
def onestepBackWrong : ChangeSpec := { name := "onestepBack", fn := fun _ => fun
  | [d1, d2] => { results := [.lit (.bool false)], args := [d1, d2] }
  | _ => none }
def OnestepBackWrongFalsely : Prop := onestepBackRow.holds Tryz.pinned (OpenSpec.ofChange onestepBackWrong)

/- THE SECOND FORM. 'bulk': how many values and letters a reading holds, each counted each time it is reached (what is shared counts as often as it is met; a slice's spare places count too). A statement '..UptoSaid' is the law's where the arguments, and the package variables that the reading takes, are together of bulk at most 1048576: NARROWER than '..Said'. Prove '..Said' where nothing that the law and all that it calls make is longer than what came in: it says more and counts as full. Else prove '..UptoSaid'. A law counts once. -/
mutual
def uptoBulk {H : Type} : DataW H → Nat
  | .lit (.string bytes) => bytes.length + 1
  | .lit _ => 1
  | .nil => 1
  | .ptr d => uptoBulk d + 1
  | .slice elems spare => uptoBulkAll elems + uptoBulkAll spare + 1
  | .agg parts => uptoBulkAll parts + 1
  | .iface _ d => uptoBulk d + 1
  | .map entries => uptoBulkEntries entries + 1
  | .held _ => 1
def uptoBulkAll {H : Type} : List (DataW H) → Nat
  | [] => 0
  | d :: r => uptoBulk d + uptoBulkAll r
def uptoBulkEntries {H : Type} : List (Lit × DataW H) → Nat
  | [] => 0
  | x :: r => uptoBulkEntry x + uptoBulkEntries r
def uptoBulkEntry {H : Type} : Lit × DataW H → Nat
  | (.string bytes, d) => bytes.length + uptoBulk d + 1
  | (_, d) => uptoBulk d + 1
 end
def uptoSmall : (H : Type) → List (DataW H) → Bool := fun _ ds => decide (uptoBulkAll ds ≤ 1048576)
def OpenSpec.upto (s : _root_.Go.ChangeSpec) : _root_.Go.OpenSpec := { _root_.Go.OpenSpec.ofChange s with cond := some uptoSmall }

/-- 'proctorlaw12.OnestepMakes', WHERE WHAT IT READS IS OF BULK AT MOST 1048576: true; the input reads as it did. -/
def onestepMakesUptoRow : OpenClaim := { program := "ytagebcbnenehfaagreat", sum := "278557f19b74fc1fec609904db316c3aad309d0803b294afb8a96d8c60a8a434", func := "proctor/proctorlaw12.OnestepMakes", spec := "onestepMakes", unfollowed := true, recurses := true, plainKeys := false, apart := false, narrowed := true }
def OnestepMakesUptoSaid : Prop := onestepMakesUptoRow.holds Tryz.pinned (OpenSpec.upto onestepMakesSpec)

/-- 'proctorlaw12.OnestepChecks', WHERE WHAT IT READS IS OF BULK AT MOST 1048576: true; the input reads as it did. -/
def onestepChecksUptoRow : OpenClaim := { program := "ytagebcbnenehfaagreat", sum := "278557f19b74fc1fec609904db316c3aad309d0803b294afb8a96d8c60a8a434", func := "proctor/proctorlaw12.OnestepChecks", spec := "onestepChecks", unfollowed := true, recurses := true, plainKeys := false, apart := false, narrowed := true }
def OnestepChecksUptoSaid : Prop := onestepChecksUptoRow.holds Tryz.pinned (OpenSpec.upto onestepChecksSpec)

/-- 'proctorlaw12.OnestepBytes', WHERE WHAT IT READS IS OF BULK AT MOST 1048576: true; the input reads as it did. -/
def onestepBytesUptoRow : OpenClaim := { program := "ytagebcbnenehfaagreat", sum := "278557f19b74fc1fec609904db316c3aad309d0803b294afb8a96d8c60a8a434", func := "proctor/proctorlaw12.OnestepBytes", spec := "onestepBytes", inPlace := ["slices.overlaps[byte]"], unfollowed := true, recurses := true, plainKeys := false, apart := false, narrowed := true }
def OnestepBytesUptoSaid : Prop := onestepBytesUptoRow.holds Tryz.pinned (OpenSpec.upto onestepBytesSpec)

/-- 'proctorlaw12.OnestepProves', WHERE WHAT IT READS IS OF BULK AT MOST 1048576: true; the input reads as it did. -/
def onestepProvesUptoRow : OpenClaim := { program := "ytagebcbnenehfaagreat", sum := "278557f19b74fc1fec609904db316c3aad309d0803b294afb8a96d8c60a8a434", func := "proctor/proctorlaw12.OnestepProves", spec := "onestepProves", unfollowed := true, recurses := true, plainKeys := false, apart := false, narrowed := true }
def OnestepProvesUptoSaid : Prop := onestepProvesUptoRow.holds Tryz.pinned (OpenSpec.upto onestepProvesSpec)

/-- 'proctorlaw12.OnestepOnly', WHERE WHAT IT READS IS OF BULK AT MOST 1048576: true; the input reads as it did. -/
def onestepOnlyUptoRow : OpenClaim := { program := "ytagebcbnenehfaagreat", sum := "278557f19b74fc1fec609904db316c3aad309d0803b294afb8a96d8c60a8a434", func := "proctor/proctorlaw12.OnestepOnly", spec := "onestepOnly", unfollowed := true, recurses := true, plainKeys := false, apart := false, narrowed := true }
def OnestepOnlyUptoSaid : Prop := onestepOnlyUptoRow.holds Tryz.pinned (OpenSpec.upto onestepOnlySpec)

/-- 'proctorlaw12.OnestepBack', WHERE WHAT IT READS IS OF BULK AT MOST 1048576: true; the input reads as it did. -/
def onestepBackUptoRow : OpenClaim := { program := "ytagebcbnenehfaagreat", sum := "278557f19b74fc1fec609904db316c3aad309d0803b294afb8a96d8c60a8a434", func := "proctor/proctorlaw12.OnestepBack", spec := "onestepBack", inPlace := ["slices.overlaps[byte]"], unfollowed := true, recurses := true, plainKeys := false, apart := false, narrowed := true }
def OnestepBackUptoSaid : Prop := onestepBackUptoRow.holds Tryz.pinned (OpenSpec.upto onestepBackSpec)

end Rows
end Go.Proofs.YtagebcbnenehfaaGreat
