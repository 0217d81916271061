/-
  NARROWER THAN 'FOR EVERY INPUT', by the rows' own cells (each row's printed sentence says how): RlpEncodes: loops · RlpNums: loops · RlpBack: loops.
  DERIVED. THE GIVEN ROWS OF THIS SEAT. 6 by the template 'for every input the law returns true; each argument reads behind the call as it read before'; 0 by the template 'total and deterministic' (their statements: YtbjlmekafnpllaaTotals.lean).
  GIVEN WITH THE SEED: the statements are not yours to turn. If you find one false, say at which input.
  Laid BY PROGRAM, IN A SANDBOX (cutbox-rows.mjs): the forced cells as the released guide's own fill.sh prints them over the translation c73597eca1a1247e… (all of the seat's roots in one cut). By AI agents, Wed Nov 11 2026. No macro, syntax, notation, axiom, sorry.
-/
import Derived.Test.YtbjlmekafnpllaaChecked
import GoSem.Claim
import GoSem.ClaimJoined
import GoSem.ClaimMapViews
import Derived.JoinedTies
import Derived.KernelRfl
namespace Go.Proofs.Ytbjlmekafnpllaa
/- THE CELL 'sum', in the pinned program and in every row, IS THE sha256 OF THE DUMP (.gsa) THAT YtbjlmekafnpllaaProg.lean LOADS. Nothing in Lean hashes anything: it is a label: what it is worth is what the hold of that sum in a sandbox is worth. -/
noncomputable def Try.pinned : Pinned := { name := "ytbjlmekafnpllaa", sum := "c73597eca1a1247e848b5c57091836b49bf47b0801310492349d4f1217b9943b", checked := Try.checked }
namespace Rows
def none {H : Type} : Left H := { results := [], args := [] }

/-- 'proctorlaw02.RlpEncodes': WHATEVER THE INPUT: true; the input reads as it did. -/
def rlpEncodesSpec : ChangeSpec := { name := "rlpEncodes", fn := fun _ => fun
  | [d1, d2] => { results := [.lit (.bool true)], args := [d1, d2] }
  | _ => none }
def rlpEncodesRow : OpenClaim := { program := "ytbjlmekafnpllaa", sum := "c73597eca1a1247e848b5c57091836b49bf47b0801310492349d4f1217b9943b", func := "proctor/proctorlaw02.RlpEncodes", spec := "rlpEncodes", inPlace := ["slices.overlaps[byte]"], unfollowed := true, recurses := true, loops := true, apart := false }
def RlpEncodesSaid : Prop := rlpEncodesRow.holds Try.pinned (OpenSpec.ofChange rlpEncodesSpec)

/-- ITS FALSE NEIGHBOUR: 'it returns false'. Refute it at one input. -/
def rlpEncodesWrong : ChangeSpec := { name := "rlpEncodes", fn := fun _ => fun
  | [d1, d2] => { results := [.lit (.bool false)], args := [d1, d2] }
  | _ => none }
def RlpEncodesWrongFalsely : Prop := rlpEncodesRow.holds Try.pinned (OpenSpec.ofChange rlpEncodesWrong)

/-- 'proctorlaw02.RlpDecodes': WHATEVER THE INPUT: true; the input reads as it did. -/
def rlpDecodesSpec : ChangeSpec := { name := "rlpDecodes", fn := fun _ => fun
  | [d] => { results := [.lit (.bool true)], args := [d] }
  | _ => none }
def rlpDecodesRow : OpenClaim := { program := "ytbjlmekafnpllaa", sum := "c73597eca1a1247e848b5c57091836b49bf47b0801310492349d4f1217b9943b", func := "proctor/proctorlaw02.RlpDecodes", spec := "rlpDecodes", inPlace := ["slices.overlaps[byte]"], unfollowed := true, recurses := true, apart := false }
def RlpDecodesSaid : Prop := rlpDecodesRow.holds Try.pinned (OpenSpec.ofChange rlpDecodesSpec)

/-- ITS FALSE NEIGHBOUR: 'it returns false'. Refute it at one input. -/
def rlpDecodesWrong : ChangeSpec := { name := "rlpDecodes", fn := fun _ => fun
  | [d] => { results := [.lit (.bool false)], args := [d] }
  | _ => none }
def RlpDecodesWrongFalsely : Prop := rlpDecodesRow.holds Try.pinned (OpenSpec.ofChange rlpDecodesWrong)

/-- 'proctorlaw02.RlpNums': WHATEVER THE INPUT: true; the input reads as it did. -/
def rlpNumsSpec : ChangeSpec := { name := "rlpNums", fn := fun _ => fun
  | [d1, d2] => { results := [.lit (.bool true)], args := [d1, d2] }
  | _ => none }
def rlpNumsRow : OpenClaim := { program := "ytbjlmekafnpllaa", sum := "c73597eca1a1247e848b5c57091836b49bf47b0801310492349d4f1217b9943b", func := "proctor/proctorlaw02.RlpNums", spec := "rlpNums", inPlace := ["slices.overlaps[byte]"], unfollowed := true, recurses := true, loops := true, apart := false }
def RlpNumsSaid : Prop := rlpNumsRow.holds Try.pinned (OpenSpec.ofChange rlpNumsSpec)

/-- ITS FALSE NEIGHBOUR: 'it returns false'. Refute it at one input. -/
def rlpNumsWrong : ChangeSpec := { name := "rlpNums", fn := fun _ => fun
  | [d1, d2] => { results := [.lit (.bool false)], args := [d1, d2] }
  | _ => none }
def RlpNumsWrongFalsely : Prop := rlpNumsRow.holds Try.pinned (OpenSpec.ofChange rlpNumsWrong)

/-- 'proctorlaw02.RlpBack': WHATEVER THE INPUT: true; the input reads as it did. -/
def rlpBackSpec : ChangeSpec := { name := "rlpBack", fn := fun _ => fun
  | [d1, d2] => { results := [.lit (.bool true)], args := [d1, d2] }
  | _ => none }
def rlpBackRow : OpenClaim := { program := "ytbjlmekafnpllaa", sum := "c73597eca1a1247e848b5c57091836b49bf47b0801310492349d4f1217b9943b", func := "proctor/proctorlaw02.RlpBack", spec := "rlpBack", inPlace := ["slices.overlaps[byte]"], unfollowed := true, recurses := true, loops := true, apart := false }
def RlpBackSaid : Prop := rlpBackRow.holds Try.pinned (OpenSpec.ofChange rlpBackSpec)

/-- ITS FALSE NEIGHBOUR: 'it returns false'. Refute it at one input. -/
def rlpBackWrong : ChangeSpec := { name := "rlpBack", fn := fun _ => fun
  | [d1, d2] => { results := [.lit (.bool false)], args := [d1, d2] }
  | _ => none }
def RlpBackWrongFalsely : Prop := rlpBackRow.holds Try.pinned (OpenSpec.ofChange rlpBackWrong)

/-- 'proctorlaw02.RlpForms': WHATEVER THE INPUT: true; the input reads as it did. -/
def rlpFormsSpec : ChangeSpec := { name := "rlpForms", fn := fun _ => fun
  | [d1, d2] => { results := [.lit (.bool true)], args := [d1, d2] }
  | _ => none }
def rlpFormsRow : OpenClaim := { program := "ytbjlmekafnpllaa", sum := "c73597eca1a1247e848b5c57091836b49bf47b0801310492349d4f1217b9943b", func := "proctor/proctorlaw02.RlpForms", spec := "rlpForms", inPlace := ["slices.overlaps[byte]"], unfollowed := true, recurses := true, apart := false }
def RlpFormsSaid : Prop := rlpFormsRow.holds Try.pinned (OpenSpec.ofChange rlpFormsSpec)

/-- ITS FALSE NEIGHBOUR: 'it returns false'. Refute it at one input. -/
def rlpFormsWrong : ChangeSpec := { name := "rlpForms", fn := fun _ => fun
  | [d1, d2] => { results := [.lit (.bool false)], args := [d1, d2] }
  | _ => none }
def RlpFormsWrongFalsely : Prop := rlpFormsRow.holds Try.pinned (OpenSpec.ofChange rlpFormsWrong)

/-- 'proctorlaw02.RlpFresh': WHATEVER THE INPUT: true; the input reads as it did. -/
def rlpFreshSpec : ChangeSpec := { name := "rlpFresh", fn := fun _ => fun
  | [d] => { results := [.lit (.bool true)], args := [d] }
  | _ => none }
def rlpFreshRow : OpenClaim := { program := "ytbjlmekafnpllaa", sum := "c73597eca1a1247e848b5c57091836b49bf47b0801310492349d4f1217b9943b", func := "proctor/proctorlaw02.RlpFresh", spec := "rlpFresh", inPlace := ["slices.overlaps[byte]"], unfollowed := true, recurses := true, apart := false }
def RlpFreshSaid : Prop := rlpFreshRow.holds Try.pinned (OpenSpec.ofChange rlpFreshSpec)

/-- ITS FALSE NEIGHBOUR: 'it returns false'. Refute it at one input. -/
def rlpFreshWrong : ChangeSpec := { name := "rlpFresh", fn := fun _ => fun
  | [d] => { results := [.lit (.bool false)], args := [d] }
  | _ => none }
def RlpFreshWrongFalsely : Prop := rlpFreshRow.holds Try.pinned (OpenSpec.ofChange rlpFreshWrong)

/- THE SECOND FORM. 'bulk': how many values and letters a reading holds, each counted each time it is reached (what is shared counts as often as it is met; a slice's spare places count too). A statement '..UptoSaid' is the law's where the arguments, and the package variables that the reading takes, are together of bulk at most 1048576: NARROWER than '..Said'. Prove '..Said' where nothing that the law and all that it calls make is longer than what came in: it says more and counts as full. Else prove '..UptoSaid'. A law counts once. -/
mutual
def uptoBulk {H : Type} : DataW H → Nat
  | .lit (.string bytes) => bytes.length + 1
  | .lit _ => 1
  | .nil => 1
  | .ptr d => uptoBulk d + 1
  | .slice elems spare => uptoBulkAll elems + uptoBulkAll spare + 1
  | .agg parts => uptoBulkAll parts + 1
  | .iface _ d => uptoBulk d + 1
  | .map entries => uptoBulkEntries entries + 1
  | .held _ => 1
def uptoBulkAll {H : Type} : List (DataW H) → Nat
  | [] => 0
  | d :: r => uptoBulk d + uptoBulkAll r
def uptoBulkEntries {H : Type} : List (Lit × DataW H) → Nat
  | [] => 0
  | x :: r => uptoBulkEntry x + uptoBulkEntries r
def uptoBulkEntry {H : Type} : Lit × DataW H → Nat
  | (.string bytes, d) => bytes.length + uptoBulk d + 1
  | (_, d) => uptoBulk d + 1
 end
def uptoSmall : (H : Type) → List (DataW H) → Bool := fun _ ds => decide (uptoBulkAll ds ≤ 1048576)
def OpenSpec.upto (s : _root_.Go.ChangeSpec) : _root_.Go.OpenSpec := { _root_.Go.OpenSpec.ofChange s with cond := some uptoSmall }

/-- 'proctorlaw02.RlpEncodes', WHERE WHAT IT READS IS OF BULK AT MOST 1048576: true; the input reads as it did. -/
def rlpEncodesUptoRow : OpenClaim := { program := "ytbjlmekafnpllaa", sum := "c73597eca1a1247e848b5c57091836b49bf47b0801310492349d4f1217b9943b", func := "proctor/proctorlaw02.RlpEncodes", spec := "rlpEncodes", inPlace := ["slices.overlaps[byte]"], unfollowed := true, recurses := true, loops := true, apart := false, narrowed := true }
def RlpEncodesUptoSaid : Prop := rlpEncodesUptoRow.holds Try.pinned (OpenSpec.upto rlpEncodesSpec)

/-- 'proctorlaw02.RlpDecodes', WHERE WHAT IT READS IS OF BULK AT MOST 1048576: true; the input reads as it did. -/
def rlpDecodesUptoRow : OpenClaim := { program := "ytbjlmekafnpllaa", sum := "c73597eca1a1247e848b5c57091836b49bf47b0801310492349d4f1217b9943b", func := "proctor/proctorlaw02.RlpDecodes", spec := "rlpDecodes", inPlace := ["slices.overlaps[byte]"], unfollowed := true, recurses := true, apart := false, narrowed := true }
def RlpDecodesUptoSaid : Prop := rlpDecodesUptoRow.holds Try.pinned (OpenSpec.upto rlpDecodesSpec)

/-- 'proctorlaw02.RlpNums', WHERE WHAT IT READS IS OF BULK AT MOST 1048576: true; the input reads as it did. -/
def rlpNumsUptoRow : OpenClaim := { program := "ytbjlmekafnpllaa", sum := "c73597eca1a1247e848b5c57091836b49bf47b0801310492349d4f1217b9943b", func := "proctor/proctorlaw02.RlpNums", spec := "rlpNums", inPlace := ["slices.overlaps[byte]"], unfollowed := true, recurses := true, loops := true, apart := false, narrowed := true }
def RlpNumsUptoSaid : Prop := rlpNumsUptoRow.holds Try.pinned (OpenSpec.upto rlpNumsSpec)

/-- 'proctorlaw02.RlpBack', WHERE WHAT IT READS IS OF BULK AT MOST 1048576: true; the input reads as it did. -/
def rlpBackUptoRow : OpenClaim := { program := "ytbjlmekafnpllaa", sum := "c73597eca1a1247e848b5c57091836b49bf47b0801310492349d4f1217b9943b", func := "proctor/proctorlaw02.RlpBack", spec := "rlpBack", inPlace := ["slices.overlaps[byte]"], unfollowed := true, recurses := true, loops := true, apart := false, narrowed := true }
def RlpBackUptoSaid : Prop := rlpBackUptoRow.holds Try.pinned (OpenSpec.upto rlpBackSpec)

/-- 'proctorlaw02.RlpForms', WHERE WHAT IT READS IS OF BULK AT MOST 1048576: true; the input reads as it did. -/
def rlpFormsUptoRow : OpenClaim := { program := "ytbjlmekafnpllaa", sum := "c73597eca1a1247e848b5c57091836b49bf47b0801310492349d4f1217b9943b", func := "proctor/proctorlaw02.RlpForms", spec := "rlpForms", inPlace := ["slices.overlaps[byte]"], unfollowed := true, recurses := true, apart := false, narrowed := true }
def RlpFormsUptoSaid : Prop := rlpFormsUptoRow.holds Try.pinned (OpenSpec.upto rlpFormsSpec)

/-- 'proctorlaw02.RlpFresh', WHERE WHAT IT READS IS OF BULK AT MOST 1048576: true; the input reads as it did. -/
def rlpFreshUptoRow : OpenClaim := { program := "ytbjlmekafnpllaa", sum := "c73597eca1a1247e848b5c57091836b49bf47b0801310492349d4f1217b9943b", func := "proctor/proctorlaw02.RlpFresh", spec := "rlpFresh", inPlace := ["slices.overlaps[byte]"], unfollowed := true, recurses := true, apart := false, narrowed := true }
def RlpFreshUptoSaid : Prop := rlpFreshUptoRow.holds Try.pinned (OpenSpec.upto rlpFreshSpec)

end Rows
end Go.Proofs.Ytbjlmekafnpllaa
