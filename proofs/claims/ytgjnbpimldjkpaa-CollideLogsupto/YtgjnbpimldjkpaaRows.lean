/-
  No cell of these rows narrows 'for every input' (looked for: loops, veiled, ifaces, maps, wideKeys, modest, calm, conditions, laid).
  DERIVED. THE GIVEN ROWS OF THIS SEAT. 4 by the template 'for every input the law returns true; each argument reads behind the call as it read before'; 0 by the template 'total and deterministic' (their statements: YtgjnbpimldjkpaaTotals.lean).
  GIVEN WITH THE SEED: the statements are not yours to turn. If you find one false, say at which input.
  Laid BY PROGRAM, IN A SANDBOX (cutbox-rows.mjs): the forced cells as the released guide's own fill.sh prints them over the translation c454c19d146a8bc4… (all of the seat's roots in one cut). By AI agents, Wed Nov 11 2026. No macro, syntax, notation, axiom, sorry.
-/
import Derived.Test.YtgjnbpimldjkpaaChecked
import GoSem.Claim
import GoSem.ClaimJoined
import GoSem.ClaimMapViews
import Derived.JoinedTies
import Derived.KernelRfl
namespace Go.Proofs.Ytgjnbpimldjkpaa
/- THE CELL 'sum', in the pinned program and in every row, IS THE sha256 OF THE DUMP (.gsa) THAT YtgjnbpimldjkpaaProg.lean LOADS. Nothing in Lean hashes anything: it is a label: what it is worth is what the hold of that sum in a sandbox is worth. -/
noncomputable def Try.pinned : Pinned := { name := "ytgjnbpimldjkpaa", sum := "c454c19d146a8bc4bdca5643fe57ed2ad91290920bc4e830d53fa5090edab536", checked := Try.checked }
namespace Rows
def none {H : Type} : Left H := { results := [], args := [] }

/-- 'proctorlaw05.CollideFinds': WHATEVER THE INPUT: true; the input reads as it did. -/
def collideFindsSpec : ChangeSpec := { name := "collideFinds", fn := fun _ => fun
  | [d] => { results := [.lit (.bool true)], args := [d] }
  | _ => none }
def collideFindsRow : OpenClaim := { program := "ytgjnbpimldjkpaa", sum := "c454c19d146a8bc4bdca5643fe57ed2ad91290920bc4e830d53fa5090edab536", func := "proctor/proctorlaw05.CollideFinds", spec := "collideFinds", unfollowed := true, recurses := true, plainKeys := false, apart := false }
def CollideFindsSaid : Prop := collideFindsRow.holds Try.pinned (OpenSpec.ofChange collideFindsSpec)

/-- ITS FALSE NEIGHBOUR: 'it returns false'. Refute it at one input. -/
def collideFindsWrong : ChangeSpec := { name := "collideFinds", fn := fun _ => fun
  | [d] => { results := [.lit (.bool false)], args := [d] }
  | _ => none }
def CollideFindsWrongFalsely : Prop := collideFindsRow.holds Try.pinned (OpenSpec.ofChange collideFindsWrong)

/-- 'proctorlaw05.CollideBinds': WHATEVER THE INPUT: true; the input reads as it did. -/
def collideBindsSpec : ChangeSpec := { name := "collideBinds", fn := fun _ => fun
  | [d1, d2] => { results := [.lit (.bool true)], args := [d1, d2] }
  | _ => none }
def collideBindsRow : OpenClaim := { program := "ytgjnbpimldjkpaa", sum := "c454c19d146a8bc4bdca5643fe57ed2ad91290920bc4e830d53fa5090edab536", func := "proctor/proctorlaw05.CollideBinds", spec := "collideBinds", unfollowed := true, recurses := true, plainKeys := false, apart := false }
def CollideBindsSaid : Prop := collideBindsRow.holds Try.pinned (OpenSpec.ofChange collideBindsSpec)

/-- ITS FALSE NEIGHBOUR: 'it returns false'. Refute it at one input. -/
def collideBindsWrong : ChangeSpec := { name := "collideBinds", fn := fun _ => fun
  | [d1, d2] => { results := [.lit (.bool false)], args := [d1, d2] }
  | _ => none }
def CollideBindsWrongFalsely : Prop := collideBindsRow.holds Try.pinned (OpenSpec.ofChange collideBindsWrong)

/-- 'proctorlaw05.CollideOnly': WHATEVER THE INPUT: true; the input reads as it did. -/
def collideOnlySpec : ChangeSpec := { name := "collideOnly", fn := fun _ => fun
  | [d1, d2] => { results := [.lit (.bool true)], args := [d1, d2] }
  | _ => none }
def collideOnlyRow : OpenClaim := { program := "ytgjnbpimldjkpaa", sum := "c454c19d146a8bc4bdca5643fe57ed2ad91290920bc4e830d53fa5090edab536", func := "proctor/proctorlaw05.CollideOnly", spec := "collideOnly", unfollowed := true, recurses := true, plainKeys := false, apart := false }
def CollideOnlySaid : Prop := collideOnlyRow.holds Try.pinned (OpenSpec.ofChange collideOnlySpec)

/-- ITS FALSE NEIGHBOUR: 'it returns false'. Refute it at one input. -/
def collideOnlyWrong : ChangeSpec := { name := "collideOnly", fn := fun _ => fun
  | [d1, d2] => { results := [.lit (.bool false)], args := [d1, d2] }
  | _ => none }
def CollideOnlyWrongFalsely : Prop := collideOnlyRow.holds Try.pinned (OpenSpec.ofChange collideOnlyWrong)

/-- 'proctorlaw05.CollideLogs': WHATEVER THE INPUT: true; the input reads as it did. -/
def collideLogsSpec : ChangeSpec := { name := "collideLogs", fn := fun _ => fun
  | [d] => { results := [.lit (.bool true)], args := [d] }
  | _ => none }
def collideLogsRow : OpenClaim := { program := "ytgjnbpimldjkpaa", sum := "c454c19d146a8bc4bdca5643fe57ed2ad91290920bc4e830d53fa5090edab536", func := "proctor/proctorlaw05.CollideLogs", spec := "collideLogs", unfollowed := true, recurses := true, plainKeys := false, apart := false }
def CollideLogsSaid : Prop := collideLogsRow.holds Try.pinned (OpenSpec.ofChange collideLogsSpec)

/-- ITS FALSE NEIGHBOUR: 'it returns false'. Refute it at one input. -/
def collideLogsWrong : ChangeSpec := { name := "collideLogs", fn := fun _ => fun
  | [d] => { results := [.lit (.bool false)], args := [d] }
  | _ => none }
def CollideLogsWrongFalsely : Prop := collideLogsRow.holds Try.pinned (OpenSpec.ofChange collideLogsWrong)

/- THE SECOND FORM. 'bulk': how many values and letters a reading holds, each counted each time it is reached (what is shared counts as often as it is met; a slice's spare places count too). A statement '..UptoSaid' is the law's where the arguments, and the package variables that the reading takes, are together of bulk at most 1048576: NARROWER than '..Said'. Prove '..Said' where nothing that the law and all that it calls make is longer than what came in: it says more and counts as full. Else prove '..UptoSaid'. A law counts once. -/
mutual
def uptoBulk {H : Type} : DataW H → Nat
  | .lit (.string bytes) => bytes.length + 1
  | .lit _ => 1
  | .nil => 1
  | .ptr d => uptoBulk d + 1
  | .slice elems spare => uptoBulkAll elems + uptoBulkAll spare + 1
  | .agg parts => uptoBulkAll parts + 1
  | .iface _ d => uptoBulk d + 1
  | .map entries => uptoBulkEntries entries + 1
  | .held _ => 1
def uptoBulkAll {H : Type} : List (DataW H) → Nat
  | [] => 0
  | d :: r => uptoBulk d + uptoBulkAll r
def uptoBulkEntries {H : Type} : List (Lit × DataW H) → Nat
  | [] => 0
  | x :: r => uptoBulkEntry x + uptoBulkEntries r
def uptoBulkEntry {H : Type} : Lit × DataW H → Nat
  | (.string bytes, d) => bytes.length + uptoBulk d + 1
  | (_, d) => uptoBulk d + 1
 end
def uptoSmall : (H : Type) → List (DataW H) → Bool := fun _ ds => decide (uptoBulkAll ds ≤ 1048576)
def OpenSpec.upto (s : _root_.Go.ChangeSpec) : _root_.Go.OpenSpec := { _root_.Go.OpenSpec.ofChange s with cond := some uptoSmall }

/-- 'proctorlaw05.CollideFinds', WHERE WHAT IT READS IS OF BULK AT MOST 1048576: true; the input reads as it did. -/
def collideFindsUptoRow : OpenClaim := { program := "ytgjnbpimldjkpaa", sum := "c454c19d146a8bc4bdca5643fe57ed2ad91290920bc4e830d53fa5090edab536", func := "proctor/proctorlaw05.CollideFinds", spec := "collideFinds", unfollowed := true, recurses := true, plainKeys := false, apart := false, narrowed := true }
def CollideFindsUptoSaid : Prop := collideFindsUptoRow.holds Try.pinned (OpenSpec.upto collideFindsSpec)

/-- 'proctorlaw05.CollideBinds', WHERE WHAT IT READS IS OF BULK AT MOST 1048576: true; the input reads as it did. -/
def collideBindsUptoRow : OpenClaim := { program := "ytgjnbpimldjkpaa", sum := "c454c19d146a8bc4bdca5643fe57ed2ad91290920bc4e830d53fa5090edab536", func := "proctor/proctorlaw05.CollideBinds", spec := "collideBinds", unfollowed := true, recurses := true, plainKeys := false, apart := false, narrowed := true }
def CollideBindsUptoSaid : Prop := collideBindsUptoRow.holds Try.pinned (OpenSpec.upto collideBindsSpec)

/-- 'proctorlaw05.CollideOnly', WHERE WHAT IT READS IS OF BULK AT MOST 1048576: true; the input reads as it did. -/
def collideOnlyUptoRow : OpenClaim := { program := "ytgjnbpimldjkpaa", sum := "c454c19d146a8bc4bdca5643fe57ed2ad91290920bc4e830d53fa5090edab536", func := "proctor/proctorlaw05.CollideOnly", spec := "collideOnly", unfollowed := true, recurses := true, plainKeys := false, apart := false, narrowed := true }
def CollideOnlyUptoSaid : Prop := collideOnlyUptoRow.holds Try.pinned (OpenSpec.upto collideOnlySpec)

/-- 'proctorlaw05.CollideLogs', WHERE WHAT IT READS IS OF BULK AT MOST 1048576: true; the input reads as it did. -/
def collideLogsUptoRow : OpenClaim := { program := "ytgjnbpimldjkpaa", sum := "c454c19d146a8bc4bdca5643fe57ed2ad91290920bc4e830d53fa5090edab536", func := "proctor/proctorlaw05.CollideLogs", spec := "collideLogs", unfollowed := true, recurses := true, plainKeys := false, apart := false, narrowed := true }
def CollideLogsUptoSaid : Prop := collideLogsUptoRow.holds Try.pinned (OpenSpec.upto collideLogsSpec)

end Rows
end Go.Proofs.Ytgjnbpimldjkpaa
