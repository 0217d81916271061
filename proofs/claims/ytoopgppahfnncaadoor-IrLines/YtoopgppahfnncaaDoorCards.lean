/-
  DERIVED. GIVEN WITH THE SEED: THE CARDS: each row of YtoopgppahfnncaaDoorRows.lean that lists a variable, with what it lists TIED to the program's text (the seventh form; the later family's looks); each row that meets fmt, with fmt's text TOLD by the authors' own Lean function (tested against real Go, not proved from fmt's source: count such statements apart). THE CARD IS WHAT COUNTS. Prove the row's statement (the work); the ties are given (YtoopgppahfnncaaDoorTie.lean); close each card by the builder's one call (the guide's Derived/Test/ToyasCard.lean, 'card_holds'). Laid BY PROGRAM, IN A SANDBOX (cutbox-door.mjs). By AI agents, Wed Nov 11 2026. No macro, syntax, notation, axiom, sorry.
-/
import Derived.Test.YtoopgppahfnncaaDoorRows
import GoSem.ClaimSeven
namespace Go.Proofs.YtoopgppahfnncaaDoor
namespace Rows

/-- THE TIED CARD OF 'proctorlaw13.IrMays'. -/
def irMaysCard : Claim7 := { stood := { row := irMaysRow, standIns := [], harness := (true, "eb53d427c7206c7aee5aa5f7a4894ace4aa0f8461f02986c9a166cd1d71141c7"), looks := false }, kinds := [], alts := [], laidByText := true, laidKinds := [.data, .data, .data], laidTests := true, laidLooks := .later }
def IrMaysCardSaid : Prop := Claim7.holds Tryd.pinned (.plain (OpenSpec.ofChange irMaysSpec)) irMaysCard

/-- THE TIED CARD OF 'proctorlaw13.IrSames'. -/
def irSamesCard : Claim7 := { stood := { row := irSamesRow, standIns := [], harness := (true, "eb53d427c7206c7aee5aa5f7a4894ace4aa0f8461f02986c9a166cd1d71141c7"), looks := false }, kinds := [], alts := [], laidByText := true, laidKinds := [.data, .data, .data], laidTests := true, laidLooks := .later }
def IrSamesCardSaid : Prop := Claim7.holds Tryd.pinned (.plain (OpenSpec.ofChange irSamesSpec)) irSamesCard

/-- THE TIED CARD OF 'proctorlaw13.IrLines'. -/
def irLinesCard : Claim7 := { stood := { row := irLinesRow, standIns := [], harness := (true, "eb53d427c7206c7aee5aa5f7a4894ace4aa0f8461f02986c9a166cd1d71141c7"), looks := false }, kinds := [], alts := [], laidByText := true, laidKinds := [.data, .data, .data], laidTests := true, laidLooks := .later }
def IrLinesCardSaid : Prop := Claim7.holds Tryd.pinned (.plain (OpenSpec.ofChange irLinesSpec)) irLinesCard

/-- THE SECOND FORM's CARD OF 'proctorlaw13.IrMays'. -/
def irMaysUptoCard : Claim7 := { stood := { row := irMaysUptoRow, standIns := [], harness := (true, "eb53d427c7206c7aee5aa5f7a4894ace4aa0f8461f02986c9a166cd1d71141c7"), looks := false }, kinds := [], alts := [], laidByText := true, laidKinds := [.data, .data, .data], laidTests := true, laidLooks := .later }
def IrMaysUptoCardSaid : Prop := Claim7.holds Tryd.pinned (.plain (OpenSpec.upto irMaysSpec)) irMaysUptoCard

/-- THE SECOND FORM's CARD OF 'proctorlaw13.IrSames'. -/
def irSamesUptoCard : Claim7 := { stood := { row := irSamesUptoRow, standIns := [], harness := (true, "eb53d427c7206c7aee5aa5f7a4894ace4aa0f8461f02986c9a166cd1d71141c7"), looks := false }, kinds := [], alts := [], laidByText := true, laidKinds := [.data, .data, .data], laidTests := true, laidLooks := .later }
def IrSamesUptoCardSaid : Prop := Claim7.holds Tryd.pinned (.plain (OpenSpec.upto irSamesSpec)) irSamesUptoCard

/-- THE SECOND FORM's CARD OF 'proctorlaw13.IrLines'. -/
def irLinesUptoCard : Claim7 := { stood := { row := irLinesUptoRow, standIns := [], harness := (true, "eb53d427c7206c7aee5aa5f7a4894ace4aa0f8461f02986c9a166cd1d71141c7"), looks := false }, kinds := [], alts := [], laidByText := true, laidKinds := [.data, .data, .data], laidTests := true, laidLooks := .later }
def IrLinesUptoCardSaid : Prop := Claim7.holds Tryd.pinned (.plain (OpenSpec.upto irLinesSpec)) irLinesUptoCard
end Rows
end Go.Proofs.YtoopgppahfnncaaDoor
