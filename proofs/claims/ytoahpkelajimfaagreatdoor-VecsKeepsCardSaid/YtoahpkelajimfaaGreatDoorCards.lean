/-
  DERIVED. GIVEN WITH THE SEED: THE CARDS: each row of YtoahpkelajimfaaGreatDoorRows.lean that lists a variable, with what it lists TIED to the program's text (the seventh form; the later family's looks); each row that meets fmt, with fmt's text TOLD by the authors' own Lean function (tested against real Go, not proved from fmt's source: count such statements apart). THE CARD IS WHAT COUNTS. Prove the row's statement (the work); the ties are given (YtoahpkelajimfaaGreatDoorTie.lean); close each card by the builder's one call (the guide's Derived/Test/ToyasCard.lean, 'card_holds'). Laid BY PROGRAM, IN A SANDBOX (cutbox-door.mjs). By AI agents, Wed Nov 11 2026. No macro, syntax, notation, axiom, sorry.
-/
import Derived.Test.YtoahpkelajimfaaGreatDoorRows
import GoSem.ClaimSeven
namespace Go.Proofs.YtoahpkelajimfaaGreatDoor
namespace Rows

/-- THE TIED CARD OF 'gussetlaw12.VecsPlays'. -/
def vecsPlaysCard : Claim7 := { stood := { row := vecsPlaysRow, standIns := [], harness := (true, "1ee914a280e43170da4cbd61f996daeb112779a040d3592d9cf9391af1151971"), looks := false }, kinds := [], alts := [], laidByText := true, laidKinds := [.data, .data, .data], laidTests := true, laidLooks := .later }
def VecsPlaysCardSaid : Prop := Claim7.holds Tryz.pinned (.plain (OpenSpec.ofChange vecsPlaysSpec)) vecsPlaysCard

/-- THE TIED CARD OF 'gussetlaw12.VecsSums'. -/
def vecsSumsCard : Claim7 := { stood := { row := vecsSumsRow, standIns := [], harness := (true, "1ee914a280e43170da4cbd61f996daeb112779a040d3592d9cf9391af1151971"), looks := false }, kinds := [], alts := [], laidByText := true, laidKinds := [.data, .data, .data], laidTests := true, laidLooks := .later }
def VecsSumsCardSaid : Prop := Claim7.holds Tryz.pinned (.plain (OpenSpec.ofChange vecsSumsSpec)) vecsSumsCard

/-- THE TIED CARD OF 'gussetlaw12.VecsSpace'. -/
def vecsSpaceCard : Claim7 := { stood := { row := vecsSpaceRow, standIns := [], harness := (true, "1ee914a280e43170da4cbd61f996daeb112779a040d3592d9cf9391af1151971"), looks := false }, kinds := [], alts := [], laidByText := true, laidKinds := [.data, .data, .data], laidTests := true, laidLooks := .later }
def VecsSpaceCardSaid : Prop := Claim7.holds Tryz.pinned (.plain (OpenSpec.ofChange vecsSpaceSpec)) vecsSpaceCard

/-- THE TIED CARD OF 'gussetlaw12.VecsCauchy'. -/
def vecsCauchyCard : Claim7 := { stood := { row := vecsCauchyRow, standIns := [], harness := (true, "1ee914a280e43170da4cbd61f996daeb112779a040d3592d9cf9391af1151971"), looks := false }, kinds := [], alts := [], laidByText := true, laidKinds := [.data, .data, .data], laidTests := true, laidLooks := .later }
def VecsCauchyCardSaid : Prop := Claim7.holds Tryz.pinned (.plain (OpenSpec.ofChange vecsCauchySpec)) vecsCauchyCard

/-- THE TIED CARD OF 'gussetlaw12.VecsSizes'. -/
def vecsSizesCard : Claim7 := { stood := { row := vecsSizesRow, standIns := [], harness := (true, "1ee914a280e43170da4cbd61f996daeb112779a040d3592d9cf9391af1151971"), looks := false }, kinds := [], alts := [], laidByText := true, laidKinds := [.data, .data, .data], laidTests := true, laidLooks := .later }
def VecsSizesCardSaid : Prop := Claim7.holds Tryz.pinned (.plain (OpenSpec.ofChange vecsSizesSpec)) vecsSizesCard

/-- THE TIED CARD OF 'gussetlaw12.VecsUnits'. -/
def vecsUnitsCard : Claim7 := { stood := { row := vecsUnitsRow, standIns := [], harness := (true, "1ee914a280e43170da4cbd61f996daeb112779a040d3592d9cf9391af1151971"), looks := false }, kinds := [], alts := [], laidByText := true, laidKinds := [.data, .data, .data], laidTests := true, laidLooks := .later }
def VecsUnitsCardSaid : Prop := Claim7.holds Tryz.pinned (.plain (OpenSpec.ofChange vecsUnitsSpec)) vecsUnitsCard

/-- THE TIED CARD OF 'gussetlaw12.VecsErrors'. -/
def vecsErrorsCard : Claim7 := { stood := { row := vecsErrorsRow, standIns := [], harness := (true, "1ee914a280e43170da4cbd61f996daeb112779a040d3592d9cf9391af1151971"), looks := false }, kinds := [], alts := [], laidByText := true, laidKinds := [.data, .data, .data], laidTests := true, laidLooks := .later }
def VecsErrorsCardSaid : Prop := Claim7.holds Tryz.pinned (.plain (OpenSpec.ofChange vecsErrorsSpec)) vecsErrorsCard

/-- THE TIED CARD OF 'gussetlaw12.VecsKeeps'. -/
def vecsKeepsCard : Claim7 := { stood := { row := vecsKeepsRow, standIns := [], harness := (true, "1ee914a280e43170da4cbd61f996daeb112779a040d3592d9cf9391af1151971"), looks := false }, kinds := [], alts := [], laidByText := true, laidKinds := [.data, .data, .data], laidTests := true, laidLooks := .later }
def VecsKeepsCardSaid : Prop := Claim7.holds Tryz.pinned (.plain (OpenSpec.ofChange vecsKeepsSpec)) vecsKeepsCard

/-- THE TIED CARD OF 'gussetlaw12.VecsKnown'. -/
def vecsKnownCard : Claim7 := { stood := { row := vecsKnownRow, standIns := [], harness := (true, "1ee914a280e43170da4cbd61f996daeb112779a040d3592d9cf9391af1151971"), looks := false }, kinds := [], alts := [], laidByText := true, laidKinds := [.data, .data, .data], laidTests := true, laidLooks := .later }
def VecsKnownCardSaid : Prop := Claim7.holds Tryz.pinned (.plain (OpenSpec.ofChange vecsKnownSpec)) vecsKnownCard

/-- THE SECOND FORM's CARD OF 'gussetlaw12.VecsPlays'. -/
def vecsPlaysUptoCard : Claim7 := { stood := { row := vecsPlaysUptoRow, standIns := [], harness := (true, "1ee914a280e43170da4cbd61f996daeb112779a040d3592d9cf9391af1151971"), looks := false }, kinds := [], alts := [], laidByText := true, laidKinds := [.data, .data, .data], laidTests := true, laidLooks := .later }
def VecsPlaysUptoCardSaid : Prop := Claim7.holds Tryz.pinned (.plain (OpenSpec.upto vecsPlaysSpec)) vecsPlaysUptoCard

/-- THE SECOND FORM's CARD OF 'gussetlaw12.VecsSums'. -/
def vecsSumsUptoCard : Claim7 := { stood := { row := vecsSumsUptoRow, standIns := [], harness := (true, "1ee914a280e43170da4cbd61f996daeb112779a040d3592d9cf9391af1151971"), looks := false }, kinds := [], alts := [], laidByText := true, laidKinds := [.data, .data, .data], laidTests := true, laidLooks := .later }
def VecsSumsUptoCardSaid : Prop := Claim7.holds Tryz.pinned (.plain (OpenSpec.upto vecsSumsSpec)) vecsSumsUptoCard

/-- THE SECOND FORM's CARD OF 'gussetlaw12.VecsSpace'. -/
def vecsSpaceUptoCard : Claim7 := { stood := { row := vecsSpaceUptoRow, standIns := [], harness := (true, "1ee914a280e43170da4cbd61f996daeb112779a040d3592d9cf9391af1151971"), looks := false }, kinds := [], alts := [], laidByText := true, laidKinds := [.data, .data, .data], laidTests := true, laidLooks := .later }
def VecsSpaceUptoCardSaid : Prop := Claim7.holds Tryz.pinned (.plain (OpenSpec.upto vecsSpaceSpec)) vecsSpaceUptoCard

/-- THE SECOND FORM's CARD OF 'gussetlaw12.VecsCauchy'. -/
def vecsCauchyUptoCard : Claim7 := { stood := { row := vecsCauchyUptoRow, standIns := [], harness := (true, "1ee914a280e43170da4cbd61f996daeb112779a040d3592d9cf9391af1151971"), looks := false }, kinds := [], alts := [], laidByText := true, laidKinds := [.data, .data, .data], laidTests := true, laidLooks := .later }
def VecsCauchyUptoCardSaid : Prop := Claim7.holds Tryz.pinned (.plain (OpenSpec.upto vecsCauchySpec)) vecsCauchyUptoCard

/-- THE SECOND FORM's CARD OF 'gussetlaw12.VecsSizes'. -/
def vecsSizesUptoCard : Claim7 := { stood := { row := vecsSizesUptoRow, standIns := [], harness := (true, "1ee914a280e43170da4cbd61f996daeb112779a040d3592d9cf9391af1151971"), looks := false }, kinds := [], alts := [], laidByText := true, laidKinds := [.data, .data, .data], laidTests := true, laidLooks := .later }
def VecsSizesUptoCardSaid : Prop := Claim7.holds Tryz.pinned (.plain (OpenSpec.upto vecsSizesSpec)) vecsSizesUptoCard

/-- THE SECOND FORM's CARD OF 'gussetlaw12.VecsUnits'. -/
def vecsUnitsUptoCard : Claim7 := { stood := { row := vecsUnitsUptoRow, standIns := [], harness := (true, "1ee914a280e43170da4cbd61f996daeb112779a040d3592d9cf9391af1151971"), looks := false }, kinds := [], alts := [], laidByText := true, laidKinds := [.data, .data, .data], laidTests := true, laidLooks := .later }
def VecsUnitsUptoCardSaid : Prop := Claim7.holds Tryz.pinned (.plain (OpenSpec.upto vecsUnitsSpec)) vecsUnitsUptoCard

/-- THE SECOND FORM's CARD OF 'gussetlaw12.VecsErrors'. -/
def vecsErrorsUptoCard : Claim7 := { stood := { row := vecsErrorsUptoRow, standIns := [], harness := (true, "1ee914a280e43170da4cbd61f996daeb112779a040d3592d9cf9391af1151971"), looks := false }, kinds := [], alts := [], laidByText := true, laidKinds := [.data, .data, .data], laidTests := true, laidLooks := .later }
def VecsErrorsUptoCardSaid : Prop := Claim7.holds Tryz.pinned (.plain (OpenSpec.upto vecsErrorsSpec)) vecsErrorsUptoCard

/-- THE SECOND FORM's CARD OF 'gussetlaw12.VecsKeeps'. -/
def vecsKeepsUptoCard : Claim7 := { stood := { row := vecsKeepsUptoRow, standIns := [], harness := (true, "1ee914a280e43170da4cbd61f996daeb112779a040d3592d9cf9391af1151971"), looks := false }, kinds := [], alts := [], laidByText := true, laidKinds := [.data, .data, .data], laidTests := true, laidLooks := .later }
def VecsKeepsUptoCardSaid : Prop := Claim7.holds Tryz.pinned (.plain (OpenSpec.upto vecsKeepsSpec)) vecsKeepsUptoCard

/-- THE SECOND FORM's CARD OF 'gussetlaw12.VecsKnown'. -/
def vecsKnownUptoCard : Claim7 := { stood := { row := vecsKnownUptoRow, standIns := [], harness := (true, "1ee914a280e43170da4cbd61f996daeb112779a040d3592d9cf9391af1151971"), looks := false }, kinds := [], alts := [], laidByText := true, laidKinds := [.data, .data, .data], laidTests := true, laidLooks := .later }
def VecsKnownUptoCardSaid : Prop := Claim7.holds Tryz.pinned (.plain (OpenSpec.upto vecsKnownSpec)) vecsKnownUptoCard
end Rows
end Go.Proofs.YtoahpkelajimfaaGreatDoor
