/-
  DERIVED. GIVEN WITH THE SEED: THE CARDS: each row of YthkodldppaccmaaGreatDoorRows.lean that lists a variable, with what it lists TIED to the program's text (the seventh form; the later family's looks); each row that meets fmt, with fmt's text TOLD by the authors' own Lean function (tested against real Go, not proved from fmt's source: count such statements apart). THE CARD IS WHAT COUNTS. Prove the row's statement (the work); the ties are given (YthkodldppaccmaaGreatDoorTie.lean); close each card by the builder's one call (the guide's Derived/Test/ToyasCard.lean, 'card_holds'). Laid BY PROGRAM, IN A SANDBOX (cutbox-door.mjs). By AI agents, Wed Nov 11 2026. No macro, syntax, notation, axiom, sorry.
-/
import Derived.Test.YthkodldppaccmaaGreatDoorRows
import GoSem.ClaimSeven
namespace Go.Proofs.YthkodldppaccmaaGreatDoor
namespace Rows

/-- THE TIED CARD OF 'gussetlaw12.VecsPlays'. -/
def vecsPlaysCard : Claim7 := { stood := { row := vecsPlaysRow, standIns := [], harness := (true, "d9cf680f5f586de641383eca7a24c796c7e233f4ec6779d86ae44485a19c2db0"), looks := false }, kinds := [], alts := [], laidByText := true, laidKinds := [.data, .data, .data], laidTests := true, laidLooks := .later }
def VecsPlaysCardSaid : Prop := Claim7.holds Tryz.pinned (.plain (OpenSpec.ofChange vecsPlaysSpec)) vecsPlaysCard

/-- THE TIED CARD OF 'gussetlaw12.VecsSums'. -/
def vecsSumsCard : Claim7 := { stood := { row := vecsSumsRow, standIns := [], harness := (true, "d9cf680f5f586de641383eca7a24c796c7e233f4ec6779d86ae44485a19c2db0"), looks := false }, kinds := [], alts := [], laidByText := true, laidKinds := [.data, .data, .data], laidTests := true, laidLooks := .later }
def VecsSumsCardSaid : Prop := Claim7.holds Tryz.pinned (.plain (OpenSpec.ofChange vecsSumsSpec)) vecsSumsCard

/-- THE TIED CARD OF 'gussetlaw13.MatsPlays'. -/
def matsPlaysCard : Claim7 := { stood := { row := matsPlaysRow, standIns := [], harness := (true, "d9cf680f5f586de641383eca7a24c796c7e233f4ec6779d86ae44485a19c2db0"), looks := false }, kinds := [], alts := [], laidByText := true, laidKinds := [.data, .data, .data], laidTests := true, laidLooks := .later }
def MatsPlaysCardSaid : Prop := Claim7.holds Tryz.pinned (.plain (OpenSpec.ofChange matsPlaysSpec)) matsPlaysCard

/-- THE TIED CARD OF 'gussetlaw13.MatsApply'. -/
def matsApplyCard : Claim7 := { stood := { row := matsApplyRow, standIns := [], harness := (true, "d9cf680f5f586de641383eca7a24c796c7e233f4ec6779d86ae44485a19c2db0"), looks := false }, kinds := [], alts := [], laidByText := true, laidKinds := [.data, .data, .data], laidTests := true, laidLooks := .later }
def MatsApplyCardSaid : Prop := Claim7.holds Tryz.pinned (.plain (OpenSpec.ofChange matsApplySpec)) matsApplyCard

/-- THE TIED CARD OF 'gussetlaw13.MatsRing'. -/
def matsRingCard : Claim7 := { stood := { row := matsRingRow, standIns := [], harness := (true, "d9cf680f5f586de641383eca7a24c796c7e233f4ec6779d86ae44485a19c2db0"), looks := false }, kinds := [], alts := [], laidByText := true, laidKinds := [.data, .data, .data], laidTests := true, laidLooks := .later }
def MatsRingCardSaid : Prop := Claim7.holds Tryz.pinned (.plain (OpenSpec.ofChange matsRingSpec)) matsRingCard

/-- THE TIED CARD OF 'gussetlaw13.MatsForms'. -/
def matsFormsCard : Claim7 := { stood := { row := matsFormsRow, standIns := [], harness := (true, "d9cf680f5f586de641383eca7a24c796c7e233f4ec6779d86ae44485a19c2db0"), looks := false }, kinds := [], alts := [], laidByText := true, laidKinds := [.data, .data, .data], laidTests := true, laidLooks := .later }
def MatsFormsCardSaid : Prop := Claim7.holds Tryz.pinned (.plain (OpenSpec.ofChange matsFormsSpec)) matsFormsCard

/-- THE TIED CARD OF 'gussetlaw13.MatsParts'. -/
def matsPartsCard : Claim7 := { stood := { row := matsPartsRow, standIns := [], harness := (true, "d9cf680f5f586de641383eca7a24c796c7e233f4ec6779d86ae44485a19c2db0"), looks := false }, kinds := [], alts := [], laidByText := true, laidKinds := [.data, .data, .data], laidTests := true, laidLooks := .later }
def MatsPartsCardSaid : Prop := Claim7.holds Tryz.pinned (.plain (OpenSpec.ofChange matsPartsSpec)) matsPartsCard

/-- THE TIED CARD OF 'gussetlaw13.MatsErrors'. -/
def matsErrorsCard : Claim7 := { stood := { row := matsErrorsRow, standIns := [], harness := (true, "d9cf680f5f586de641383eca7a24c796c7e233f4ec6779d86ae44485a19c2db0"), looks := false }, kinds := [], alts := [], laidByText := true, laidKinds := [.data, .data, .data], laidTests := true, laidLooks := .later }
def MatsErrorsCardSaid : Prop := Claim7.holds Tryz.pinned (.plain (OpenSpec.ofChange matsErrorsSpec)) matsErrorsCard

/-- THE TIED CARD OF 'gussetlaw13.MatsMakes'. -/
def matsMakesCard : Claim7 := { stood := { row := matsMakesRow, standIns := [], harness := (true, "d9cf680f5f586de641383eca7a24c796c7e233f4ec6779d86ae44485a19c2db0"), looks := false }, kinds := [], alts := [], laidByText := true, laidKinds := [.data, .data, .data], laidTests := true, laidLooks := .later }
def MatsMakesCardSaid : Prop := Claim7.holds Tryz.pinned (.plain (OpenSpec.ofChange matsMakesSpec)) matsMakesCard

/-- THE SECOND FORM's CARD OF 'gussetlaw12.VecsPlays'. -/
def vecsPlaysUptoCard : Claim7 := { stood := { row := vecsPlaysUptoRow, standIns := [], harness := (true, "d9cf680f5f586de641383eca7a24c796c7e233f4ec6779d86ae44485a19c2db0"), looks := false }, kinds := [], alts := [], laidByText := true, laidKinds := [.data, .data, .data], laidTests := true, laidLooks := .later }
def VecsPlaysUptoCardSaid : Prop := Claim7.holds Tryz.pinned (.plain (OpenSpec.upto vecsPlaysSpec)) vecsPlaysUptoCard

/-- THE SECOND FORM's CARD OF 'gussetlaw12.VecsSums'. -/
def vecsSumsUptoCard : Claim7 := { stood := { row := vecsSumsUptoRow, standIns := [], harness := (true, "d9cf680f5f586de641383eca7a24c796c7e233f4ec6779d86ae44485a19c2db0"), looks := false }, kinds := [], alts := [], laidByText := true, laidKinds := [.data, .data, .data], laidTests := true, laidLooks := .later }
def VecsSumsUptoCardSaid : Prop := Claim7.holds Tryz.pinned (.plain (OpenSpec.upto vecsSumsSpec)) vecsSumsUptoCard

/-- THE SECOND FORM's CARD OF 'gussetlaw13.MatsPlays'. -/
def matsPlaysUptoCard : Claim7 := { stood := { row := matsPlaysUptoRow, standIns := [], harness := (true, "d9cf680f5f586de641383eca7a24c796c7e233f4ec6779d86ae44485a19c2db0"), looks := false }, kinds := [], alts := [], laidByText := true, laidKinds := [.data, .data, .data], laidTests := true, laidLooks := .later }
def MatsPlaysUptoCardSaid : Prop := Claim7.holds Tryz.pinned (.plain (OpenSpec.upto matsPlaysSpec)) matsPlaysUptoCard

/-- THE SECOND FORM's CARD OF 'gussetlaw13.MatsApply'. -/
def matsApplyUptoCard : Claim7 := { stood := { row := matsApplyUptoRow, standIns := [], harness := (true, "d9cf680f5f586de641383eca7a24c796c7e233f4ec6779d86ae44485a19c2db0"), looks := false }, kinds := [], alts := [], laidByText := true, laidKinds := [.data, .data, .data], laidTests := true, laidLooks := .later }
def MatsApplyUptoCardSaid : Prop := Claim7.holds Tryz.pinned (.plain (OpenSpec.upto matsApplySpec)) matsApplyUptoCard

/-- THE SECOND FORM's CARD OF 'gussetlaw13.MatsRing'. -/
def matsRingUptoCard : Claim7 := { stood := { row := matsRingUptoRow, standIns := [], harness := (true, "d9cf680f5f586de641383eca7a24c796c7e233f4ec6779d86ae44485a19c2db0"), looks := false }, kinds := [], alts := [], laidByText := true, laidKinds := [.data, .data, .data], laidTests := true, laidLooks := .later }
def MatsRingUptoCardSaid : Prop := Claim7.holds Tryz.pinned (.plain (OpenSpec.upto matsRingSpec)) matsRingUptoCard

/-- THE SECOND FORM's CARD OF 'gussetlaw13.MatsForms'. -/
def matsFormsUptoCard : Claim7 := { stood := { row := matsFormsUptoRow, standIns := [], harness := (true, "d9cf680f5f586de641383eca7a24c796c7e233f4ec6779d86ae44485a19c2db0"), looks := false }, kinds := [], alts := [], laidByText := true, laidKinds := [.data, .data, .data], laidTests := true, laidLooks := .later }
def MatsFormsUptoCardSaid : Prop := Claim7.holds Tryz.pinned (.plain (OpenSpec.upto matsFormsSpec)) matsFormsUptoCard

/-- THE SECOND FORM's CARD OF 'gussetlaw13.MatsParts'. -/
def matsPartsUptoCard : Claim7 := { stood := { row := matsPartsUptoRow, standIns := [], harness := (true, "d9cf680f5f586de641383eca7a24c796c7e233f4ec6779d86ae44485a19c2db0"), looks := false }, kinds := [], alts := [], laidByText := true, laidKinds := [.data, .data, .data], laidTests := true, laidLooks := .later }
def MatsPartsUptoCardSaid : Prop := Claim7.holds Tryz.pinned (.plain (OpenSpec.upto matsPartsSpec)) matsPartsUptoCard

/-- THE SECOND FORM's CARD OF 'gussetlaw13.MatsErrors'. -/
def matsErrorsUptoCard : Claim7 := { stood := { row := matsErrorsUptoRow, standIns := [], harness := (true, "d9cf680f5f586de641383eca7a24c796c7e233f4ec6779d86ae44485a19c2db0"), looks := false }, kinds := [], alts := [], laidByText := true, laidKinds := [.data, .data, .data], laidTests := true, laidLooks := .later }
def MatsErrorsUptoCardSaid : Prop := Claim7.holds Tryz.pinned (.plain (OpenSpec.upto matsErrorsSpec)) matsErrorsUptoCard

/-- THE SECOND FORM's CARD OF 'gussetlaw13.MatsMakes'. -/
def matsMakesUptoCard : Claim7 := { stood := { row := matsMakesUptoRow, standIns := [], harness := (true, "d9cf680f5f586de641383eca7a24c796c7e233f4ec6779d86ae44485a19c2db0"), looks := false }, kinds := [], alts := [], laidByText := true, laidKinds := [.data, .data, .data], laidTests := true, laidLooks := .later }
def MatsMakesUptoCardSaid : Prop := Claim7.holds Tryz.pinned (.plain (OpenSpec.upto matsMakesSpec)) matsMakesUptoCard
end Rows
end Go.Proofs.YthkodldppaccmaaGreatDoor
