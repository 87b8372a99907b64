/-
  DERIVED. GIVEN WITH THE SEED: THE CARDS: each row of YthffglapmkkohaaGreatDoorRows.lean that lists a variable, with what it lists TIED to the program's text (the seventh form; the later family's looks); each row that meets fmt, with fmt's text TOLD by the authors' own Lean function (tested against real Go, not proved from fmt's source: count such statements apart). THE CARD IS WHAT COUNTS. Prove the row's statement (the work); the ties are given (YthffglapmkkohaaGreatDoorTie.lean); close each card by the builder's one call (the guide's Derived/Test/ToyasCard.lean, 'card_holds'). Laid BY PROGRAM, IN A SANDBOX (cutbox-door.mjs). By AI agents, Wed Nov 11 2026. No macro, syntax, notation, axiom, sorry.
-/
import Derived.Test.YthffglapmkkohaaGreatDoorRows
import GoSem.ClaimSeven
namespace Go.Proofs.YthffglapmkkohaaGreatDoor
namespace Rows

/-- THE TIED CARD OF 'gussetlaw12.VecsSums'. -/
def vecsSumsCard : Claim7 := { stood := { row := vecsSumsRow, standIns := [], harness := (true, "4f23d36afc2da87de90940d6bb4b5241d01b90ac60fb0d83dd1fdc255e0f45ca"), looks := false }, kinds := [], alts := [], laidByText := true, laidKinds := [.data, .data, .data], laidTests := true, laidLooks := .later }
def VecsSumsCardSaid : Prop := Claim7.holds Tryz.pinned (.plain (OpenSpec.ofChange vecsSumsSpec)) vecsSumsCard

/-- THE TIED CARD OF 'gussetlaw13.MatsParts'. -/
def matsPartsCard : Claim7 := { stood := { row := matsPartsRow, standIns := [], harness := (true, "4f23d36afc2da87de90940d6bb4b5241d01b90ac60fb0d83dd1fdc255e0f45ca"), looks := false }, kinds := [], alts := [], laidByText := true, laidKinds := [.data, .data, .data], laidTests := true, laidLooks := .later }
def MatsPartsCardSaid : Prop := Claim7.holds Tryz.pinned (.plain (OpenSpec.ofChange matsPartsSpec)) matsPartsCard

/-- THE TIED CARD OF 'gussetlaw13.MatsMakes'. -/
def matsMakesCard : Claim7 := { stood := { row := matsMakesRow, standIns := [], harness := (true, "4f23d36afc2da87de90940d6bb4b5241d01b90ac60fb0d83dd1fdc255e0f45ca"), looks := false }, kinds := [], alts := [], laidByText := true, laidKinds := [.data, .data, .data], laidTests := true, laidLooks := .later }
def MatsMakesCardSaid : Prop := Claim7.holds Tryz.pinned (.plain (OpenSpec.ofChange matsMakesSpec)) matsMakesCard

/-- THE TIED CARD OF 'gussetlaw14.ElimsRank'. -/
def elimsRankCard : Claim7 := { stood := { row := elimsRankRow, standIns := [], harness := (true, "4f23d36afc2da87de90940d6bb4b5241d01b90ac60fb0d83dd1fdc255e0f45ca"), looks := false }, kinds := [], alts := [], laidByText := true, laidKinds := [.data, .data, .data], laidTests := true, laidLooks := .later }
def ElimsRankCardSaid : Prop := Claim7.holds Tryz.pinned (.plain (OpenSpec.ofChange elimsRankSpec)) elimsRankCard

/-- THE TIED CARD OF 'gussetlaw14.ElimsKernel'. -/
def elimsKernelCard : Claim7 := { stood := { row := elimsKernelRow, standIns := [], harness := (true, "4f23d36afc2da87de90940d6bb4b5241d01b90ac60fb0d83dd1fdc255e0f45ca"), looks := false }, kinds := [], alts := [], laidByText := true, laidKinds := [.data, .data, .data], laidTests := true, laidLooks := .later }
def ElimsKernelCardSaid : Prop := Claim7.holds Tryz.pinned (.plain (OpenSpec.ofChange elimsKernelSpec)) elimsKernelCard

/-- THE TIED CARD OF 'gussetlaw14.ElimsFredholm'. -/
def elimsFredholmCard : Claim7 := { stood := { row := elimsFredholmRow, standIns := [], harness := (true, "4f23d36afc2da87de90940d6bb4b5241d01b90ac60fb0d83dd1fdc255e0f45ca"), looks := false }, kinds := [], alts := [], laidByText := true, laidKinds := [.data, .data, .data], laidTests := true, laidLooks := .later }
def ElimsFredholmCardSaid : Prop := Claim7.holds Tryz.pinned (.plain (OpenSpec.ofChange elimsFredholmSpec)) elimsFredholmCard

/-- THE TIED CARD OF 'gussetlaw14.ElimsForm'. -/
def elimsFormCard : Claim7 := { stood := { row := elimsFormRow, standIns := [], harness := (true, "4f23d36afc2da87de90940d6bb4b5241d01b90ac60fb0d83dd1fdc255e0f45ca"), looks := false }, kinds := [], alts := [], laidByText := true, laidKinds := [.data, .data, .data], laidTests := true, laidLooks := .later }
def ElimsFormCardSaid : Prop := Claim7.holds Tryz.pinned (.plain (OpenSpec.ofChange elimsFormSpec)) elimsFormCard

/-- THE SECOND FORM's CARD OF 'gussetlaw12.VecsSums'. -/
def vecsSumsUptoCard : Claim7 := { stood := { row := vecsSumsUptoRow, standIns := [], harness := (true, "4f23d36afc2da87de90940d6bb4b5241d01b90ac60fb0d83dd1fdc255e0f45ca"), looks := false }, kinds := [], alts := [], laidByText := true, laidKinds := [.data, .data, .data], laidTests := true, laidLooks := .later }
def VecsSumsUptoCardSaid : Prop := Claim7.holds Tryz.pinned (.plain (OpenSpec.upto vecsSumsSpec)) vecsSumsUptoCard

/-- THE SECOND FORM's CARD OF 'gussetlaw13.MatsParts'. -/
def matsPartsUptoCard : Claim7 := { stood := { row := matsPartsUptoRow, standIns := [], harness := (true, "4f23d36afc2da87de90940d6bb4b5241d01b90ac60fb0d83dd1fdc255e0f45ca"), looks := false }, kinds := [], alts := [], laidByText := true, laidKinds := [.data, .data, .data], laidTests := true, laidLooks := .later }
def MatsPartsUptoCardSaid : Prop := Claim7.holds Tryz.pinned (.plain (OpenSpec.upto matsPartsSpec)) matsPartsUptoCard

/-- THE SECOND FORM's CARD OF 'gussetlaw13.MatsMakes'. -/
def matsMakesUptoCard : Claim7 := { stood := { row := matsMakesUptoRow, standIns := [], harness := (true, "4f23d36afc2da87de90940d6bb4b5241d01b90ac60fb0d83dd1fdc255e0f45ca"), looks := false }, kinds := [], alts := [], laidByText := true, laidKinds := [.data, .data, .data], laidTests := true, laidLooks := .later }
def MatsMakesUptoCardSaid : Prop := Claim7.holds Tryz.pinned (.plain (OpenSpec.upto matsMakesSpec)) matsMakesUptoCard

/-- THE SECOND FORM's CARD OF 'gussetlaw14.ElimsRank'. -/
def elimsRankUptoCard : Claim7 := { stood := { row := elimsRankUptoRow, standIns := [], harness := (true, "4f23d36afc2da87de90940d6bb4b5241d01b90ac60fb0d83dd1fdc255e0f45ca"), looks := false }, kinds := [], alts := [], laidByText := true, laidKinds := [.data, .data, .data], laidTests := true, laidLooks := .later }
def ElimsRankUptoCardSaid : Prop := Claim7.holds Tryz.pinned (.plain (OpenSpec.upto elimsRankSpec)) elimsRankUptoCard

/-- THE SECOND FORM's CARD OF 'gussetlaw14.ElimsKernel'. -/
def elimsKernelUptoCard : Claim7 := { stood := { row := elimsKernelUptoRow, standIns := [], harness := (true, "4f23d36afc2da87de90940d6bb4b5241d01b90ac60fb0d83dd1fdc255e0f45ca"), looks := false }, kinds := [], alts := [], laidByText := true, laidKinds := [.data, .data, .data], laidTests := true, laidLooks := .later }
def ElimsKernelUptoCardSaid : Prop := Claim7.holds Tryz.pinned (.plain (OpenSpec.upto elimsKernelSpec)) elimsKernelUptoCard

/-- THE SECOND FORM's CARD OF 'gussetlaw14.ElimsFredholm'. -/
def elimsFredholmUptoCard : Claim7 := { stood := { row := elimsFredholmUptoRow, standIns := [], harness := (true, "4f23d36afc2da87de90940d6bb4b5241d01b90ac60fb0d83dd1fdc255e0f45ca"), looks := false }, kinds := [], alts := [], laidByText := true, laidKinds := [.data, .data, .data], laidTests := true, laidLooks := .later }
def ElimsFredholmUptoCardSaid : Prop := Claim7.holds Tryz.pinned (.plain (OpenSpec.upto elimsFredholmSpec)) elimsFredholmUptoCard

/-- THE SECOND FORM's CARD OF 'gussetlaw14.ElimsForm'. -/
def elimsFormUptoCard : Claim7 := { stood := { row := elimsFormUptoRow, standIns := [], harness := (true, "4f23d36afc2da87de90940d6bb4b5241d01b90ac60fb0d83dd1fdc255e0f45ca"), looks := false }, kinds := [], alts := [], laidByText := true, laidKinds := [.data, .data, .data], laidTests := true, laidLooks := .later }
def ElimsFormUptoCardSaid : Prop := Claim7.holds Tryz.pinned (.plain (OpenSpec.upto elimsFormSpec)) elimsFormUptoCard
end Rows
end Go.Proofs.YthffglapmkkohaaGreatDoor
