/-
  DERIVED. GIVEN WITH THE SEED: THE CARDS: each row of YtkdbhacimoaohaaGreatDoorRows.lean that lists a variable, with what it lists TIED to the program's text (the seventh form; the later family's looks); each row that meets fmt, with fmt's text TOLD by the authors' own Lean function (tested against real Go, not proved from fmt's source: count such statements apart). THE CARD IS WHAT COUNTS. Prove the row's statement (the work); the ties are given (YtkdbhacimoaohaaGreatDoorTie.lean); close each card by the builder's one call (the guide's Derived/Test/ToyasCard.lean, 'card_holds'). Laid BY PROGRAM, IN A SANDBOX (cutbox-door.mjs). By AI agents, Wed Nov 11 2026. No macro, syntax, notation, axiom, sorry.
-/
import Derived.Test.YtkdbhacimoaohaaGreatDoorRows
import GoSem.ClaimSeven
namespace Go.Proofs.YtkdbhacimoaohaaGreatDoor
namespace Rows

/-- THE TIED CARD OF 'gussetlaw09.IntegralsGauss'. -/
def integralsGaussCard : Claim7 := { stood := { row := integralsGaussRow, standIns := [], harness := (true, "630bb49791063316a031c7003a4a19e517dec34128ded42a057b6df06a2927f1"), looks := false }, kinds := [], alts := [], laidByText := true, laidKinds := [.data, .data, .data], laidTests := true, laidLooks := .later }
def IntegralsGaussCardSaid : Prop := Claim7.holds Tryz.pinned (.plain (OpenSpec.ofChange integralsGaussSpec)) integralsGaussCard

/-- THE TIED CARD OF 'gussetlaw09.IntegralsParts'. -/
def integralsPartsCard : Claim7 := { stood := { row := integralsPartsRow, standIns := [], harness := (true, "630bb49791063316a031c7003a4a19e517dec34128ded42a057b6df06a2927f1"), looks := false }, kinds := [], alts := [], laidByText := true, laidKinds := [.data, .data, .data], laidTests := true, laidLooks := .later }
def IntegralsPartsCardSaid : Prop := Claim7.holds Tryz.pinned (.plain (OpenSpec.ofChange integralsPartsSpec)) integralsPartsCard

/-- THE TIED CARD OF 'gussetlaw09.IntegralsWays'. -/
def integralsWaysCard : Claim7 := { stood := { row := integralsWaysRow, standIns := [], harness := (true, "630bb49791063316a031c7003a4a19e517dec34128ded42a057b6df06a2927f1"), looks := false }, kinds := [], alts := [], laidByText := true, laidKinds := [.data, .data, .data], laidTests := true, laidLooks := .later }
def IntegralsWaysCardSaid : Prop := Claim7.holds Tryz.pinned (.plain (OpenSpec.ofChange integralsWaysSpec)) integralsWaysCard

/-- THE TIED CARD OF 'gussetlaw09.IntegralsRound'. -/
def integralsRoundCard : Claim7 := { stood := { row := integralsRoundRow, standIns := [], harness := (true, "630bb49791063316a031c7003a4a19e517dec34128ded42a057b6df06a2927f1"), looks := false }, kinds := [], alts := [], laidByText := true, laidKinds := [.data, .data, .data], laidTests := true, laidLooks := .later }
def IntegralsRoundCardSaid : Prop := Claim7.holds Tryz.pinned (.plain (OpenSpec.ofChange integralsRoundSpec)) integralsRoundCard

/-- THE SECOND FORM's CARD OF 'gussetlaw09.IntegralsGauss'. -/
def integralsGaussUptoCard : Claim7 := { stood := { row := integralsGaussUptoRow, standIns := [], harness := (true, "630bb49791063316a031c7003a4a19e517dec34128ded42a057b6df06a2927f1"), looks := false }, kinds := [], alts := [], laidByText := true, laidKinds := [.data, .data, .data], laidTests := true, laidLooks := .later }
def IntegralsGaussUptoCardSaid : Prop := Claim7.holds Tryz.pinned (.plain (OpenSpec.upto integralsGaussSpec)) integralsGaussUptoCard

/-- THE SECOND FORM's CARD OF 'gussetlaw09.IntegralsParts'. -/
def integralsPartsUptoCard : Claim7 := { stood := { row := integralsPartsUptoRow, standIns := [], harness := (true, "630bb49791063316a031c7003a4a19e517dec34128ded42a057b6df06a2927f1"), looks := false }, kinds := [], alts := [], laidByText := true, laidKinds := [.data, .data, .data], laidTests := true, laidLooks := .later }
def IntegralsPartsUptoCardSaid : Prop := Claim7.holds Tryz.pinned (.plain (OpenSpec.upto integralsPartsSpec)) integralsPartsUptoCard

/-- THE SECOND FORM's CARD OF 'gussetlaw09.IntegralsWays'. -/
def integralsWaysUptoCard : Claim7 := { stood := { row := integralsWaysUptoRow, standIns := [], harness := (true, "630bb49791063316a031c7003a4a19e517dec34128ded42a057b6df06a2927f1"), looks := false }, kinds := [], alts := [], laidByText := true, laidKinds := [.data, .data, .data], laidTests := true, laidLooks := .later }
def IntegralsWaysUptoCardSaid : Prop := Claim7.holds Tryz.pinned (.plain (OpenSpec.upto integralsWaysSpec)) integralsWaysUptoCard

/-- THE SECOND FORM's CARD OF 'gussetlaw09.IntegralsRound'. -/
def integralsRoundUptoCard : Claim7 := { stood := { row := integralsRoundUptoRow, standIns := [], harness := (true, "630bb49791063316a031c7003a4a19e517dec34128ded42a057b6df06a2927f1"), looks := false }, kinds := [], alts := [], laidByText := true, laidKinds := [.data, .data, .data], laidTests := true, laidLooks := .later }
def IntegralsRoundUptoCardSaid : Prop := Claim7.holds Tryz.pinned (.plain (OpenSpec.upto integralsRoundSpec)) integralsRoundUptoCard
end Rows
end Go.Proofs.YtkdbhacimoaohaaGreatDoor
