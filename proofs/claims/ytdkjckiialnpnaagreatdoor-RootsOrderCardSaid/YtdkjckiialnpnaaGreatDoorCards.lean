/-
  DERIVED. GIVEN WITH THE SEED: THE CARDS: each row of YtdkjckiialnpnaaGreatDoorRows.lean that lists a variable, with what it lists TIED to the program's text (the seventh form; the later family's looks); each row that meets fmt, with fmt's text TOLD by the authors' own Lean function (tested against real Go, not proved from fmt's source: count such statements apart). THE CARD IS WHAT COUNTS. Prove the row's statement (the work); the ties are given (YtdkjckiialnpnaaGreatDoorTie.lean); close each card by the builder's one call (the guide's Derived/Test/ToyasCard.lean, 'card_holds'). Laid BY PROGRAM, IN A SANDBOX (cutbox-door.mjs). By AI agents, Wed Nov 11 2026. No macro, syntax, notation, axiom, sorry.
-/
import Derived.Test.YtdkjckiialnpnaaGreatDoorRows
import GoSem.ClaimSeven
namespace Go.Proofs.YtdkjckiialnpnaaGreatDoor
namespace Rows

/-- THE TIED CARD OF 'gussetlaw04.DecimalsCycle'. -/
def decimalsCycleCard : Claim7 := { stood := { row := decimalsCycleRow, standIns := [], harness := (true, "9c1cb11e1a06be516a27f3c1bff1f90cfed4bc1b30a1aa51c2f7ef318f1da12b"), looks := false }, kinds := [], alts := [], laidByText := true, laidKinds := [.data, .data, .data], laidTests := true, laidLooks := .later }
def DecimalsCycleCardSaid : Prop := Claim7.holds Tryz.pinned (.plain (OpenSpec.ofChange decimalsCycleSpec)) decimalsCycleCard

/-- THE TIED CARD OF 'gussetlaw04.DecimalsBetween'. -/
def decimalsBetweenCard : Claim7 := { stood := { row := decimalsBetweenRow, standIns := [], harness := (true, "9c1cb11e1a06be516a27f3c1bff1f90cfed4bc1b30a1aa51c2f7ef318f1da12b"), looks := false }, kinds := [], alts := [], laidByText := true, laidKinds := [.data, .data, .data], laidTests := true, laidLooks := .later }
def DecimalsBetweenCardSaid : Prop := Claim7.holds Tryz.pinned (.plain (OpenSpec.ofChange decimalsBetweenSpec)) decimalsBetweenCard

/-- THE TIED CARD OF 'gussetlaw04.DecimalsTurned'. -/
def decimalsTurnedCard : Claim7 := { stood := { row := decimalsTurnedRow, standIns := [], harness := (true, "9c1cb11e1a06be516a27f3c1bff1f90cfed4bc1b30a1aa51c2f7ef318f1da12b"), looks := false }, kinds := [], alts := [], laidByText := true, laidKinds := [.data, .data, .data], laidTests := true, laidLooks := .later }
def DecimalsTurnedCardSaid : Prop := Claim7.holds Tryz.pinned (.plain (OpenSpec.ofChange decimalsTurnedSpec)) decimalsTurnedCard

/-- THE TIED CARD OF 'gussetlaw04.DecimalsRounds'. -/
def decimalsRoundsCard : Claim7 := { stood := { row := decimalsRoundsRow, standIns := [], harness := (true, "9c1cb11e1a06be516a27f3c1bff1f90cfed4bc1b30a1aa51c2f7ef318f1da12b"), looks := false }, kinds := [], alts := [], laidByText := true, laidKinds := [.data, .data, .data], laidTests := true, laidLooks := .later }
def DecimalsRoundsCardSaid : Prop := Claim7.holds Tryz.pinned (.plain (OpenSpec.ofChange decimalsRoundsSpec)) decimalsRoundsCard

/-- THE TIED CARD OF 'gussetlaw05.RootsBoth'. -/
def rootsBothCard : Claim7 := { stood := { row := rootsBothRow, standIns := [], harness := (true, "9c1cb11e1a06be516a27f3c1bff1f90cfed4bc1b30a1aa51c2f7ef318f1da12b"), looks := false }, kinds := [], alts := [], laidByText := true, laidKinds := [.data, .data, .data], laidTests := true, laidLooks := .later }
def RootsBothCardSaid : Prop := Claim7.holds Tryz.pinned (.plain (OpenSpec.ofChange rootsBothSpec)) rootsBothCard

/-- THE TIED CARD OF 'gussetlaw05.RootsBetween'. -/
def rootsBetweenCard : Claim7 := { stood := { row := rootsBetweenRow, standIns := [], harness := (true, "9c1cb11e1a06be516a27f3c1bff1f90cfed4bc1b30a1aa51c2f7ef318f1da12b"), looks := false }, kinds := [], alts := [], laidByText := true, laidKinds := [.data, .data, .data], laidTests := true, laidLooks := .later }
def RootsBetweenCardSaid : Prop := Claim7.holds Tryz.pinned (.plain (OpenSpec.ofChange rootsBetweenSpec)) rootsBetweenCard

/-- THE TIED CARD OF 'gussetlaw05.RootsRefused'. -/
def rootsRefusedCard : Claim7 := { stood := { row := rootsRefusedRow, standIns := [], harness := (true, "9c1cb11e1a06be516a27f3c1bff1f90cfed4bc1b30a1aa51c2f7ef318f1da12b"), looks := false }, kinds := [], alts := [], laidByText := true, laidKinds := [.data, .data, .data], laidTests := true, laidLooks := .later }
def RootsRefusedCardSaid : Prop := Claim7.holds Tryz.pinned (.plain (OpenSpec.ofChange rootsRefusedSpec)) rootsRefusedCard

/-- THE TIED CARD OF 'gussetlaw05.RootsExact'. -/
def rootsExactCard : Claim7 := { stood := { row := rootsExactRow, standIns := [], harness := (true, "9c1cb11e1a06be516a27f3c1bff1f90cfed4bc1b30a1aa51c2f7ef318f1da12b"), looks := false }, kinds := [], alts := [], laidByText := true, laidKinds := [.data, .data, .data], laidTests := true, laidLooks := .later }
def RootsExactCardSaid : Prop := Claim7.holds Tryz.pinned (.plain (OpenSpec.ofChange rootsExactSpec)) rootsExactCard

/-- THE TIED CARD OF 'gussetlaw05.RootsRise'. -/
def rootsRiseCard : Claim7 := { stood := { row := rootsRiseRow, standIns := [], harness := (true, "9c1cb11e1a06be516a27f3c1bff1f90cfed4bc1b30a1aa51c2f7ef318f1da12b"), looks := false }, kinds := [], alts := [], laidByText := true, laidKinds := [.data, .data, .data], laidTests := true, laidLooks := .later }
def RootsRiseCardSaid : Prop := Claim7.holds Tryz.pinned (.plain (OpenSpec.ofChange rootsRiseSpec)) rootsRiseCard

/-- THE TIED CARD OF 'gussetlaw05.RootsOrder'. -/
def rootsOrderCard : Claim7 := { stood := { row := rootsOrderRow, standIns := [], harness := (true, "9c1cb11e1a06be516a27f3c1bff1f90cfed4bc1b30a1aa51c2f7ef318f1da12b"), looks := false }, kinds := [], alts := [], laidByText := true, laidKinds := [.data, .data, .data], laidTests := true, laidLooks := .later }
def RootsOrderCardSaid : Prop := Claim7.holds Tryz.pinned (.plain (OpenSpec.ofChange rootsOrderSpec)) rootsOrderCard

/-- THE TIED CARD OF 'gussetlaw06.ModsOf'. -/
def modsOfCard : Claim7 := { stood := { row := modsOfRow, standIns := [], harness := (true, "9c1cb11e1a06be516a27f3c1bff1f90cfed4bc1b30a1aa51c2f7ef318f1da12b"), looks := false }, kinds := [], alts := [], laidByText := true, laidKinds := [.data], laidTests := true, laidLooks := .later }
def ModsOfCardSaid : Prop := Claim7.holds Tryz.pinned (.plain (OpenSpec.ofChange modsOfSpec)) modsOfCard

/-- THE TIED CARD OF 'gussetlaw06.ModsKnown'. -/
def modsKnownCard : Claim7 := { stood := { row := modsKnownRow, standIns := [], harness := (true, "9c1cb11e1a06be516a27f3c1bff1f90cfed4bc1b30a1aa51c2f7ef318f1da12b"), looks := false }, kinds := [], alts := [], laidByText := true, laidKinds := [.data], laidTests := true, laidLooks := .later }
def ModsKnownCardSaid : Prop := Claim7.holds Tryz.pinned (.plain (OpenSpec.ofChange modsKnownSpec)) modsKnownCard

/-- THE SECOND FORM's CARD OF 'gussetlaw04.DecimalsCycle'. -/
def decimalsCycleUptoCard : Claim7 := { stood := { row := decimalsCycleUptoRow, standIns := [], harness := (true, "9c1cb11e1a06be516a27f3c1bff1f90cfed4bc1b30a1aa51c2f7ef318f1da12b"), looks := false }, kinds := [], alts := [], laidByText := true, laidKinds := [.data, .data, .data], laidTests := true, laidLooks := .later }
def DecimalsCycleUptoCardSaid : Prop := Claim7.holds Tryz.pinned (.plain (OpenSpec.upto decimalsCycleSpec)) decimalsCycleUptoCard

/-- THE SECOND FORM's CARD OF 'gussetlaw04.DecimalsBetween'. -/
def decimalsBetweenUptoCard : Claim7 := { stood := { row := decimalsBetweenUptoRow, standIns := [], harness := (true, "9c1cb11e1a06be516a27f3c1bff1f90cfed4bc1b30a1aa51c2f7ef318f1da12b"), looks := false }, kinds := [], alts := [], laidByText := true, laidKinds := [.data, .data, .data], laidTests := true, laidLooks := .later }
def DecimalsBetweenUptoCardSaid : Prop := Claim7.holds Tryz.pinned (.plain (OpenSpec.upto decimalsBetweenSpec)) decimalsBetweenUptoCard

/-- THE SECOND FORM's CARD OF 'gussetlaw04.DecimalsTurned'. -/
def decimalsTurnedUptoCard : Claim7 := { stood := { row := decimalsTurnedUptoRow, standIns := [], harness := (true, "9c1cb11e1a06be516a27f3c1bff1f90cfed4bc1b30a1aa51c2f7ef318f1da12b"), looks := false }, kinds := [], alts := [], laidByText := true, laidKinds := [.data, .data, .data], laidTests := true, laidLooks := .later }
def DecimalsTurnedUptoCardSaid : Prop := Claim7.holds Tryz.pinned (.plain (OpenSpec.upto decimalsTurnedSpec)) decimalsTurnedUptoCard

/-- THE SECOND FORM's CARD OF 'gussetlaw04.DecimalsRounds'. -/
def decimalsRoundsUptoCard : Claim7 := { stood := { row := decimalsRoundsUptoRow, standIns := [], harness := (true, "9c1cb11e1a06be516a27f3c1bff1f90cfed4bc1b30a1aa51c2f7ef318f1da12b"), looks := false }, kinds := [], alts := [], laidByText := true, laidKinds := [.data, .data, .data], laidTests := true, laidLooks := .later }
def DecimalsRoundsUptoCardSaid : Prop := Claim7.holds Tryz.pinned (.plain (OpenSpec.upto decimalsRoundsSpec)) decimalsRoundsUptoCard

/-- THE SECOND FORM's CARD OF 'gussetlaw05.RootsBoth'. -/
def rootsBothUptoCard : Claim7 := { stood := { row := rootsBothUptoRow, standIns := [], harness := (true, "9c1cb11e1a06be516a27f3c1bff1f90cfed4bc1b30a1aa51c2f7ef318f1da12b"), looks := false }, kinds := [], alts := [], laidByText := true, laidKinds := [.data, .data, .data], laidTests := true, laidLooks := .later }
def RootsBothUptoCardSaid : Prop := Claim7.holds Tryz.pinned (.plain (OpenSpec.upto rootsBothSpec)) rootsBothUptoCard

/-- THE SECOND FORM's CARD OF 'gussetlaw05.RootsBetween'. -/
def rootsBetweenUptoCard : Claim7 := { stood := { row := rootsBetweenUptoRow, standIns := [], harness := (true, "9c1cb11e1a06be516a27f3c1bff1f90cfed4bc1b30a1aa51c2f7ef318f1da12b"), looks := false }, kinds := [], alts := [], laidByText := true, laidKinds := [.data, .data, .data], laidTests := true, laidLooks := .later }
def RootsBetweenUptoCardSaid : Prop := Claim7.holds Tryz.pinned (.plain (OpenSpec.upto rootsBetweenSpec)) rootsBetweenUptoCard

/-- THE SECOND FORM's CARD OF 'gussetlaw05.RootsRefused'. -/
def rootsRefusedUptoCard : Claim7 := { stood := { row := rootsRefusedUptoRow, standIns := [], harness := (true, "9c1cb11e1a06be516a27f3c1bff1f90cfed4bc1b30a1aa51c2f7ef318f1da12b"), looks := false }, kinds := [], alts := [], laidByText := true, laidKinds := [.data, .data, .data], laidTests := true, laidLooks := .later }
def RootsRefusedUptoCardSaid : Prop := Claim7.holds Tryz.pinned (.plain (OpenSpec.upto rootsRefusedSpec)) rootsRefusedUptoCard

/-- THE SECOND FORM's CARD OF 'gussetlaw05.RootsExact'. -/
def rootsExactUptoCard : Claim7 := { stood := { row := rootsExactUptoRow, standIns := [], harness := (true, "9c1cb11e1a06be516a27f3c1bff1f90cfed4bc1b30a1aa51c2f7ef318f1da12b"), looks := false }, kinds := [], alts := [], laidByText := true, laidKinds := [.data, .data, .data], laidTests := true, laidLooks := .later }
def RootsExactUptoCardSaid : Prop := Claim7.holds Tryz.pinned (.plain (OpenSpec.upto rootsExactSpec)) rootsExactUptoCard

/-- THE SECOND FORM's CARD OF 'gussetlaw05.RootsRise'. -/
def rootsRiseUptoCard : Claim7 := { stood := { row := rootsRiseUptoRow, standIns := [], harness := (true, "9c1cb11e1a06be516a27f3c1bff1f90cfed4bc1b30a1aa51c2f7ef318f1da12b"), looks := false }, kinds := [], alts := [], laidByText := true, laidKinds := [.data, .data, .data], laidTests := true, laidLooks := .later }
def RootsRiseUptoCardSaid : Prop := Claim7.holds Tryz.pinned (.plain (OpenSpec.upto rootsRiseSpec)) rootsRiseUptoCard

/-- THE SECOND FORM's CARD OF 'gussetlaw05.RootsOrder'. -/
def rootsOrderUptoCard : Claim7 := { stood := { row := rootsOrderUptoRow, standIns := [], harness := (true, "9c1cb11e1a06be516a27f3c1bff1f90cfed4bc1b30a1aa51c2f7ef318f1da12b"), looks := false }, kinds := [], alts := [], laidByText := true, laidKinds := [.data, .data, .data], laidTests := true, laidLooks := .later }
def RootsOrderUptoCardSaid : Prop := Claim7.holds Tryz.pinned (.plain (OpenSpec.upto rootsOrderSpec)) rootsOrderUptoCard

/-- THE SECOND FORM's CARD OF 'gussetlaw06.ModsOf'. -/
def modsOfUptoCard : Claim7 := { stood := { row := modsOfUptoRow, standIns := [], harness := (true, "9c1cb11e1a06be516a27f3c1bff1f90cfed4bc1b30a1aa51c2f7ef318f1da12b"), looks := false }, kinds := [], alts := [], laidByText := true, laidKinds := [.data], laidTests := true, laidLooks := .later }
def ModsOfUptoCardSaid : Prop := Claim7.holds Tryz.pinned (.plain (OpenSpec.upto modsOfSpec)) modsOfUptoCard

/-- THE SECOND FORM's CARD OF 'gussetlaw06.ModsKnown'. -/
def modsKnownUptoCard : Claim7 := { stood := { row := modsKnownUptoRow, standIns := [], harness := (true, "9c1cb11e1a06be516a27f3c1bff1f90cfed4bc1b30a1aa51c2f7ef318f1da12b"), looks := false }, kinds := [], alts := [], laidByText := true, laidKinds := [.data], laidTests := true, laidLooks := .later }
def ModsKnownUptoCardSaid : Prop := Claim7.holds Tryz.pinned (.plain (OpenSpec.upto modsKnownSpec)) modsKnownUptoCard
end Rows
end Go.Proofs.YtdkjckiialnpnaaGreatDoor
