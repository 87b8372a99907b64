/-
  DERIVED. GIVEN WITH THE SEED: THE CARDS: each row of YtahfcciihkkegaaGreatDoorRows.lean that lists a variable, with what it lists TIED to the program's text (the seventh form; the later family's looks); each row that meets fmt, with fmt's text TOLD by the authors' own Lean function (tested against real Go, not proved from fmt's source: count such statements apart). THE CARD IS WHAT COUNTS. Prove the row's statement (the work); the ties are given (YtahfcciihkkegaaGreatDoorTie.lean); close each card by the builder's one call (the guide's Derived/Test/ToyasCard.lean, 'card_holds'). Laid BY PROGRAM, IN A SANDBOX (cutbox-door.mjs). By AI agents, Wed Nov 11 2026. No macro, syntax, notation, axiom, sorry.
-/
import Derived.Test.YtahfcciihkkegaaGreatDoorRows
import GoSem.ClaimSeven
namespace Go.Proofs.YtahfcciihkkegaaGreatDoor
namespace Rows

/-- THE TIED CARD OF 'gussetlaw04.DecimalsTexts'. -/
def decimalsTextsCard : Claim7 := { stood := { row := decimalsTextsRow, standIns := [], harness := (true, "773f6d0f968621e28e2871ff3a2ab4a70a0d5555042500a31a664e3d70df6e34"), looks := false }, kinds := [], alts := [], laidByText := true, laidKinds := [.data, .data, .data], laidTests := true, laidLooks := .later }
def DecimalsTextsCardSaid : Prop := Claim7.holds Tryz.pinned (.plain (OpenSpec.ofChange decimalsTextsSpec)) decimalsTextsCard

/-- THE TIED CARD OF 'gussetlaw04.DecimalsReads'. -/
def decimalsReadsCard : Claim7 := { stood := { row := decimalsReadsRow, standIns := [], harness := (true, "773f6d0f968621e28e2871ff3a2ab4a70a0d5555042500a31a664e3d70df6e34"), looks := false }, kinds := [], alts := [], laidByText := true, laidKinds := [.data, .data, .data], laidTests := true, laidLooks := .later }
def DecimalsReadsCardSaid : Prop := Claim7.holds Tryz.pinned (.plain (OpenSpec.ofChange decimalsReadsSpec)) decimalsReadsCard

/-- THE TIED CARD OF 'gussetlaw04.DecimalsCycle'. -/
def decimalsCycleCard : Claim7 := { stood := { row := decimalsCycleRow, standIns := [], harness := (true, "773f6d0f968621e28e2871ff3a2ab4a70a0d5555042500a31a664e3d70df6e34"), looks := false }, kinds := [], alts := [], laidByText := true, laidKinds := [.data, .data, .data], laidTests := true, laidLooks := .later }
def DecimalsCycleCardSaid : Prop := Claim7.holds Tryz.pinned (.plain (OpenSpec.ofChange decimalsCycleSpec)) decimalsCycleCard

/-- THE TIED CARD OF 'gussetlaw04.DecimalsBetween'. -/
def decimalsBetweenCard : Claim7 := { stood := { row := decimalsBetweenRow, standIns := [], harness := (true, "773f6d0f968621e28e2871ff3a2ab4a70a0d5555042500a31a664e3d70df6e34"), looks := false }, kinds := [], alts := [], laidByText := true, laidKinds := [.data, .data, .data], laidTests := true, laidLooks := .later }
def DecimalsBetweenCardSaid : Prop := Claim7.holds Tryz.pinned (.plain (OpenSpec.ofChange decimalsBetweenSpec)) decimalsBetweenCard

/-- THE TIED CARD OF 'gussetlaw04.DecimalsBack'. -/
def decimalsBackCard : Claim7 := { stood := { row := decimalsBackRow, standIns := [], harness := (true, "773f6d0f968621e28e2871ff3a2ab4a70a0d5555042500a31a664e3d70df6e34"), looks := false }, kinds := [], alts := [], laidByText := true, laidKinds := [.data, .data, .data], laidTests := true, laidLooks := .later }
def DecimalsBackCardSaid : Prop := Claim7.holds Tryz.pinned (.plain (OpenSpec.ofChange decimalsBackSpec)) decimalsBackCard

/-- THE TIED CARD OF 'gussetlaw04.DecimalsTurned'. -/
def decimalsTurnedCard : Claim7 := { stood := { row := decimalsTurnedRow, standIns := [], harness := (true, "773f6d0f968621e28e2871ff3a2ab4a70a0d5555042500a31a664e3d70df6e34"), looks := false }, kinds := [], alts := [], laidByText := true, laidKinds := [.data, .data, .data], laidTests := true, laidLooks := .later }
def DecimalsTurnedCardSaid : Prop := Claim7.holds Tryz.pinned (.plain (OpenSpec.ofChange decimalsTurnedSpec)) decimalsTurnedCard

/-- THE TIED CARD OF 'gussetlaw04.DecimalsRounds'. -/
def decimalsRoundsCard : Claim7 := { stood := { row := decimalsRoundsRow, standIns := [], harness := (true, "773f6d0f968621e28e2871ff3a2ab4a70a0d5555042500a31a664e3d70df6e34"), looks := false }, kinds := [], alts := [], laidByText := true, laidKinds := [.data, .data, .data], laidTests := true, laidLooks := .later }
def DecimalsRoundsCardSaid : Prop := Claim7.holds Tryz.pinned (.plain (OpenSpec.ofChange decimalsRoundsSpec)) decimalsRoundsCard

/-- THE TIED CARD OF 'gussetlaw04.DecimalsKnown'. -/
def decimalsKnownCard : Claim7 := { stood := { row := decimalsKnownRow, standIns := [], harness := (true, "773f6d0f968621e28e2871ff3a2ab4a70a0d5555042500a31a664e3d70df6e34"), looks := false }, kinds := [], alts := [], laidByText := true, laidKinds := [.data, .data, .data], laidTests := true, laidLooks := .later }
def DecimalsKnownCardSaid : Prop := Claim7.holds Tryz.pinned (.plain (OpenSpec.ofChange decimalsKnownSpec)) decimalsKnownCard

/-- THE SECOND FORM's CARD OF 'gussetlaw04.DecimalsTexts'. -/
def decimalsTextsUptoCard : Claim7 := { stood := { row := decimalsTextsUptoRow, standIns := [], harness := (true, "773f6d0f968621e28e2871ff3a2ab4a70a0d5555042500a31a664e3d70df6e34"), looks := false }, kinds := [], alts := [], laidByText := true, laidKinds := [.data, .data, .data], laidTests := true, laidLooks := .later }
def DecimalsTextsUptoCardSaid : Prop := Claim7.holds Tryz.pinned (.plain (OpenSpec.upto decimalsTextsSpec)) decimalsTextsUptoCard

/-- THE SECOND FORM's CARD OF 'gussetlaw04.DecimalsReads'. -/
def decimalsReadsUptoCard : Claim7 := { stood := { row := decimalsReadsUptoRow, standIns := [], harness := (true, "773f6d0f968621e28e2871ff3a2ab4a70a0d5555042500a31a664e3d70df6e34"), looks := false }, kinds := [], alts := [], laidByText := true, laidKinds := [.data, .data, .data], laidTests := true, laidLooks := .later }
def DecimalsReadsUptoCardSaid : Prop := Claim7.holds Tryz.pinned (.plain (OpenSpec.upto decimalsReadsSpec)) decimalsReadsUptoCard

/-- THE SECOND FORM's CARD OF 'gussetlaw04.DecimalsCycle'. -/
def decimalsCycleUptoCard : Claim7 := { stood := { row := decimalsCycleUptoRow, standIns := [], harness := (true, "773f6d0f968621e28e2871ff3a2ab4a70a0d5555042500a31a664e3d70df6e34"), looks := false }, kinds := [], alts := [], laidByText := true, laidKinds := [.data, .data, .data], laidTests := true, laidLooks := .later }
def DecimalsCycleUptoCardSaid : Prop := Claim7.holds Tryz.pinned (.plain (OpenSpec.upto decimalsCycleSpec)) decimalsCycleUptoCard

/-- THE SECOND FORM's CARD OF 'gussetlaw04.DecimalsBetween'. -/
def decimalsBetweenUptoCard : Claim7 := { stood := { row := decimalsBetweenUptoRow, standIns := [], harness := (true, "773f6d0f968621e28e2871ff3a2ab4a70a0d5555042500a31a664e3d70df6e34"), looks := false }, kinds := [], alts := [], laidByText := true, laidKinds := [.data, .data, .data], laidTests := true, laidLooks := .later }
def DecimalsBetweenUptoCardSaid : Prop := Claim7.holds Tryz.pinned (.plain (OpenSpec.upto decimalsBetweenSpec)) decimalsBetweenUptoCard

/-- THE SECOND FORM's CARD OF 'gussetlaw04.DecimalsBack'. -/
def decimalsBackUptoCard : Claim7 := { stood := { row := decimalsBackUptoRow, standIns := [], harness := (true, "773f6d0f968621e28e2871ff3a2ab4a70a0d5555042500a31a664e3d70df6e34"), looks := false }, kinds := [], alts := [], laidByText := true, laidKinds := [.data, .data, .data], laidTests := true, laidLooks := .later }
def DecimalsBackUptoCardSaid : Prop := Claim7.holds Tryz.pinned (.plain (OpenSpec.upto decimalsBackSpec)) decimalsBackUptoCard

/-- THE SECOND FORM's CARD OF 'gussetlaw04.DecimalsTurned'. -/
def decimalsTurnedUptoCard : Claim7 := { stood := { row := decimalsTurnedUptoRow, standIns := [], harness := (true, "773f6d0f968621e28e2871ff3a2ab4a70a0d5555042500a31a664e3d70df6e34"), looks := false }, kinds := [], alts := [], laidByText := true, laidKinds := [.data, .data, .data], laidTests := true, laidLooks := .later }
def DecimalsTurnedUptoCardSaid : Prop := Claim7.holds Tryz.pinned (.plain (OpenSpec.upto decimalsTurnedSpec)) decimalsTurnedUptoCard

/-- THE SECOND FORM's CARD OF 'gussetlaw04.DecimalsRounds'. -/
def decimalsRoundsUptoCard : Claim7 := { stood := { row := decimalsRoundsUptoRow, standIns := [], harness := (true, "773f6d0f968621e28e2871ff3a2ab4a70a0d5555042500a31a664e3d70df6e34"), looks := false }, kinds := [], alts := [], laidByText := true, laidKinds := [.data, .data, .data], laidTests := true, laidLooks := .later }
def DecimalsRoundsUptoCardSaid : Prop := Claim7.holds Tryz.pinned (.plain (OpenSpec.upto decimalsRoundsSpec)) decimalsRoundsUptoCard

/-- THE SECOND FORM's CARD OF 'gussetlaw04.DecimalsKnown'. -/
def decimalsKnownUptoCard : Claim7 := { stood := { row := decimalsKnownUptoRow, standIns := [], harness := (true, "773f6d0f968621e28e2871ff3a2ab4a70a0d5555042500a31a664e3d70df6e34"), looks := false }, kinds := [], alts := [], laidByText := true, laidKinds := [.data, .data, .data], laidTests := true, laidLooks := .later }
def DecimalsKnownUptoCardSaid : Prop := Claim7.holds Tryz.pinned (.plain (OpenSpec.upto decimalsKnownSpec)) decimalsKnownUptoCard
end Rows
end Go.Proofs.YtahfcciihkkegaaGreatDoor
