/-
  DERIVED. GIVEN WITH THE SEED: THE CARDS: each row of YtecdnohhengfaabGreatDoorRows.lean that lists a variable, with what it lists TIED to the program's text (the seventh form; the later family's looks); each row that meets fmt, with fmt's text TOLD by the authors' own Lean function (tested against real Go, not proved from fmt's source: count such statements apart). THE CARD IS WHAT COUNTS. Prove the row's statement (the work); the ties are given (YtecdnohhengfaabGreatDoorTie.lean); close each card by the builder's one call (the guide's Derived/Test/ToyasCard.lean, 'card_holds'). Laid BY PROGRAM, IN A SANDBOX (cutbox-door.mjs). By AI agents, Wed Nov 11 2026. No macro, syntax, notation, axiom, sorry.
-/
import Derived.Test.YtecdnohhengfaabGreatDoorRows
import GoSem.ClaimSeven
namespace Go.Proofs.YtecdnohhengfaabGreatDoor
namespace Rows

/-- THE TIED CARD OF 'gussetlaw03.FracsTexts'. -/
def fracsTextsCard : Claim7 := { stood := { row := fracsTextsRow, standIns := [], harness := (true, "07bbc88cf8cb21bd79dadca1af605231d26bad21a7278b7c293d0d6174ac422b"), looks := false }, kinds := [], alts := [], laidByText := true, laidKinds := [.data, .data, .data], laidTests := true, laidLooks := .later }
def FracsTextsCardSaid : Prop := Claim7.holds Tryz.pinned (.plain (OpenSpec.ofChange fracsTextsSpec)) fracsTextsCard

/-- THE TIED CARD OF 'gussetlaw03.FracsKnown'. -/
def fracsKnownCard : Claim7 := { stood := { row := fracsKnownRow, standIns := [], harness := (true, "07bbc88cf8cb21bd79dadca1af605231d26bad21a7278b7c293d0d6174ac422b"), looks := false }, kinds := [], alts := [], laidByText := true, laidKinds := [.data, .data, .data], laidTests := true, laidLooks := .later }
def FracsKnownCardSaid : Prop := Claim7.holds Tryz.pinned (.plain (OpenSpec.ofChange fracsKnownSpec)) fracsKnownCard

/-- THE SECOND FORM's CARD OF 'gussetlaw03.FracsTexts'. -/
def fracsTextsUptoCard : Claim7 := { stood := { row := fracsTextsUptoRow, standIns := [], harness := (true, "07bbc88cf8cb21bd79dadca1af605231d26bad21a7278b7c293d0d6174ac422b"), looks := false }, kinds := [], alts := [], laidByText := true, laidKinds := [.data, .data, .data], laidTests := true, laidLooks := .later }
def FracsTextsUptoCardSaid : Prop := Claim7.holds Tryz.pinned (.plain (OpenSpec.upto fracsTextsSpec)) fracsTextsUptoCard

/-- THE SECOND FORM's CARD OF 'gussetlaw03.FracsKnown'. -/
def fracsKnownUptoCard : Claim7 := { stood := { row := fracsKnownUptoRow, standIns := [], harness := (true, "07bbc88cf8cb21bd79dadca1af605231d26bad21a7278b7c293d0d6174ac422b"), looks := false }, kinds := [], alts := [], laidByText := true, laidKinds := [.data, .data, .data], laidTests := true, laidLooks := .later }
def FracsKnownUptoCardSaid : Prop := Claim7.holds Tryz.pinned (.plain (OpenSpec.upto fracsKnownSpec)) fracsKnownUptoCard
end Rows
end Go.Proofs.YtecdnohhengfaabGreatDoor
