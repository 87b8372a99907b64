/-
  DERIVED. GIVEN WITH THE SEED: THE CARDS: each row of YthehcjfmokabfaaGreatDoorRows.lean that lists a variable, with what it lists TIED to the program's text (the seventh form; the later family's looks); each row that meets fmt, with fmt's text TOLD by the authors' own Lean function (tested against real Go, not proved from fmt's source: count such statements apart). THE CARD IS WHAT COUNTS. Prove the row's statement (the work); the ties are given (YthehcjfmokabfaaGreatDoorTie.lean); close each card by the builder's one call (the guide's Derived/Test/ToyasCard.lean, 'card_holds'). Laid BY PROGRAM, IN A SANDBOX (cutbox-door.mjs). By AI agents, Wed Nov 11 2026. No macro, syntax, notation, axiom, sorry.
-/
import Derived.Test.YthehcjfmokabfaaGreatDoorRows
import GoSem.ClaimSeven
namespace Go.Proofs.YthehcjfmokabfaaGreatDoor
namespace Rows

/-- THE TIED CARD OF 'gussetlaw01.NatsKnown'. -/
def natsKnownCard : Claim7 := { stood := { row := natsKnownRow, standIns := [], harness := (true, "e7c1c2362e823e66f01dad26b7e3d7bb21aabb8d96a2eb17ef0f00dddb7390b0"), looks := false }, kinds := [], alts := [], laidByText := true, laidKinds := [.data, .data, .data], laidTests := true, laidLooks := .later }
def NatsKnownCardSaid : Prop := Claim7.holds Tryz.pinned (.plain (OpenSpec.ofChange natsKnownSpec)) natsKnownCard

/-- THE TIED CARD OF 'gussetlaw02.IntsSums'. -/
def intsSumsCard : Claim7 := { stood := { row := intsSumsRow, standIns := [], harness := (true, "e7c1c2362e823e66f01dad26b7e3d7bb21aabb8d96a2eb17ef0f00dddb7390b0"), looks := false }, kinds := [], alts := [], laidByText := true, laidKinds := [.data, .data, .data], laidTests := true, laidLooks := .later }
def IntsSumsCardSaid : Prop := Claim7.holds Tryz.pinned (.plain (OpenSpec.ofChange intsSumsSpec)) intsSumsCard

/-- THE TIED CARD OF 'gussetlaw02.IntsDivs'. -/
def intsDivsCard : Claim7 := { stood := { row := intsDivsRow, standIns := [], harness := (true, "e7c1c2362e823e66f01dad26b7e3d7bb21aabb8d96a2eb17ef0f00dddb7390b0"), looks := false }, kinds := [], alts := [], laidByText := true, laidKinds := [.data, .data, .data], laidTests := true, laidLooks := .later }
def IntsDivsCardSaid : Prop := Claim7.holds Tryz.pinned (.plain (OpenSpec.ofChange intsDivsSpec)) intsDivsCard

/-- THE TIED CARD OF 'gussetlaw02.IntsKnown'. -/
def intsKnownCard : Claim7 := { stood := { row := intsKnownRow, standIns := [], harness := (true, "e7c1c2362e823e66f01dad26b7e3d7bb21aabb8d96a2eb17ef0f00dddb7390b0"), looks := false }, kinds := [], alts := [], laidByText := true, laidKinds := [.data, .data, .data], laidTests := true, laidLooks := .later }
def IntsKnownCardSaid : Prop := Claim7.holds Tryz.pinned (.plain (OpenSpec.ofChange intsKnownSpec)) intsKnownCard

/-- THE SECOND FORM's CARD OF 'gussetlaw01.NatsKnown'. -/
def natsKnownUptoCard : Claim7 := { stood := { row := natsKnownUptoRow, standIns := [], harness := (true, "e7c1c2362e823e66f01dad26b7e3d7bb21aabb8d96a2eb17ef0f00dddb7390b0"), looks := false }, kinds := [], alts := [], laidByText := true, laidKinds := [.data, .data, .data], laidTests := true, laidLooks := .later }
def NatsKnownUptoCardSaid : Prop := Claim7.holds Tryz.pinned (.plain (OpenSpec.upto natsKnownSpec)) natsKnownUptoCard

/-- THE SECOND FORM's CARD OF 'gussetlaw02.IntsSums'. -/
def intsSumsUptoCard : Claim7 := { stood := { row := intsSumsUptoRow, standIns := [], harness := (true, "e7c1c2362e823e66f01dad26b7e3d7bb21aabb8d96a2eb17ef0f00dddb7390b0"), looks := false }, kinds := [], alts := [], laidByText := true, laidKinds := [.data, .data, .data], laidTests := true, laidLooks := .later }
def IntsSumsUptoCardSaid : Prop := Claim7.holds Tryz.pinned (.plain (OpenSpec.upto intsSumsSpec)) intsSumsUptoCard

/-- THE SECOND FORM's CARD OF 'gussetlaw02.IntsDivs'. -/
def intsDivsUptoCard : Claim7 := { stood := { row := intsDivsUptoRow, standIns := [], harness := (true, "e7c1c2362e823e66f01dad26b7e3d7bb21aabb8d96a2eb17ef0f00dddb7390b0"), looks := false }, kinds := [], alts := [], laidByText := true, laidKinds := [.data, .data, .data], laidTests := true, laidLooks := .later }
def IntsDivsUptoCardSaid : Prop := Claim7.holds Tryz.pinned (.plain (OpenSpec.upto intsDivsSpec)) intsDivsUptoCard

/-- THE SECOND FORM's CARD OF 'gussetlaw02.IntsKnown'. -/
def intsKnownUptoCard : Claim7 := { stood := { row := intsKnownUptoRow, standIns := [], harness := (true, "e7c1c2362e823e66f01dad26b7e3d7bb21aabb8d96a2eb17ef0f00dddb7390b0"), looks := false }, kinds := [], alts := [], laidByText := true, laidKinds := [.data, .data, .data], laidTests := true, laidLooks := .later }
def IntsKnownUptoCardSaid : Prop := Claim7.holds Tryz.pinned (.plain (OpenSpec.upto intsKnownSpec)) intsKnownUptoCard
end Rows
end Go.Proofs.YthehcjfmokabfaaGreatDoor
