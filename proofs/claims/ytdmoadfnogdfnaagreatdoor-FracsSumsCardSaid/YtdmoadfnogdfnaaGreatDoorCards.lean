/-
  DERIVED. GIVEN WITH THE SEED: THE CARDS: each row of YtdmoadfnogdfnaaGreatDoorRows.lean that lists a variable, with what it lists TIED to the program's text (the seventh form; the later family's looks); each row that meets fmt, with fmt's text TOLD by the authors' own Lean function (tested against real Go, not proved from fmt's source: count such statements apart). THE CARD IS WHAT COUNTS. Prove the row's statement (the work); the ties are given (YtdmoadfnogdfnaaGreatDoorTie.lean); close each card by the builder's one call (the guide's Derived/Test/ToyasCard.lean, 'card_holds'). Laid BY PROGRAM, IN A SANDBOX (cutbox-door.mjs). By AI agents, Wed Nov 11 2026. No macro, syntax, notation, axiom, sorry.
-/
import Derived.Test.YtdmoadfnogdfnaaGreatDoorRows
import GoSem.ClaimSeven
namespace Go.Proofs.YtdmoadfnogdfnaaGreatDoor
namespace Rows

/-- THE TIED CARD OF 'gussetlaw01.NatsKnown'. -/
def natsKnownCard : Claim7 := { stood := { row := natsKnownRow, standIns := [], harness := (true, "5d13e1d00f11c1e16915584a41eb272919666775ebd30a6d292c82a44f190238"), looks := false }, kinds := [], alts := [], laidByText := true, laidKinds := [.data, .data, .data], laidTests := true, laidLooks := .later }
def NatsKnownCardSaid : Prop := Claim7.holds Tryz.pinned (.plain (OpenSpec.ofChange natsKnownSpec)) natsKnownCard

/-- THE TIED CARD OF 'gussetlaw02.IntsSums'. -/
def intsSumsCard : Claim7 := { stood := { row := intsSumsRow, standIns := [], harness := (true, "5d13e1d00f11c1e16915584a41eb272919666775ebd30a6d292c82a44f190238"), looks := false }, kinds := [], alts := [], laidByText := true, laidKinds := [.data, .data, .data], laidTests := true, laidLooks := .later }
def IntsSumsCardSaid : Prop := Claim7.holds Tryz.pinned (.plain (OpenSpec.ofChange intsSumsSpec)) intsSumsCard

/-- THE TIED CARD OF 'gussetlaw02.IntsDivs'. -/
def intsDivsCard : Claim7 := { stood := { row := intsDivsRow, standIns := [], harness := (true, "5d13e1d00f11c1e16915584a41eb272919666775ebd30a6d292c82a44f190238"), looks := false }, kinds := [], alts := [], laidByText := true, laidKinds := [.data, .data, .data], laidTests := true, laidLooks := .later }
def IntsDivsCardSaid : Prop := Claim7.holds Tryz.pinned (.plain (OpenSpec.ofChange intsDivsSpec)) intsDivsCard

/-- THE TIED CARD OF 'gussetlaw02.IntsKnown'. -/
def intsKnownCard : Claim7 := { stood := { row := intsKnownRow, standIns := [], harness := (true, "5d13e1d00f11c1e16915584a41eb272919666775ebd30a6d292c82a44f190238"), looks := false }, kinds := [], alts := [], laidByText := true, laidKinds := [.data, .data, .data], laidTests := true, laidLooks := .later }
def IntsKnownCardSaid : Prop := Claim7.holds Tryz.pinned (.plain (OpenSpec.ofChange intsKnownSpec)) intsKnownCard

/-- THE TIED CARD OF 'gussetlaw03.FracsSums'. -/
def fracsSumsCard : Claim7 := { stood := { row := fracsSumsRow, standIns := [], harness := (true, "5d13e1d00f11c1e16915584a41eb272919666775ebd30a6d292c82a44f190238"), looks := false }, kinds := [], alts := [], laidByText := true, laidKinds := [.data, .data, .data], laidTests := true, laidLooks := .later }
def FracsSumsCardSaid : Prop := Claim7.holds Tryz.pinned (.plain (OpenSpec.ofChange fracsSumsSpec)) fracsSumsCard

/-- THE TIED CARD OF 'gussetlaw03.FracsReads'. -/
def fracsReadsCard : Claim7 := { stood := { row := fracsReadsRow, standIns := [], harness := (true, "5d13e1d00f11c1e16915584a41eb272919666775ebd30a6d292c82a44f190238"), looks := false }, kinds := [], alts := [], laidByText := true, laidKinds := [.data, .data, .data], laidTests := true, laidLooks := .later }
def FracsReadsCardSaid : Prop := Claim7.holds Tryz.pinned (.plain (OpenSpec.ofChange fracsReadsSpec)) fracsReadsCard

/-- THE TIED CARD OF 'gussetlaw03.FracsFloors'. -/
def fracsFloorsCard : Claim7 := { stood := { row := fracsFloorsRow, standIns := [], harness := (true, "5d13e1d00f11c1e16915584a41eb272919666775ebd30a6d292c82a44f190238"), looks := false }, kinds := [], alts := [], laidByText := true, laidKinds := [.data, .data, .data], laidTests := true, laidLooks := .later }
def FracsFloorsCardSaid : Prop := Claim7.holds Tryz.pinned (.plain (OpenSpec.ofChange fracsFloorsSpec)) fracsFloorsCard

/-- THE TIED CARD OF 'gussetlaw03.FracsLists'. -/
def fracsListsCard : Claim7 := { stood := { row := fracsListsRow, standIns := [], harness := (true, "5d13e1d00f11c1e16915584a41eb272919666775ebd30a6d292c82a44f190238"), looks := false }, kinds := [], alts := [], laidByText := true, laidKinds := [.data, .data, .data], laidTests := true, laidLooks := .later }
def FracsListsCardSaid : Prop := Claim7.holds Tryz.pinned (.plain (OpenSpec.ofChange fracsListsSpec)) fracsListsCard

/-- THE TIED CARD OF 'gussetlaw03.FracsKnown'. -/
def fracsKnownCard : Claim7 := { stood := { row := fracsKnownRow, standIns := [], harness := (true, "5d13e1d00f11c1e16915584a41eb272919666775ebd30a6d292c82a44f190238"), looks := false }, kinds := [], alts := [], laidByText := true, laidKinds := [.data, .data, .data], laidTests := true, laidLooks := .later }
def FracsKnownCardSaid : Prop := Claim7.holds Tryz.pinned (.plain (OpenSpec.ofChange fracsKnownSpec)) fracsKnownCard

/-- THE SECOND FORM's CARD OF 'gussetlaw01.NatsKnown'. -/
def natsKnownUptoCard : Claim7 := { stood := { row := natsKnownUptoRow, standIns := [], harness := (true, "5d13e1d00f11c1e16915584a41eb272919666775ebd30a6d292c82a44f190238"), looks := false }, kinds := [], alts := [], laidByText := true, laidKinds := [.data, .data, .data], laidTests := true, laidLooks := .later }
def NatsKnownUptoCardSaid : Prop := Claim7.holds Tryz.pinned (.plain (OpenSpec.upto natsKnownSpec)) natsKnownUptoCard

/-- THE SECOND FORM's CARD OF 'gussetlaw02.IntsSums'. -/
def intsSumsUptoCard : Claim7 := { stood := { row := intsSumsUptoRow, standIns := [], harness := (true, "5d13e1d00f11c1e16915584a41eb272919666775ebd30a6d292c82a44f190238"), looks := false }, kinds := [], alts := [], laidByText := true, laidKinds := [.data, .data, .data], laidTests := true, laidLooks := .later }
def IntsSumsUptoCardSaid : Prop := Claim7.holds Tryz.pinned (.plain (OpenSpec.upto intsSumsSpec)) intsSumsUptoCard

/-- THE SECOND FORM's CARD OF 'gussetlaw02.IntsDivs'. -/
def intsDivsUptoCard : Claim7 := { stood := { row := intsDivsUptoRow, standIns := [], harness := (true, "5d13e1d00f11c1e16915584a41eb272919666775ebd30a6d292c82a44f190238"), looks := false }, kinds := [], alts := [], laidByText := true, laidKinds := [.data, .data, .data], laidTests := true, laidLooks := .later }
def IntsDivsUptoCardSaid : Prop := Claim7.holds Tryz.pinned (.plain (OpenSpec.upto intsDivsSpec)) intsDivsUptoCard

/-- THE SECOND FORM's CARD OF 'gussetlaw02.IntsKnown'. -/
def intsKnownUptoCard : Claim7 := { stood := { row := intsKnownUptoRow, standIns := [], harness := (true, "5d13e1d00f11c1e16915584a41eb272919666775ebd30a6d292c82a44f190238"), looks := false }, kinds := [], alts := [], laidByText := true, laidKinds := [.data, .data, .data], laidTests := true, laidLooks := .later }
def IntsKnownUptoCardSaid : Prop := Claim7.holds Tryz.pinned (.plain (OpenSpec.upto intsKnownSpec)) intsKnownUptoCard

/-- THE SECOND FORM's CARD OF 'gussetlaw03.FracsSums'. -/
def fracsSumsUptoCard : Claim7 := { stood := { row := fracsSumsUptoRow, standIns := [], harness := (true, "5d13e1d00f11c1e16915584a41eb272919666775ebd30a6d292c82a44f190238"), looks := false }, kinds := [], alts := [], laidByText := true, laidKinds := [.data, .data, .data], laidTests := true, laidLooks := .later }
def FracsSumsUptoCardSaid : Prop := Claim7.holds Tryz.pinned (.plain (OpenSpec.upto fracsSumsSpec)) fracsSumsUptoCard

/-- THE SECOND FORM's CARD OF 'gussetlaw03.FracsReads'. -/
def fracsReadsUptoCard : Claim7 := { stood := { row := fracsReadsUptoRow, standIns := [], harness := (true, "5d13e1d00f11c1e16915584a41eb272919666775ebd30a6d292c82a44f190238"), looks := false }, kinds := [], alts := [], laidByText := true, laidKinds := [.data, .data, .data], laidTests := true, laidLooks := .later }
def FracsReadsUptoCardSaid : Prop := Claim7.holds Tryz.pinned (.plain (OpenSpec.upto fracsReadsSpec)) fracsReadsUptoCard

/-- THE SECOND FORM's CARD OF 'gussetlaw03.FracsFloors'. -/
def fracsFloorsUptoCard : Claim7 := { stood := { row := fracsFloorsUptoRow, standIns := [], harness := (true, "5d13e1d00f11c1e16915584a41eb272919666775ebd30a6d292c82a44f190238"), looks := false }, kinds := [], alts := [], laidByText := true, laidKinds := [.data, .data, .data], laidTests := true, laidLooks := .later }
def FracsFloorsUptoCardSaid : Prop := Claim7.holds Tryz.pinned (.plain (OpenSpec.upto fracsFloorsSpec)) fracsFloorsUptoCard

/-- THE SECOND FORM's CARD OF 'gussetlaw03.FracsLists'. -/
def fracsListsUptoCard : Claim7 := { stood := { row := fracsListsUptoRow, standIns := [], harness := (true, "5d13e1d00f11c1e16915584a41eb272919666775ebd30a6d292c82a44f190238"), looks := false }, kinds := [], alts := [], laidByText := true, laidKinds := [.data, .data, .data], laidTests := true, laidLooks := .later }
def FracsListsUptoCardSaid : Prop := Claim7.holds Tryz.pinned (.plain (OpenSpec.upto fracsListsSpec)) fracsListsUptoCard

/-- THE SECOND FORM's CARD OF 'gussetlaw03.FracsKnown'. -/
def fracsKnownUptoCard : Claim7 := { stood := { row := fracsKnownUptoRow, standIns := [], harness := (true, "5d13e1d00f11c1e16915584a41eb272919666775ebd30a6d292c82a44f190238"), looks := false }, kinds := [], alts := [], laidByText := true, laidKinds := [.data, .data, .data], laidTests := true, laidLooks := .later }
def FracsKnownUptoCardSaid : Prop := Claim7.holds Tryz.pinned (.plain (OpenSpec.upto fracsKnownSpec)) fracsKnownUptoCard
end Rows
end Go.Proofs.YtdmoadfnogdfnaaGreatDoor
