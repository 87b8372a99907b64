/-
  DERIVED. GIVEN WITH THE SEED: THE CARDS: each row of YtecdnohhengfaaaGreatDoorRows.lean that lists a variable, with what it lists TIED to the program's text (the seventh form; the later family's looks); each row that meets fmt, with fmt's text TOLD by the authors' own Lean function (tested against real Go, not proved from fmt's source: count such statements apart). THE CARD IS WHAT COUNTS. Prove the row's statement (the work); the ties are given (YtecdnohhengfaaaGreatDoorTie.lean); close each card by the builder's one call (the guide's Derived/Test/ToyasCard.lean, 'card_holds'). Laid BY PROGRAM, IN A SANDBOX (cutbox-door.mjs). By AI agents, Wed Nov 11 2026. No macro, syntax, notation, axiom, sorry.
-/
import Derived.Test.YtecdnohhengfaaaGreatDoorRows
import GoSem.ClaimSeven
namespace Go.Proofs.YtecdnohhengfaaaGreatDoor
namespace Rows

/-- THE TIED CARD OF 'gussetlaw01.NatsKnown'. -/
def natsKnownCard : Claim7 := { stood := { row := natsKnownRow, standIns := [], harness := (true, "e5f6e572e1863155cdebda9482bce1c86ae23e0d9433b2367729fbd68a944d0a"), looks := false }, kinds := [], alts := [], laidByText := true, laidKinds := [.data, .data, .data], laidTests := true, laidLooks := .later }
def NatsKnownCardSaid : Prop := Claim7.holds Tryz.pinned (.plain (OpenSpec.ofChange natsKnownSpec)) natsKnownCard

/-- THE TIED CARD OF 'gussetlaw02.IntsSums'. -/
def intsSumsCard : Claim7 := { stood := { row := intsSumsRow, standIns := [], harness := (true, "e5f6e572e1863155cdebda9482bce1c86ae23e0d9433b2367729fbd68a944d0a"), looks := false }, kinds := [], alts := [], laidByText := true, laidKinds := [.data, .data, .data], laidTests := true, laidLooks := .later }
def IntsSumsCardSaid : Prop := Claim7.holds Tryz.pinned (.plain (OpenSpec.ofChange intsSumsSpec)) intsSumsCard

/-- THE TIED CARD OF 'gussetlaw02.IntsDivs'. -/
def intsDivsCard : Claim7 := { stood := { row := intsDivsRow, standIns := [], harness := (true, "e5f6e572e1863155cdebda9482bce1c86ae23e0d9433b2367729fbd68a944d0a"), looks := false }, kinds := [], alts := [], laidByText := true, laidKinds := [.data, .data, .data], laidTests := true, laidLooks := .later }
def IntsDivsCardSaid : Prop := Claim7.holds Tryz.pinned (.plain (OpenSpec.ofChange intsDivsSpec)) intsDivsCard

/-- THE TIED CARD OF 'gussetlaw02.IntsKnown'. -/
def intsKnownCard : Claim7 := { stood := { row := intsKnownRow, standIns := [], harness := (true, "e5f6e572e1863155cdebda9482bce1c86ae23e0d9433b2367729fbd68a944d0a"), looks := false }, kinds := [], alts := [], laidByText := true, laidKinds := [.data, .data, .data], laidTests := true, laidLooks := .later }
def IntsKnownCardSaid : Prop := Claim7.holds Tryz.pinned (.plain (OpenSpec.ofChange intsKnownSpec)) intsKnownCard

/-- THE TIED CARD OF 'gussetlaw03.FracsSums'. -/
def fracsSumsCard : Claim7 := { stood := { row := fracsSumsRow, standIns := [], harness := (true, "e5f6e572e1863155cdebda9482bce1c86ae23e0d9433b2367729fbd68a944d0a"), looks := false }, kinds := [], alts := [], laidByText := true, laidKinds := [.data, .data, .data], laidTests := true, laidLooks := .later }
def FracsSumsCardSaid : Prop := Claim7.holds Tryz.pinned (.plain (OpenSpec.ofChange fracsSumsSpec)) fracsSumsCard

/-- THE TIED CARD OF 'gussetlaw03.FracsReads'. -/
def fracsReadsCard : Claim7 := { stood := { row := fracsReadsRow, standIns := [], harness := (true, "e5f6e572e1863155cdebda9482bce1c86ae23e0d9433b2367729fbd68a944d0a"), looks := false }, kinds := [], alts := [], laidByText := true, laidKinds := [.data, .data, .data], laidTests := true, laidLooks := .later }
def FracsReadsCardSaid : Prop := Claim7.holds Tryz.pinned (.plain (OpenSpec.ofChange fracsReadsSpec)) fracsReadsCard

/-- THE TIED CARD OF 'gussetlaw03.FracsField'. -/
def fracsFieldCard : Claim7 := { stood := { row := fracsFieldRow, standIns := [], harness := (true, "e5f6e572e1863155cdebda9482bce1c86ae23e0d9433b2367729fbd68a944d0a"), looks := false }, kinds := [], alts := [], laidByText := true, laidKinds := [.data, .data, .data], laidTests := true, laidLooks := .later }
def FracsFieldCardSaid : Prop := Claim7.holds Tryz.pinned (.plain (OpenSpec.ofChange fracsFieldSpec)) fracsFieldCard

/-- THE TIED CARD OF 'gussetlaw03.FracsLowest'. -/
def fracsLowestCard : Claim7 := { stood := { row := fracsLowestRow, standIns := [], harness := (true, "e5f6e572e1863155cdebda9482bce1c86ae23e0d9433b2367729fbd68a944d0a"), looks := false }, kinds := [], alts := [], laidByText := true, laidKinds := [.data, .data, .data], laidTests := true, laidLooks := .later }
def FracsLowestCardSaid : Prop := Claim7.holds Tryz.pinned (.plain (OpenSpec.ofChange fracsLowestSpec)) fracsLowestCard

/-- THE TIED CARD OF 'gussetlaw03.FracsSmall'. -/
def fracsSmallCard : Claim7 := { stood := { row := fracsSmallRow, standIns := [], harness := (true, "e5f6e572e1863155cdebda9482bce1c86ae23e0d9433b2367729fbd68a944d0a"), looks := false }, kinds := [], alts := [], laidByText := true, laidKinds := [.data, .data, .data], laidTests := true, laidLooks := .later }
def FracsSmallCardSaid : Prop := Claim7.holds Tryz.pinned (.plain (OpenSpec.ofChange fracsSmallSpec)) fracsSmallCard

/-- THE TIED CARD OF 'gussetlaw03.FracsFloors'. -/
def fracsFloorsCard : Claim7 := { stood := { row := fracsFloorsRow, standIns := [], harness := (true, "e5f6e572e1863155cdebda9482bce1c86ae23e0d9433b2367729fbd68a944d0a"), looks := false }, kinds := [], alts := [], laidByText := true, laidKinds := [.data, .data, .data], laidTests := true, laidLooks := .later }
def FracsFloorsCardSaid : Prop := Claim7.holds Tryz.pinned (.plain (OpenSpec.ofChange fracsFloorsSpec)) fracsFloorsCard

/-- THE TIED CARD OF 'gussetlaw03.FracsPowers'. -/
def fracsPowersCard : Claim7 := { stood := { row := fracsPowersRow, standIns := [], harness := (true, "e5f6e572e1863155cdebda9482bce1c86ae23e0d9433b2367729fbd68a944d0a"), looks := false }, kinds := [], alts := [], laidByText := true, laidKinds := [.data, .data, .data], laidTests := true, laidLooks := .later }
def FracsPowersCardSaid : Prop := Claim7.holds Tryz.pinned (.plain (OpenSpec.ofChange fracsPowersSpec)) fracsPowersCard

/-- THE TIED CARD OF 'gussetlaw03.FracsLists'. -/
def fracsListsCard : Claim7 := { stood := { row := fracsListsRow, standIns := [], harness := (true, "e5f6e572e1863155cdebda9482bce1c86ae23e0d9433b2367729fbd68a944d0a"), looks := false }, kinds := [], alts := [], laidByText := true, laidKinds := [.data, .data, .data], laidTests := true, laidLooks := .later }
def FracsListsCardSaid : Prop := Claim7.holds Tryz.pinned (.plain (OpenSpec.ofChange fracsListsSpec)) fracsListsCard

/-- THE SECOND FORM's CARD OF 'gussetlaw01.NatsKnown'. -/
def natsKnownUptoCard : Claim7 := { stood := { row := natsKnownUptoRow, standIns := [], harness := (true, "e5f6e572e1863155cdebda9482bce1c86ae23e0d9433b2367729fbd68a944d0a"), looks := false }, kinds := [], alts := [], laidByText := true, laidKinds := [.data, .data, .data], laidTests := true, laidLooks := .later }
def NatsKnownUptoCardSaid : Prop := Claim7.holds Tryz.pinned (.plain (OpenSpec.upto natsKnownSpec)) natsKnownUptoCard

/-- THE SECOND FORM's CARD OF 'gussetlaw02.IntsSums'. -/
def intsSumsUptoCard : Claim7 := { stood := { row := intsSumsUptoRow, standIns := [], harness := (true, "e5f6e572e1863155cdebda9482bce1c86ae23e0d9433b2367729fbd68a944d0a"), looks := false }, kinds := [], alts := [], laidByText := true, laidKinds := [.data, .data, .data], laidTests := true, laidLooks := .later }
def IntsSumsUptoCardSaid : Prop := Claim7.holds Tryz.pinned (.plain (OpenSpec.upto intsSumsSpec)) intsSumsUptoCard

/-- THE SECOND FORM's CARD OF 'gussetlaw02.IntsDivs'. -/
def intsDivsUptoCard : Claim7 := { stood := { row := intsDivsUptoRow, standIns := [], harness := (true, "e5f6e572e1863155cdebda9482bce1c86ae23e0d9433b2367729fbd68a944d0a"), looks := false }, kinds := [], alts := [], laidByText := true, laidKinds := [.data, .data, .data], laidTests := true, laidLooks := .later }
def IntsDivsUptoCardSaid : Prop := Claim7.holds Tryz.pinned (.plain (OpenSpec.upto intsDivsSpec)) intsDivsUptoCard

/-- THE SECOND FORM's CARD OF 'gussetlaw02.IntsKnown'. -/
def intsKnownUptoCard : Claim7 := { stood := { row := intsKnownUptoRow, standIns := [], harness := (true, "e5f6e572e1863155cdebda9482bce1c86ae23e0d9433b2367729fbd68a944d0a"), looks := false }, kinds := [], alts := [], laidByText := true, laidKinds := [.data, .data, .data], laidTests := true, laidLooks := .later }
def IntsKnownUptoCardSaid : Prop := Claim7.holds Tryz.pinned (.plain (OpenSpec.upto intsKnownSpec)) intsKnownUptoCard

/-- THE SECOND FORM's CARD OF 'gussetlaw03.FracsSums'. -/
def fracsSumsUptoCard : Claim7 := { stood := { row := fracsSumsUptoRow, standIns := [], harness := (true, "e5f6e572e1863155cdebda9482bce1c86ae23e0d9433b2367729fbd68a944d0a"), looks := false }, kinds := [], alts := [], laidByText := true, laidKinds := [.data, .data, .data], laidTests := true, laidLooks := .later }
def FracsSumsUptoCardSaid : Prop := Claim7.holds Tryz.pinned (.plain (OpenSpec.upto fracsSumsSpec)) fracsSumsUptoCard

/-- THE SECOND FORM's CARD OF 'gussetlaw03.FracsReads'. -/
def fracsReadsUptoCard : Claim7 := { stood := { row := fracsReadsUptoRow, standIns := [], harness := (true, "e5f6e572e1863155cdebda9482bce1c86ae23e0d9433b2367729fbd68a944d0a"), looks := false }, kinds := [], alts := [], laidByText := true, laidKinds := [.data, .data, .data], laidTests := true, laidLooks := .later }
def FracsReadsUptoCardSaid : Prop := Claim7.holds Tryz.pinned (.plain (OpenSpec.upto fracsReadsSpec)) fracsReadsUptoCard

/-- THE SECOND FORM's CARD OF 'gussetlaw03.FracsField'. -/
def fracsFieldUptoCard : Claim7 := { stood := { row := fracsFieldUptoRow, standIns := [], harness := (true, "e5f6e572e1863155cdebda9482bce1c86ae23e0d9433b2367729fbd68a944d0a"), looks := false }, kinds := [], alts := [], laidByText := true, laidKinds := [.data, .data, .data], laidTests := true, laidLooks := .later }
def FracsFieldUptoCardSaid : Prop := Claim7.holds Tryz.pinned (.plain (OpenSpec.upto fracsFieldSpec)) fracsFieldUptoCard

/-- THE SECOND FORM's CARD OF 'gussetlaw03.FracsLowest'. -/
def fracsLowestUptoCard : Claim7 := { stood := { row := fracsLowestUptoRow, standIns := [], harness := (true, "e5f6e572e1863155cdebda9482bce1c86ae23e0d9433b2367729fbd68a944d0a"), looks := false }, kinds := [], alts := [], laidByText := true, laidKinds := [.data, .data, .data], laidTests := true, laidLooks := .later }
def FracsLowestUptoCardSaid : Prop := Claim7.holds Tryz.pinned (.plain (OpenSpec.upto fracsLowestSpec)) fracsLowestUptoCard

/-- THE SECOND FORM's CARD OF 'gussetlaw03.FracsSmall'. -/
def fracsSmallUptoCard : Claim7 := { stood := { row := fracsSmallUptoRow, standIns := [], harness := (true, "e5f6e572e1863155cdebda9482bce1c86ae23e0d9433b2367729fbd68a944d0a"), looks := false }, kinds := [], alts := [], laidByText := true, laidKinds := [.data, .data, .data], laidTests := true, laidLooks := .later }
def FracsSmallUptoCardSaid : Prop := Claim7.holds Tryz.pinned (.plain (OpenSpec.upto fracsSmallSpec)) fracsSmallUptoCard

/-- THE SECOND FORM's CARD OF 'gussetlaw03.FracsFloors'. -/
def fracsFloorsUptoCard : Claim7 := { stood := { row := fracsFloorsUptoRow, standIns := [], harness := (true, "e5f6e572e1863155cdebda9482bce1c86ae23e0d9433b2367729fbd68a944d0a"), looks := false }, kinds := [], alts := [], laidByText := true, laidKinds := [.data, .data, .data], laidTests := true, laidLooks := .later }
def FracsFloorsUptoCardSaid : Prop := Claim7.holds Tryz.pinned (.plain (OpenSpec.upto fracsFloorsSpec)) fracsFloorsUptoCard

/-- THE SECOND FORM's CARD OF 'gussetlaw03.FracsPowers'. -/
def fracsPowersUptoCard : Claim7 := { stood := { row := fracsPowersUptoRow, standIns := [], harness := (true, "e5f6e572e1863155cdebda9482bce1c86ae23e0d9433b2367729fbd68a944d0a"), looks := false }, kinds := [], alts := [], laidByText := true, laidKinds := [.data, .data, .data], laidTests := true, laidLooks := .later }
def FracsPowersUptoCardSaid : Prop := Claim7.holds Tryz.pinned (.plain (OpenSpec.upto fracsPowersSpec)) fracsPowersUptoCard

/-- THE SECOND FORM's CARD OF 'gussetlaw03.FracsLists'. -/
def fracsListsUptoCard : Claim7 := { stood := { row := fracsListsUptoRow, standIns := [], harness := (true, "e5f6e572e1863155cdebda9482bce1c86ae23e0d9433b2367729fbd68a944d0a"), looks := false }, kinds := [], alts := [], laidByText := true, laidKinds := [.data, .data, .data], laidTests := true, laidLooks := .later }
def FracsListsUptoCardSaid : Prop := Claim7.holds Tryz.pinned (.plain (OpenSpec.upto fracsListsSpec)) fracsListsUptoCard
end Rows
end Go.Proofs.YtecdnohhengfaaaGreatDoor
