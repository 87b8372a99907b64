/-
  DERIVED. GIVEN WITH THE SEED: THE CARDS: each row of YtkpghlnegbimdaaGreatDoorRows.lean that lists a variable, with what it lists TIED to the program's text (the seventh form; the later family's looks); each row that meets fmt, with fmt's text TOLD by the authors' own Lean function (tested against real Go, not proved from fmt's source: count such statements apart). THE CARD IS WHAT COUNTS. Prove the row's statement (the work); the ties are given (YtkpghlnegbimdaaGreatDoorTie.lean); close each card by the builder's one call (the guide's Derived/Test/ToyasCard.lean, 'card_holds'). Laid BY PROGRAM, IN A SANDBOX (cutbox-door.mjs). By AI agents, Wed Nov 11 2026. No macro, syntax, notation, axiom, sorry.
-/
import Derived.Test.YtkpghlnegbimdaaGreatDoorRows
import GoSem.ClaimSeven
namespace Go.Proofs.YtkpghlnegbimdaaGreatDoor
namespace Rows

/-- THE TIED CARD OF 'gussetlaw08.PolysOf'. -/
def polysOfCard : Claim7 := { stood := { row := polysOfRow, standIns := [], harness := (true, "0d9d314f6c1a18645bbf123e8bd173347c1741af967a59757f8533f1a3fc36e5"), looks := false }, kinds := [], alts := [], laidByText := true, laidKinds := [.data, .data, .data], laidTests := true, laidLooks := .later }
def PolysOfCardSaid : Prop := Claim7.holds Tryz.pinned (.plain (OpenSpec.ofChange polysOfSpec)) polysOfCard

/-- THE TIED CARD OF 'gussetlaw08.PolysRing'. -/
def polysRingCard : Claim7 := { stood := { row := polysRingRow, standIns := [], harness := (true, "0d9d314f6c1a18645bbf123e8bd173347c1741af967a59757f8533f1a3fc36e5"), looks := false }, kinds := [], alts := [], laidByText := true, laidKinds := [.data, .data, .data], laidTests := true, laidLooks := .later }
def PolysRingCardSaid : Prop := Claim7.holds Tryz.pinned (.plain (OpenSpec.ofChange polysRingSpec)) polysRingCard

/-- THE TIED CARD OF 'gussetlaw08.PolysRules'. -/
def polysRulesCard : Claim7 := { stood := { row := polysRulesRow, standIns := [], harness := (true, "0d9d314f6c1a18645bbf123e8bd173347c1741af967a59757f8533f1a3fc36e5"), looks := false }, kinds := [], alts := [], laidByText := true, laidKinds := [.data, .data, .data], laidTests := true, laidLooks := .later }
def PolysRulesCardSaid : Prop := Claim7.holds Tryz.pinned (.plain (OpenSpec.ofChange polysRulesSpec)) polysRulesCard

/-- THE TIED CARD OF 'gussetlaw08.PolysShifts'. -/
def polysShiftsCard : Claim7 := { stood := { row := polysShiftsRow, standIns := [], harness := (true, "0d9d314f6c1a18645bbf123e8bd173347c1741af967a59757f8533f1a3fc36e5"), looks := false }, kinds := [], alts := [], laidByText := true, laidKinds := [.data, .data, .data], laidTests := true, laidLooks := .later }
def PolysShiftsCardSaid : Prop := Claim7.holds Tryz.pinned (.plain (OpenSpec.ofChange polysShiftsSpec)) polysShiftsCard

/-- THE TIED CARD OF 'gussetlaw08.PolysTexts'. -/
def polysTextsCard : Claim7 := { stood := { row := polysTextsRow, standIns := [], harness := (true, "0d9d314f6c1a18645bbf123e8bd173347c1741af967a59757f8533f1a3fc36e5"), looks := false }, kinds := [], alts := [], laidByText := true, laidKinds := [.data, .data, .data], laidTests := true, laidLooks := .later }
def PolysTextsCardSaid : Prop := Claim7.holds Tryz.pinned (.plain (OpenSpec.ofChange polysTextsSpec)) polysTextsCard

/-- THE SECOND FORM's CARD OF 'gussetlaw08.PolysOf'. -/
def polysOfUptoCard : Claim7 := { stood := { row := polysOfUptoRow, standIns := [], harness := (true, "0d9d314f6c1a18645bbf123e8bd173347c1741af967a59757f8533f1a3fc36e5"), looks := false }, kinds := [], alts := [], laidByText := true, laidKinds := [.data, .data, .data], laidTests := true, laidLooks := .later }
def PolysOfUptoCardSaid : Prop := Claim7.holds Tryz.pinned (.plain (OpenSpec.upto polysOfSpec)) polysOfUptoCard

/-- THE SECOND FORM's CARD OF 'gussetlaw08.PolysRing'. -/
def polysRingUptoCard : Claim7 := { stood := { row := polysRingUptoRow, standIns := [], harness := (true, "0d9d314f6c1a18645bbf123e8bd173347c1741af967a59757f8533f1a3fc36e5"), looks := false }, kinds := [], alts := [], laidByText := true, laidKinds := [.data, .data, .data], laidTests := true, laidLooks := .later }
def PolysRingUptoCardSaid : Prop := Claim7.holds Tryz.pinned (.plain (OpenSpec.upto polysRingSpec)) polysRingUptoCard

/-- THE SECOND FORM's CARD OF 'gussetlaw08.PolysRules'. -/
def polysRulesUptoCard : Claim7 := { stood := { row := polysRulesUptoRow, standIns := [], harness := (true, "0d9d314f6c1a18645bbf123e8bd173347c1741af967a59757f8533f1a3fc36e5"), looks := false }, kinds := [], alts := [], laidByText := true, laidKinds := [.data, .data, .data], laidTests := true, laidLooks := .later }
def PolysRulesUptoCardSaid : Prop := Claim7.holds Tryz.pinned (.plain (OpenSpec.upto polysRulesSpec)) polysRulesUptoCard

/-- THE SECOND FORM's CARD OF 'gussetlaw08.PolysShifts'. -/
def polysShiftsUptoCard : Claim7 := { stood := { row := polysShiftsUptoRow, standIns := [], harness := (true, "0d9d314f6c1a18645bbf123e8bd173347c1741af967a59757f8533f1a3fc36e5"), looks := false }, kinds := [], alts := [], laidByText := true, laidKinds := [.data, .data, .data], laidTests := true, laidLooks := .later }
def PolysShiftsUptoCardSaid : Prop := Claim7.holds Tryz.pinned (.plain (OpenSpec.upto polysShiftsSpec)) polysShiftsUptoCard

/-- THE SECOND FORM's CARD OF 'gussetlaw08.PolysTexts'. -/
def polysTextsUptoCard : Claim7 := { stood := { row := polysTextsUptoRow, standIns := [], harness := (true, "0d9d314f6c1a18645bbf123e8bd173347c1741af967a59757f8533f1a3fc36e5"), looks := false }, kinds := [], alts := [], laidByText := true, laidKinds := [.data, .data, .data], laidTests := true, laidLooks := .later }
def PolysTextsUptoCardSaid : Prop := Claim7.holds Tryz.pinned (.plain (OpenSpec.upto polysTextsSpec)) polysTextsUptoCard
end Rows
end Go.Proofs.YtkpghlnegbimdaaGreatDoor
