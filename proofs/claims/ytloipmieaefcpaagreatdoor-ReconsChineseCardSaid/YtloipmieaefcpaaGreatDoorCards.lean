/-
  DERIVED. GIVEN WITH THE SEED: THE CARDS: each row of YtloipmieaefcpaaGreatDoorRows.lean that lists a variable, with what it lists TIED to the program's text (the seventh form; the later family's looks); each row that meets fmt, with fmt's text TOLD by the authors' own Lean function (tested against real Go, not proved from fmt's source: count such statements apart). THE CARD IS WHAT COUNTS. Prove the row's statement (the work); the ties are given (YtloipmieaefcpaaGreatDoorTie.lean); close each card by the builder's one call (the guide's Derived/Test/ToyasCard.lean, 'card_holds'). Laid BY PROGRAM, IN A SANDBOX (cutbox-door.mjs). By AI agents, Wed Nov 11 2026. No macro, syntax, notation, axiom, sorry.
-/
import Derived.Test.YtloipmieaefcpaaGreatDoorRows
import GoSem.ClaimSeven
namespace Go.Proofs.YtloipmieaefcpaaGreatDoor
namespace Rows

/-- THE TIED CARD OF 'gussetlaw07.ReconsBack'. -/
def reconsBackCard : Claim7 := { stood := { row := reconsBackRow, standIns := [], harness := (true, "29ead4e50dc8fa63fbcad94ad9d0aec6d2e20065410cd13fb15ac9604485d624"), looks := false }, kinds := [], alts := [], laidByText := true, laidKinds := [.data, .data, .data], laidTests := true, laidLooks := .later }
def ReconsBackCardSaid : Prop := Claim7.holds Tryz.pinned (.plain (OpenSpec.ofChange reconsBackSpec)) reconsBackCard

/-- THE TIED CARD OF 'gussetlaw07.ReconsFits'. -/
def reconsFitsCard : Claim7 := { stood := { row := reconsFitsRow, standIns := [], harness := (true, "29ead4e50dc8fa63fbcad94ad9d0aec6d2e20065410cd13fb15ac9604485d624"), looks := false }, kinds := [], alts := [], laidByText := true, laidKinds := [.data, .data, .data], laidTests := true, laidLooks := .later }
def ReconsFitsCardSaid : Prop := Claim7.holds Tryz.pinned (.plain (OpenSpec.ofChange reconsFitsSpec)) reconsFitsCard

/-- THE TIED CARD OF 'gussetlaw07.ReconsChinese'. -/
def reconsChineseCard : Claim7 := { stood := { row := reconsChineseRow, standIns := [], harness := (true, "29ead4e50dc8fa63fbcad94ad9d0aec6d2e20065410cd13fb15ac9604485d624"), looks := false }, kinds := [], alts := [], laidByText := true, laidKinds := [.data, .data, .data], laidTests := true, laidLooks := .later }
def ReconsChineseCardSaid : Prop := Claim7.holds Tryz.pinned (.plain (OpenSpec.ofChange reconsChineseSpec)) reconsChineseCard

/-- THE TIED CARD OF 'gussetlaw07.ReconsThere'. -/
def reconsThereCard : Claim7 := { stood := { row := reconsThereRow, standIns := [], harness := (true, "29ead4e50dc8fa63fbcad94ad9d0aec6d2e20065410cd13fb15ac9604485d624"), looks := false }, kinds := [], alts := [], laidByText := true, laidKinds := [.data, .data, .data], laidTests := true, laidLooks := .later }
def ReconsThereCardSaid : Prop := Claim7.holds Tryz.pinned (.plain (OpenSpec.ofChange reconsThereSpec)) reconsThereCard

/-- THE TIED CARD OF 'gussetlaw07.ReconsOne'. -/
def reconsOneCard : Claim7 := { stood := { row := reconsOneRow, standIns := [], harness := (true, "29ead4e50dc8fa63fbcad94ad9d0aec6d2e20065410cd13fb15ac9604485d624"), looks := false }, kinds := [], alts := [], laidByText := true, laidKinds := [.data, .data, .data], laidTests := true, laidLooks := .later }
def ReconsOneCardSaid : Prop := Claim7.holds Tryz.pinned (.plain (OpenSpec.ofChange reconsOneSpec)) reconsOneCard

/-- THE TIED CARD OF 'gussetlaw07.ReconsJoins'. -/
def reconsJoinsCard : Claim7 := { stood := { row := reconsJoinsRow, standIns := [], harness := (true, "29ead4e50dc8fa63fbcad94ad9d0aec6d2e20065410cd13fb15ac9604485d624"), looks := false }, kinds := [], alts := [], laidByText := true, laidKinds := [.data, .data, .data], laidTests := true, laidLooks := .later }
def ReconsJoinsCardSaid : Prop := Claim7.holds Tryz.pinned (.plain (OpenSpec.ofChange reconsJoinsSpec)) reconsJoinsCard

/-- THE TIED CARD OF 'gussetlaw07.ReconsPrimes'. -/
def reconsPrimesCard : Claim7 := { stood := { row := reconsPrimesRow, standIns := [], harness := (true, "29ead4e50dc8fa63fbcad94ad9d0aec6d2e20065410cd13fb15ac9604485d624"), looks := false }, kinds := [], alts := [], laidByText := true, laidKinds := [.data, .data, .data], laidTests := true, laidLooks := .later }
def ReconsPrimesCardSaid : Prop := Claim7.holds Tryz.pinned (.plain (OpenSpec.ofChange reconsPrimesSpec)) reconsPrimesCard

/-- THE SECOND FORM's CARD OF 'gussetlaw07.ReconsBack'. -/
def reconsBackUptoCard : Claim7 := { stood := { row := reconsBackUptoRow, standIns := [], harness := (true, "29ead4e50dc8fa63fbcad94ad9d0aec6d2e20065410cd13fb15ac9604485d624"), looks := false }, kinds := [], alts := [], laidByText := true, laidKinds := [.data, .data, .data], laidTests := true, laidLooks := .later }
def ReconsBackUptoCardSaid : Prop := Claim7.holds Tryz.pinned (.plain (OpenSpec.upto reconsBackSpec)) reconsBackUptoCard

/-- THE SECOND FORM's CARD OF 'gussetlaw07.ReconsFits'. -/
def reconsFitsUptoCard : Claim7 := { stood := { row := reconsFitsUptoRow, standIns := [], harness := (true, "29ead4e50dc8fa63fbcad94ad9d0aec6d2e20065410cd13fb15ac9604485d624"), looks := false }, kinds := [], alts := [], laidByText := true, laidKinds := [.data, .data, .data], laidTests := true, laidLooks := .later }
def ReconsFitsUptoCardSaid : Prop := Claim7.holds Tryz.pinned (.plain (OpenSpec.upto reconsFitsSpec)) reconsFitsUptoCard

/-- THE SECOND FORM's CARD OF 'gussetlaw07.ReconsChinese'. -/
def reconsChineseUptoCard : Claim7 := { stood := { row := reconsChineseUptoRow, standIns := [], harness := (true, "29ead4e50dc8fa63fbcad94ad9d0aec6d2e20065410cd13fb15ac9604485d624"), looks := false }, kinds := [], alts := [], laidByText := true, laidKinds := [.data, .data, .data], laidTests := true, laidLooks := .later }
def ReconsChineseUptoCardSaid : Prop := Claim7.holds Tryz.pinned (.plain (OpenSpec.upto reconsChineseSpec)) reconsChineseUptoCard

/-- THE SECOND FORM's CARD OF 'gussetlaw07.ReconsThere'. -/
def reconsThereUptoCard : Claim7 := { stood := { row := reconsThereUptoRow, standIns := [], harness := (true, "29ead4e50dc8fa63fbcad94ad9d0aec6d2e20065410cd13fb15ac9604485d624"), looks := false }, kinds := [], alts := [], laidByText := true, laidKinds := [.data, .data, .data], laidTests := true, laidLooks := .later }
def ReconsThereUptoCardSaid : Prop := Claim7.holds Tryz.pinned (.plain (OpenSpec.upto reconsThereSpec)) reconsThereUptoCard

/-- THE SECOND FORM's CARD OF 'gussetlaw07.ReconsOne'. -/
def reconsOneUptoCard : Claim7 := { stood := { row := reconsOneUptoRow, standIns := [], harness := (true, "29ead4e50dc8fa63fbcad94ad9d0aec6d2e20065410cd13fb15ac9604485d624"), looks := false }, kinds := [], alts := [], laidByText := true, laidKinds := [.data, .data, .data], laidTests := true, laidLooks := .later }
def ReconsOneUptoCardSaid : Prop := Claim7.holds Tryz.pinned (.plain (OpenSpec.upto reconsOneSpec)) reconsOneUptoCard

/-- THE SECOND FORM's CARD OF 'gussetlaw07.ReconsJoins'. -/
def reconsJoinsUptoCard : Claim7 := { stood := { row := reconsJoinsUptoRow, standIns := [], harness := (true, "29ead4e50dc8fa63fbcad94ad9d0aec6d2e20065410cd13fb15ac9604485d624"), looks := false }, kinds := [], alts := [], laidByText := true, laidKinds := [.data, .data, .data], laidTests := true, laidLooks := .later }
def ReconsJoinsUptoCardSaid : Prop := Claim7.holds Tryz.pinned (.plain (OpenSpec.upto reconsJoinsSpec)) reconsJoinsUptoCard

/-- THE SECOND FORM's CARD OF 'gussetlaw07.ReconsPrimes'. -/
def reconsPrimesUptoCard : Claim7 := { stood := { row := reconsPrimesUptoRow, standIns := [], harness := (true, "29ead4e50dc8fa63fbcad94ad9d0aec6d2e20065410cd13fb15ac9604485d624"), looks := false }, kinds := [], alts := [], laidByText := true, laidKinds := [.data, .data, .data], laidTests := true, laidLooks := .later }
def ReconsPrimesUptoCardSaid : Prop := Claim7.holds Tryz.pinned (.plain (OpenSpec.upto reconsPrimesSpec)) reconsPrimesUptoCard
end Rows
end Go.Proofs.YtloipmieaefcpaaGreatDoor
