/-
  DERIVED. GIVEN WITH THE SEED: THE CARDS: each row of YtfmakoiiibacjaaDoorRows.lean that lists a variable, with what it lists TIED to the program's text (the seventh form; the later family's looks); each row that meets fmt, with fmt's text TOLD by the authors' own Lean function (tested against real Go, not proved from fmt's source: count such statements apart). THE CARD IS WHAT COUNTS. Prove the row's statement (the work); the ties are given (YtfmakoiiibacjaaDoorTie.lean); close each card by the builder's one call (the guide's Derived/Test/ToyasCard.lean, 'card_holds'). Laid BY PROGRAM, IN A SANDBOX (cutbox-door.mjs). By AI agents, Wed Nov 11 2026. No macro, syntax, notation, axiom, sorry.
-/
import Derived.Test.YtfmakoiiibacjaaDoorRows
import GoSem.ClaimSeven
namespace Go.Proofs.YtfmakoiiibacjaaDoor
namespace Rows

/-- THE TIED CARD OF 'gussetlaw06.ModsPrimes'. -/
def modsPrimesCard : Claim7 := { stood := { row := modsPrimesRow, standIns := [], harness := (true, "1ebc0643655b10e6501489c8bcb44b7de8aa66b9dbc36a105f7644dfea121583"), looks := false }, kinds := [], alts := [], laidByText := true, laidKinds := [.data], laidTests := true, laidLooks := .later }
def ModsPrimesCardSaid : Prop := Claim7.holds Tryd.pinned (.plain (OpenSpec.ofChange modsPrimesSpec)) modsPrimesCard

/-- THE TIED CARD OF 'gussetlaw06.ModsSums'. -/
def modsSumsCard : Claim7 := { stood := { row := modsSumsRow, standIns := [], harness := (true, "1ebc0643655b10e6501489c8bcb44b7de8aa66b9dbc36a105f7644dfea121583"), looks := false }, kinds := [], alts := [], laidByText := true, laidKinds := [.data], laidTests := true, laidLooks := .later }
def ModsSumsCardSaid : Prop := Claim7.holds Tryd.pinned (.plain (OpenSpec.ofChange modsSumsSpec)) modsSumsCard

/-- THE TIED CARD OF 'gussetlaw06.ModsField'. -/
def modsFieldCard : Claim7 := { stood := { row := modsFieldRow, standIns := [], harness := (true, "1ebc0643655b10e6501489c8bcb44b7de8aa66b9dbc36a105f7644dfea121583"), looks := false }, kinds := [], alts := [], laidByText := true, laidKinds := [.data], laidTests := true, laidLooks := .later }
def ModsFieldCardSaid : Prop := Claim7.holds Tryd.pinned (.plain (OpenSpec.ofChange modsFieldSpec)) modsFieldCard

/-- THE TIED CARD OF 'gussetlaw06.ModsPowers'. -/
def modsPowersCard : Claim7 := { stood := { row := modsPowersRow, standIns := [], harness := (true, "1ebc0643655b10e6501489c8bcb44b7de8aa66b9dbc36a105f7644dfea121583"), looks := false }, kinds := [], alts := [], laidByText := true, laidKinds := [.data], laidTests := true, laidLooks := .later }
def ModsPowersCardSaid : Prop := Claim7.holds Tryd.pinned (.plain (OpenSpec.ofChange modsPowersSpec)) modsPowersCard

/-- THE TIED CARD OF 'gussetlaw06.ModsRings'. -/
def modsRingsCard : Claim7 := { stood := { row := modsRingsRow, standIns := [], harness := (true, "1ebc0643655b10e6501489c8bcb44b7de8aa66b9dbc36a105f7644dfea121583"), looks := false }, kinds := [], alts := [], laidByText := true, laidKinds := [.data], laidTests := true, laidLooks := .later }
def ModsRingsCardSaid : Prop := Claim7.holds Tryd.pinned (.plain (OpenSpec.ofChange modsRingsSpec)) modsRingsCard

/-- THE SECOND FORM's CARD OF 'gussetlaw06.ModsPrimes'. -/
def modsPrimesUptoCard : Claim7 := { stood := { row := modsPrimesUptoRow, standIns := [], harness := (true, "1ebc0643655b10e6501489c8bcb44b7de8aa66b9dbc36a105f7644dfea121583"), looks := false }, kinds := [], alts := [], laidByText := true, laidKinds := [.data], laidTests := true, laidLooks := .later }
def ModsPrimesUptoCardSaid : Prop := Claim7.holds Tryd.pinned (.plain (OpenSpec.upto modsPrimesSpec)) modsPrimesUptoCard

/-- THE SECOND FORM's CARD OF 'gussetlaw06.ModsSums'. -/
def modsSumsUptoCard : Claim7 := { stood := { row := modsSumsUptoRow, standIns := [], harness := (true, "1ebc0643655b10e6501489c8bcb44b7de8aa66b9dbc36a105f7644dfea121583"), looks := false }, kinds := [], alts := [], laidByText := true, laidKinds := [.data], laidTests := true, laidLooks := .later }
def ModsSumsUptoCardSaid : Prop := Claim7.holds Tryd.pinned (.plain (OpenSpec.upto modsSumsSpec)) modsSumsUptoCard

/-- THE SECOND FORM's CARD OF 'gussetlaw06.ModsField'. -/
def modsFieldUptoCard : Claim7 := { stood := { row := modsFieldUptoRow, standIns := [], harness := (true, "1ebc0643655b10e6501489c8bcb44b7de8aa66b9dbc36a105f7644dfea121583"), looks := false }, kinds := [], alts := [], laidByText := true, laidKinds := [.data], laidTests := true, laidLooks := .later }
def ModsFieldUptoCardSaid : Prop := Claim7.holds Tryd.pinned (.plain (OpenSpec.upto modsFieldSpec)) modsFieldUptoCard

/-- THE SECOND FORM's CARD OF 'gussetlaw06.ModsPowers'. -/
def modsPowersUptoCard : Claim7 := { stood := { row := modsPowersUptoRow, standIns := [], harness := (true, "1ebc0643655b10e6501489c8bcb44b7de8aa66b9dbc36a105f7644dfea121583"), looks := false }, kinds := [], alts := [], laidByText := true, laidKinds := [.data], laidTests := true, laidLooks := .later }
def ModsPowersUptoCardSaid : Prop := Claim7.holds Tryd.pinned (.plain (OpenSpec.upto modsPowersSpec)) modsPowersUptoCard

/-- THE SECOND FORM's CARD OF 'gussetlaw06.ModsRings'. -/
def modsRingsUptoCard : Claim7 := { stood := { row := modsRingsUptoRow, standIns := [], harness := (true, "1ebc0643655b10e6501489c8bcb44b7de8aa66b9dbc36a105f7644dfea121583"), looks := false }, kinds := [], alts := [], laidByText := true, laidKinds := [.data], laidTests := true, laidLooks := .later }
def ModsRingsUptoCardSaid : Prop := Claim7.holds Tryd.pinned (.plain (OpenSpec.upto modsRingsSpec)) modsRingsUptoCard
end Rows
end Go.Proofs.YtfmakoiiibacjaaDoor
