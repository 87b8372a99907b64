/-
  DERIVED. GIVEN WITH THE SEED: THE CARDS: each row of YtaimebjkidegiaaGreatDoorRows.lean that lists a variable, with what it lists TIED to the program's text (the seventh form; the later family's looks); each row that meets fmt, with fmt's text TOLD by the authors' own Lean function (tested against real Go, not proved from fmt's source: count such statements apart). THE CARD IS WHAT COUNTS. Prove the row's statement (the work); the ties are given (YtaimebjkidegiaaGreatDoorTie.lean); close each card by the builder's one call (the guide's Derived/Test/ToyasCard.lean, 'card_holds'). Laid BY PROGRAM, IN A SANDBOX (cutbox-door.mjs). By AI agents, Wed Nov 11 2026. No macro, syntax, notation, axiom, sorry.
-/
import Derived.Test.YtaimebjkidegiaaGreatDoorRows
import GoSem.ClaimSeven
namespace Go.Proofs.YtaimebjkidegiaaGreatDoor
namespace Rows

/-- THE TIED CARD OF 'gussetlaw04.DecimalsCycle'. -/
def decimalsCycleCard : Claim7 := { stood := { row := decimalsCycleRow, standIns := [], harness := (true, "f70d1a2c15023878f4259ce78dab2e6f90cb9119832060fe96f040b034e2990a"), looks := false }, kinds := [], alts := [], laidByText := true, laidKinds := [.data, .data, .data], laidTests := true, laidLooks := .later }
def DecimalsCycleCardSaid : Prop := Claim7.holds Tryz.pinned (.plain (OpenSpec.ofChange decimalsCycleSpec)) decimalsCycleCard

/-- THE TIED CARD OF 'gussetlaw07.ReconsJoins'. -/
def reconsJoinsCard : Claim7 := { stood := { row := reconsJoinsRow, standIns := [], harness := (true, "f70d1a2c15023878f4259ce78dab2e6f90cb9119832060fe96f040b034e2990a"), looks := false }, kinds := [], alts := [], laidByText := true, laidKinds := [.data, .data, .data], laidTests := true, laidLooks := .later }
def ReconsJoinsCardSaid : Prop := Claim7.holds Tryz.pinned (.plain (OpenSpec.ofChange reconsJoinsSpec)) reconsJoinsCard

/-- THE TIED CARD OF 'gussetlaw10.RulesExact'. -/
def rulesExactCard : Claim7 := { stood := { row := rulesExactRow, standIns := [], harness := (true, "f70d1a2c15023878f4259ce78dab2e6f90cb9119832060fe96f040b034e2990a"), looks := false }, kinds := [], alts := [], laidByText := true, laidKinds := [.data, .data, .data], laidTests := true, laidLooks := .later }
def RulesExactCardSaid : Prop := Claim7.holds Tryz.pinned (.plain (OpenSpec.ofChange rulesExactSpec)) rulesExactCard

/-- THE TIED CARD OF 'gussetlaw10.RulesLines'. -/
def rulesLinesCard : Claim7 := { stood := { row := rulesLinesRow, standIns := [], harness := (true, "f70d1a2c15023878f4259ce78dab2e6f90cb9119832060fe96f040b034e2990a"), looks := false }, kinds := [], alts := [], laidByText := true, laidKinds := [.data, .data, .data], laidTests := true, laidLooks := .later }
def RulesLinesCardSaid : Prop := Claim7.holds Tryz.pinned (.plain (OpenSpec.ofChange rulesLinesSpec)) rulesLinesCard

/-- THE TIED CARD OF 'gussetlaw10.RulesTurned'. -/
def rulesTurnedCard : Claim7 := { stood := { row := rulesTurnedRow, standIns := [], harness := (true, "f70d1a2c15023878f4259ce78dab2e6f90cb9119832060fe96f040b034e2990a"), looks := false }, kinds := [], alts := [], laidByText := true, laidKinds := [.data, .data, .data], laidTests := true, laidLooks := .later }
def RulesTurnedCardSaid : Prop := Claim7.holds Tryz.pinned (.plain (OpenSpec.ofChange rulesTurnedSpec)) rulesTurnedCard

/-- THE TIED CARD OF 'gussetlaw10.RulesSums'. -/
def rulesSumsCard : Claim7 := { stood := { row := rulesSumsRow, standIns := [], harness := (true, "f70d1a2c15023878f4259ce78dab2e6f90cb9119832060fe96f040b034e2990a"), looks := false }, kinds := [], alts := [], laidByText := true, laidKinds := [.data, .data, .data], laidTests := true, laidLooks := .later }
def RulesSumsCardSaid : Prop := Claim7.holds Tryz.pinned (.plain (OpenSpec.ofChange rulesSumsSpec)) rulesSumsCard

/-- THE TIED CARD OF 'gussetlaw10.RulesRaw'. -/
def rulesRawCard : Claim7 := { stood := { row := rulesRawRow, standIns := [], harness := (true, "f70d1a2c15023878f4259ce78dab2e6f90cb9119832060fe96f040b034e2990a"), looks := false }, kinds := [], alts := [], laidByText := true, laidKinds := [.data, .data, .data], laidTests := true, laidLooks := .later }
def RulesRawCardSaid : Prop := Claim7.holds Tryz.pinned (.plain (OpenSpec.ofChange rulesRawSpec)) rulesRawCard

/-- THE SECOND FORM's CARD OF 'gussetlaw04.DecimalsCycle'. -/
def decimalsCycleUptoCard : Claim7 := { stood := { row := decimalsCycleUptoRow, standIns := [], harness := (true, "f70d1a2c15023878f4259ce78dab2e6f90cb9119832060fe96f040b034e2990a"), looks := false }, kinds := [], alts := [], laidByText := true, laidKinds := [.data, .data, .data], laidTests := true, laidLooks := .later }
def DecimalsCycleUptoCardSaid : Prop := Claim7.holds Tryz.pinned (.plain (OpenSpec.upto decimalsCycleSpec)) decimalsCycleUptoCard

/-- THE SECOND FORM's CARD OF 'gussetlaw07.ReconsJoins'. -/
def reconsJoinsUptoCard : Claim7 := { stood := { row := reconsJoinsUptoRow, standIns := [], harness := (true, "f70d1a2c15023878f4259ce78dab2e6f90cb9119832060fe96f040b034e2990a"), looks := false }, kinds := [], alts := [], laidByText := true, laidKinds := [.data, .data, .data], laidTests := true, laidLooks := .later }
def ReconsJoinsUptoCardSaid : Prop := Claim7.holds Tryz.pinned (.plain (OpenSpec.upto reconsJoinsSpec)) reconsJoinsUptoCard

/-- THE SECOND FORM's CARD OF 'gussetlaw10.RulesExact'. -/
def rulesExactUptoCard : Claim7 := { stood := { row := rulesExactUptoRow, standIns := [], harness := (true, "f70d1a2c15023878f4259ce78dab2e6f90cb9119832060fe96f040b034e2990a"), looks := false }, kinds := [], alts := [], laidByText := true, laidKinds := [.data, .data, .data], laidTests := true, laidLooks := .later }
def RulesExactUptoCardSaid : Prop := Claim7.holds Tryz.pinned (.plain (OpenSpec.upto rulesExactSpec)) rulesExactUptoCard

/-- THE SECOND FORM's CARD OF 'gussetlaw10.RulesLines'. -/
def rulesLinesUptoCard : Claim7 := { stood := { row := rulesLinesUptoRow, standIns := [], harness := (true, "f70d1a2c15023878f4259ce78dab2e6f90cb9119832060fe96f040b034e2990a"), looks := false }, kinds := [], alts := [], laidByText := true, laidKinds := [.data, .data, .data], laidTests := true, laidLooks := .later }
def RulesLinesUptoCardSaid : Prop := Claim7.holds Tryz.pinned (.plain (OpenSpec.upto rulesLinesSpec)) rulesLinesUptoCard

/-- THE SECOND FORM's CARD OF 'gussetlaw10.RulesTurned'. -/
def rulesTurnedUptoCard : Claim7 := { stood := { row := rulesTurnedUptoRow, standIns := [], harness := (true, "f70d1a2c15023878f4259ce78dab2e6f90cb9119832060fe96f040b034e2990a"), looks := false }, kinds := [], alts := [], laidByText := true, laidKinds := [.data, .data, .data], laidTests := true, laidLooks := .later }
def RulesTurnedUptoCardSaid : Prop := Claim7.holds Tryz.pinned (.plain (OpenSpec.upto rulesTurnedSpec)) rulesTurnedUptoCard

/-- THE SECOND FORM's CARD OF 'gussetlaw10.RulesSums'. -/
def rulesSumsUptoCard : Claim7 := { stood := { row := rulesSumsUptoRow, standIns := [], harness := (true, "f70d1a2c15023878f4259ce78dab2e6f90cb9119832060fe96f040b034e2990a"), looks := false }, kinds := [], alts := [], laidByText := true, laidKinds := [.data, .data, .data], laidTests := true, laidLooks := .later }
def RulesSumsUptoCardSaid : Prop := Claim7.holds Tryz.pinned (.plain (OpenSpec.upto rulesSumsSpec)) rulesSumsUptoCard

/-- THE SECOND FORM's CARD OF 'gussetlaw10.RulesRaw'. -/
def rulesRawUptoCard : Claim7 := { stood := { row := rulesRawUptoRow, standIns := [], harness := (true, "f70d1a2c15023878f4259ce78dab2e6f90cb9119832060fe96f040b034e2990a"), looks := false }, kinds := [], alts := [], laidByText := true, laidKinds := [.data, .data, .data], laidTests := true, laidLooks := .later }
def RulesRawUptoCardSaid : Prop := Claim7.holds Tryz.pinned (.plain (OpenSpec.upto rulesRawSpec)) rulesRawUptoCard
end Rows
end Go.Proofs.YtaimebjkidegiaaGreatDoor
