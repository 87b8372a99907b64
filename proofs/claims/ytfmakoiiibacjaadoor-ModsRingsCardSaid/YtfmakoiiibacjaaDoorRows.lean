/-
  NARROWER THAN 'FOR EVERY INPUT', by the rows' own cells (each row's printed sentence says how): ModsPrimes: laid · ModsSums: laid · ModsField: laid · ModsPowers: laid · ModsRings: laid.
  DERIVED. THE GIVEN ROWS OF THIS SEAT. 5 by the template 'for every input the law returns true; each argument reads behind the call as it read before'; 0 by the template 'total and deterministic' (their statements: YtfmakoiiibacjaaDoorTotals.lean).
  GIVEN WITH THE SEED: the statements are not yours to turn. If you find one false, say at which input.
  Laid BY PROGRAM, IN A SANDBOX (cutbox-rows.mjs): the forced cells as the released guide's own fill.sh prints them over the translation 69d10debcbab6dd0… (all of the seat's roots in one cut). By AI agents, Wed Nov 11 2026. No macro, syntax, notation, axiom, sorry.
-/
import Derived.Test.YtfmakoiiibacjaaDoorChecked
import GoSem.Claim
import GoSem.ClaimJoined
import GoSem.ClaimMapViews
import Derived.JoinedTies
import Derived.KernelRfl
namespace Go.Proofs.YtfmakoiiibacjaaDoor
/- THE CELL 'sum', in the pinned program and in every row, IS THE sha256 OF THE DUMP (.gsa) THAT YtfmakoiiibacjaaDoorProg.lean LOADS. Nothing in Lean hashes anything: it is a label: what it is worth is what the hold of that sum in a sandbox is worth. -/
noncomputable def Tryd.pinned : Pinned := { name := "ytfmakoiiibacjaadoor", sum := "69d10debcbab6dd0ec9a2e79ee97443aa46363f61eb1652ed5cda2fe6bfff843", checked := Tryd.checked }
namespace Rows
def none {H : Type} : Left H := { results := [], args := [] }

/- WHAT THE LISTED PACKAGE-LEVEL VARIABLES READ AS WHEN THE CALL BEGINS. Each datum BY PROGRAM (the guide's laid-datum.mjs) off the statement by which the dump's own 'gosem.cut.vars' lays the variable. In a bare row this is a premise. The card (YtfmakoiiibacjaaDoorCards.lean) ties it to the program's text. -/
def laid_math_bits_deBruijn32tab {H : Type} : DataW H := .agg [.lit (.int .u8 0), .lit (.int .u8 1), .lit (.int .u8 28), .lit (.int .u8 2), .lit (.int .u8 29), .lit (.int .u8 14), .lit (.int .u8 24), .lit (.int .u8 3), .lit (.int .u8 30), .lit (.int .u8 22), .lit (.int .u8 20), .lit (.int .u8 15), .lit (.int .u8 25), .lit (.int .u8 17), .lit (.int .u8 4), .lit (.int .u8 8), .lit (.int .u8 31), .lit (.int .u8 27), .lit (.int .u8 13), .lit (.int .u8 23), .lit (.int .u8 21), .lit (.int .u8 19), .lit (.int .u8 16), .lit (.int .u8 7), .lit (.int .u8 26), .lit (.int .u8 12), .lit (.int .u8 18), .lit (.int .u8 6), .lit (.int .u8 11), .lit (.int .u8 5), .lit (.int .u8 10), .lit (.int .u8 9)]

/-- 'gussetlaw06.ModsPrimes': WHATEVER THE INPUT: true; the input reads as it did. -/
def modsPrimesSpec : ChangeSpec := { name := "modsPrimes", fn := fun _ => fun
  | [d] => { results := [.lit (.bool true)], args := [d] }
  | _ => none }
def modsPrimesRow : OpenClaim := { program := "ytfmakoiiibacjaadoor", sum := "69d10debcbab6dd0ec9a2e79ee97443aa46363f61eb1652ed5cda2fe6bfff843", func := "gusset/gussetlaw06.ModsPrimes", spec := "modsPrimes", inPlace := ["math/bits.Add64", "math/bits.Sub64"], unfollowed := true, recurses := true, named := ["math/bits.deBruijn32tab", "math/bits.divideError", "math/bits.overflowError"], apart := false, laid := [("math/bits.deBruijn32tab", laid_math_bits_deBruijn32tab)] }
def ModsPrimesSaid : Prop := modsPrimesRow.holds Tryd.pinned (OpenSpec.ofChange modsPrimesSpec)

/-- ITS FALSE NEIGHBOUR: 'it returns false'. Refute it at one input. -/
def modsPrimesWrong : ChangeSpec := { name := "modsPrimes", fn := fun _ => fun
  | [d] => { results := [.lit (.bool false)], args := [d] }
  | _ => none }
def ModsPrimesWrongFalsely : Prop := modsPrimesRow.holds Tryd.pinned (OpenSpec.ofChange modsPrimesWrong)

/-- 'gussetlaw06.ModsSums': WHATEVER THE INPUT: true; the input reads as it did. -/
def modsSumsSpec : ChangeSpec := { name := "modsSums", fn := fun _ => fun
  | [d1, d2, d3, d4] => { results := [.lit (.bool true)], args := [d1, d2, d3, d4] }
  | _ => none }
def modsSumsRow : OpenClaim := { program := "ytfmakoiiibacjaadoor", sum := "69d10debcbab6dd0ec9a2e79ee97443aa46363f61eb1652ed5cda2fe6bfff843", func := "gusset/gussetlaw06.ModsSums", spec := "modsSums", inPlace := ["math/bits.Add64", "math/bits.Sub64"], unfollowed := true, recurses := true, named := ["math/bits.deBruijn32tab", "math/bits.divideError", "math/bits.overflowError"], apart := false, laid := [("math/bits.deBruijn32tab", laid_math_bits_deBruijn32tab)] }
def ModsSumsSaid : Prop := modsSumsRow.holds Tryd.pinned (OpenSpec.ofChange modsSumsSpec)

/-- ITS FALSE NEIGHBOUR: 'it returns false'. Refute it at one input. -/
def modsSumsWrong : ChangeSpec := { name := "modsSums", fn := fun _ => fun
  | [d1, d2, d3, d4] => { results := [.lit (.bool false)], args := [d1, d2, d3, d4] }
  | _ => none }
def ModsSumsWrongFalsely : Prop := modsSumsRow.holds Tryd.pinned (OpenSpec.ofChange modsSumsWrong)

/-- 'gussetlaw06.ModsField': WHATEVER THE INPUT: true; the input reads as it did. -/
def modsFieldSpec : ChangeSpec := { name := "modsField", fn := fun _ => fun
  | [d1, d2, d3, d4] => { results := [.lit (.bool true)], args := [d1, d2, d3, d4] }
  | _ => none }
def modsFieldRow : OpenClaim := { program := "ytfmakoiiibacjaadoor", sum := "69d10debcbab6dd0ec9a2e79ee97443aa46363f61eb1652ed5cda2fe6bfff843", func := "gusset/gussetlaw06.ModsField", spec := "modsField", inPlace := ["math/bits.Add64", "math/bits.Sub64"], unfollowed := true, recurses := true, named := ["math/bits.deBruijn32tab", "math/bits.divideError", "math/bits.overflowError"], apart := false, laid := [("math/bits.deBruijn32tab", laid_math_bits_deBruijn32tab)] }
def ModsFieldSaid : Prop := modsFieldRow.holds Tryd.pinned (OpenSpec.ofChange modsFieldSpec)

/-- ITS FALSE NEIGHBOUR: 'it returns false'. Refute it at one input. -/
def modsFieldWrong : ChangeSpec := { name := "modsField", fn := fun _ => fun
  | [d1, d2, d3, d4] => { results := [.lit (.bool false)], args := [d1, d2, d3, d4] }
  | _ => none }
def ModsFieldWrongFalsely : Prop := modsFieldRow.holds Tryd.pinned (OpenSpec.ofChange modsFieldWrong)

/-- 'gussetlaw06.ModsPowers': WHATEVER THE INPUT: true; the input reads as it did. -/
def modsPowersSpec : ChangeSpec := { name := "modsPowers", fn := fun _ => fun
  | [d1, d2, d3, d4, d5] => { results := [.lit (.bool true)], args := [d1, d2, d3, d4, d5] }
  | _ => none }
def modsPowersRow : OpenClaim := { program := "ytfmakoiiibacjaadoor", sum := "69d10debcbab6dd0ec9a2e79ee97443aa46363f61eb1652ed5cda2fe6bfff843", func := "gusset/gussetlaw06.ModsPowers", spec := "modsPowers", inPlace := ["math/bits.Add64", "math/bits.Sub64"], unfollowed := true, recurses := true, named := ["math/bits.deBruijn32tab", "math/bits.divideError", "math/bits.overflowError"], apart := false, laid := [("math/bits.deBruijn32tab", laid_math_bits_deBruijn32tab)] }
def ModsPowersSaid : Prop := modsPowersRow.holds Tryd.pinned (OpenSpec.ofChange modsPowersSpec)

/-- ITS FALSE NEIGHBOUR: 'it returns false'. Refute it at one input. -/
def modsPowersWrong : ChangeSpec := { name := "modsPowers", fn := fun _ => fun
  | [d1, d2, d3, d4, d5] => { results := [.lit (.bool false)], args := [d1, d2, d3, d4, d5] }
  | _ => none }
def ModsPowersWrongFalsely : Prop := modsPowersRow.holds Tryd.pinned (OpenSpec.ofChange modsPowersWrong)

/-- 'gussetlaw06.ModsRings': WHATEVER THE INPUT: true; the input reads as it did. -/
def modsRingsSpec : ChangeSpec := { name := "modsRings", fn := fun _ => fun
  | [d1, d2, d3] => { results := [.lit (.bool true)], args := [d1, d2, d3] }
  | _ => none }
def modsRingsRow : OpenClaim := { program := "ytfmakoiiibacjaadoor", sum := "69d10debcbab6dd0ec9a2e79ee97443aa46363f61eb1652ed5cda2fe6bfff843", func := "gusset/gussetlaw06.ModsRings", spec := "modsRings", inPlace := ["math/bits.Add64", "math/bits.Sub64"], unfollowed := true, recurses := true, named := ["math/bits.deBruijn32tab", "math/bits.divideError", "math/bits.overflowError"], apart := false, laid := [("math/bits.deBruijn32tab", laid_math_bits_deBruijn32tab)] }
def ModsRingsSaid : Prop := modsRingsRow.holds Tryd.pinned (OpenSpec.ofChange modsRingsSpec)

/-- ITS FALSE NEIGHBOUR: 'it returns false'. Refute it at one input. -/
def modsRingsWrong : ChangeSpec := { name := "modsRings", fn := fun _ => fun
  | [d1, d2, d3] => { results := [.lit (.bool false)], args := [d1, d2, d3] }
  | _ => none }
def ModsRingsWrongFalsely : Prop := modsRingsRow.holds Tryd.pinned (OpenSpec.ofChange modsRingsWrong)

/- THE SECOND FORM. 'bulk': how many values and letters a reading holds, each counted each time it is reached (what is shared counts as often as it is met; a slice's spare places count too). A statement '..UptoSaid' is the law's where the arguments, and the package variables that the reading takes, are together of bulk at most 1048576: NARROWER than '..Said'. Prove '..Said' where nothing that the law and all that it calls make is longer than what came in: it says more and counts as full. Else prove '..UptoSaid'. A law counts once. -/
mutual
def uptoBulk {H : Type} : DataW H → Nat
  | .lit (.string bytes) => bytes.length + 1
  | .lit _ => 1
  | .nil => 1
  | .ptr d => uptoBulk d + 1
  | .slice elems spare => uptoBulkAll elems + uptoBulkAll spare + 1
  | .agg parts => uptoBulkAll parts + 1
  | .iface _ d => uptoBulk d + 1
  | .map entries => uptoBulkEntries entries + 1
  | .held _ => 1
def uptoBulkAll {H : Type} : List (DataW H) → Nat
  | [] => 0
  | d :: r => uptoBulk d + uptoBulkAll r
def uptoBulkEntries {H : Type} : List (Lit × DataW H) → Nat
  | [] => 0
  | x :: r => uptoBulkEntry x + uptoBulkEntries r
def uptoBulkEntry {H : Type} : Lit × DataW H → Nat
  | (.string bytes, d) => bytes.length + uptoBulk d + 1
  | (_, d) => uptoBulk d + 1
 end
def uptoSmall : (H : Type) → List (DataW H) → Bool := fun _ ds => decide (uptoBulkAll ds ≤ 1048576)
def OpenSpec.upto (s : _root_.Go.ChangeSpec) : _root_.Go.OpenSpec := { _root_.Go.OpenSpec.ofChange s with cond := some uptoSmall }

/-- 'gussetlaw06.ModsPrimes', WHERE WHAT IT READS IS OF BULK AT MOST 1048576: true; the input reads as it did. -/
def modsPrimesUptoRow : OpenClaim := { program := "ytfmakoiiibacjaadoor", sum := "69d10debcbab6dd0ec9a2e79ee97443aa46363f61eb1652ed5cda2fe6bfff843", func := "gusset/gussetlaw06.ModsPrimes", spec := "modsPrimes", inPlace := ["math/bits.Add64", "math/bits.Sub64"], unfollowed := true, recurses := true, named := ["math/bits.deBruijn32tab", "math/bits.divideError", "math/bits.overflowError"], apart := false, laid := [("math/bits.deBruijn32tab", laid_math_bits_deBruijn32tab)], narrowed := true }
def ModsPrimesUptoSaid : Prop := modsPrimesUptoRow.holds Tryd.pinned (OpenSpec.upto modsPrimesSpec)

/-- 'gussetlaw06.ModsSums', WHERE WHAT IT READS IS OF BULK AT MOST 1048576: true; the input reads as it did. -/
def modsSumsUptoRow : OpenClaim := { program := "ytfmakoiiibacjaadoor", sum := "69d10debcbab6dd0ec9a2e79ee97443aa46363f61eb1652ed5cda2fe6bfff843", func := "gusset/gussetlaw06.ModsSums", spec := "modsSums", inPlace := ["math/bits.Add64", "math/bits.Sub64"], unfollowed := true, recurses := true, named := ["math/bits.deBruijn32tab", "math/bits.divideError", "math/bits.overflowError"], apart := false, laid := [("math/bits.deBruijn32tab", laid_math_bits_deBruijn32tab)], narrowed := true }
def ModsSumsUptoSaid : Prop := modsSumsUptoRow.holds Tryd.pinned (OpenSpec.upto modsSumsSpec)

/-- 'gussetlaw06.ModsField', WHERE WHAT IT READS IS OF BULK AT MOST 1048576: true; the input reads as it did. -/
def modsFieldUptoRow : OpenClaim := { program := "ytfmakoiiibacjaadoor", sum := "69d10debcbab6dd0ec9a2e79ee97443aa46363f61eb1652ed5cda2fe6bfff843", func := "gusset/gussetlaw06.ModsField", spec := "modsField", inPlace := ["math/bits.Add64", "math/bits.Sub64"], unfollowed := true, recurses := true, named := ["math/bits.deBruijn32tab", "math/bits.divideError", "math/bits.overflowError"], apart := false, laid := [("math/bits.deBruijn32tab", laid_math_bits_deBruijn32tab)], narrowed := true }
def ModsFieldUptoSaid : Prop := modsFieldUptoRow.holds Tryd.pinned (OpenSpec.upto modsFieldSpec)

/-- 'gussetlaw06.ModsPowers', WHERE WHAT IT READS IS OF BULK AT MOST 1048576: true; the input reads as it did. -/
def modsPowersUptoRow : OpenClaim := { program := "ytfmakoiiibacjaadoor", sum := "69d10debcbab6dd0ec9a2e79ee97443aa46363f61eb1652ed5cda2fe6bfff843", func := "gusset/gussetlaw06.ModsPowers", spec := "modsPowers", inPlace := ["math/bits.Add64", "math/bits.Sub64"], unfollowed := true, recurses := true, named := ["math/bits.deBruijn32tab", "math/bits.divideError", "math/bits.overflowError"], apart := false, laid := [("math/bits.deBruijn32tab", laid_math_bits_deBruijn32tab)], narrowed := true }
def ModsPowersUptoSaid : Prop := modsPowersUptoRow.holds Tryd.pinned (OpenSpec.upto modsPowersSpec)

/-- 'gussetlaw06.ModsRings', WHERE WHAT IT READS IS OF BULK AT MOST 1048576: true; the input reads as it did. -/
def modsRingsUptoRow : OpenClaim := { program := "ytfmakoiiibacjaadoor", sum := "69d10debcbab6dd0ec9a2e79ee97443aa46363f61eb1652ed5cda2fe6bfff843", func := "gusset/gussetlaw06.ModsRings", spec := "modsRings", inPlace := ["math/bits.Add64", "math/bits.Sub64"], unfollowed := true, recurses := true, named := ["math/bits.deBruijn32tab", "math/bits.divideError", "math/bits.overflowError"], apart := false, laid := [("math/bits.deBruijn32tab", laid_math_bits_deBruijn32tab)], narrowed := true }
def ModsRingsUptoSaid : Prop := modsRingsUptoRow.holds Tryd.pinned (OpenSpec.upto modsRingsSpec)

end Rows
end Go.Proofs.YtfmakoiiibacjaaDoor
