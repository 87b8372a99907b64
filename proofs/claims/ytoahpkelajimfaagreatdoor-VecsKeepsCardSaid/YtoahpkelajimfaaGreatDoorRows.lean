/-
  NARROWER THAN 'FOR EVERY INPUT', by the rows' own cells (each row's printed sentence says how): VecsPlays: laid · VecsSums: laid · VecsSpace: laid · VecsCauchy: laid · VecsSizes: laid · VecsUnits: laid · VecsErrors: laid · VecsKeeps: laid · VecsKnown: laid.
  DERIVED. THE GIVEN ROWS OF THIS SEAT. 9 by the template 'for every input the law returns true; each argument reads behind the call as it read before'; 0 by the template 'total and deterministic' (their statements: YtoahpkelajimfaaGreatDoorTotals.lean).
  GIVEN WITH THE SEED: the statements are not yours to turn. If you find one false, say at which input.
  Laid BY PROGRAM, IN A SANDBOX (cutbox-rows.mjs): the forced cells as the released guide's own fill.sh prints them over the translation 3225dc3f119834d0… (all of the seat's roots in one cut). By AI agents, Wed Nov 11 2026. No macro, syntax, notation, axiom, sorry.
-/
import Derived.Test.YtoahpkelajimfaaGreatDoorChecked
import GoSem.Claim
import GoSem.ClaimJoined
import GoSem.ClaimMapViews
import Derived.JoinedTies
import Derived.KernelRfl
namespace Go.Proofs.YtoahpkelajimfaaGreatDoor
/- THE CELL 'sum', in the pinned program and in every row, IS THE sha256 OF THE DUMP (.gsa) THAT YtoahpkelajimfaaGreatDoorProg.lean LOADS. Nothing in Lean hashes anything: it is a label: what it is worth is what the hold of that sum in a sandbox is worth. -/
noncomputable def Tryz.pinned : Pinned := { name := "ytoahpkelajimfaagreatdoor", sum := "3225dc3f119834d0efda66a414a31c1a3efe6c4b8488df29e014b6bac57889ba", checked := Tryz.checked }
namespace Rows
def none {H : Type} : Left H := { results := [], args := [] }

/- WHAT THE LISTED PACKAGE-LEVEL VARIABLES READ AS WHEN THE CALL BEGINS. Each datum BY PROGRAM (the guide's laid-datum.mjs) off the statement by which the dump's own 'gosem.cut.vars' lays the variable. In a bare row this is a premise. The card (YtoahpkelajimfaaGreatDoorCards.lean) ties it to the program's text. -/
def laid_math_bits_deBruijn32tab {H : Type} : DataW H := .agg [.lit (.int .u8 0), .lit (.int .u8 1), .lit (.int .u8 28), .lit (.int .u8 2), .lit (.int .u8 29), .lit (.int .u8 14), .lit (.int .u8 24), .lit (.int .u8 3), .lit (.int .u8 30), .lit (.int .u8 22), .lit (.int .u8 20), .lit (.int .u8 15), .lit (.int .u8 25), .lit (.int .u8 17), .lit (.int .u8 4), .lit (.int .u8 8), .lit (.int .u8 31), .lit (.int .u8 27), .lit (.int .u8 13), .lit (.int .u8 23), .lit (.int .u8 21), .lit (.int .u8 19), .lit (.int .u8 16), .lit (.int .u8 7), .lit (.int .u8 26), .lit (.int .u8 12), .lit (.int .u8 18), .lit (.int .u8 6), .lit (.int .u8 11), .lit (.int .u8 5), .lit (.int .u8 10), .lit (.int .u8 9)]
def laid_math_bits_deBruijn64tab {H : Type} : DataW H := .agg [.lit (.int .u8 0), .lit (.int .u8 1), .lit (.int .u8 56), .lit (.int .u8 2), .lit (.int .u8 57), .lit (.int .u8 49), .lit (.int .u8 28), .lit (.int .u8 3), .lit (.int .u8 61), .lit (.int .u8 58), .lit (.int .u8 42), .lit (.int .u8 50), .lit (.int .u8 38), .lit (.int .u8 29), .lit (.int .u8 17), .lit (.int .u8 4), .lit (.int .u8 62), .lit (.int .u8 47), .lit (.int .u8 59), .lit (.int .u8 36), .lit (.int .u8 45), .lit (.int .u8 43), .lit (.int .u8 51), .lit (.int .u8 22), .lit (.int .u8 53), .lit (.int .u8 39), .lit (.int .u8 33), .lit (.int .u8 30), .lit (.int .u8 24), .lit (.int .u8 18), .lit (.int .u8 12), .lit (.int .u8 5), .lit (.int .u8 63), .lit (.int .u8 55), .lit (.int .u8 48), .lit (.int .u8 27), .lit (.int .u8 60), .lit (.int .u8 41), .lit (.int .u8 37), .lit (.int .u8 16), .lit (.int .u8 46), .lit (.int .u8 35), .lit (.int .u8 44), .lit (.int .u8 21), .lit (.int .u8 52), .lit (.int .u8 32), .lit (.int .u8 23), .lit (.int .u8 11), .lit (.int .u8 54), .lit (.int .u8 26), .lit (.int .u8 40), .lit (.int .u8 15), .lit (.int .u8 34), .lit (.int .u8 20), .lit (.int .u8 31), .lit (.int .u8 10), .lit (.int .u8 25), .lit (.int .u8 14), .lit (.int .u8 19), .lit (.int .u8 9), .lit (.int .u8 13), .lit (.int .u8 8), .lit (.int .u8 7), .lit (.int .u8 6)]
def laid_internal_strconv_uint64pow10 {H : Type} : DataW H := .agg [.lit (.int .u64 1), .lit (.int .u64 10), .lit (.int .u64 100), .lit (.int .u64 1000), .lit (.int .u64 10000), .lit (.int .u64 100000), .lit (.int .u64 1000000), .lit (.int .u64 10000000), .lit (.int .u64 100000000), .lit (.int .u64 1000000000), .lit (.int .u64 10000000000), .lit (.int .u64 100000000000), .lit (.int .u64 1000000000000), .lit (.int .u64 10000000000000), .lit (.int .u64 100000000000000), .lit (.int .u64 1000000000000000), .lit (.int .u64 10000000000000000), .lit (.int .u64 100000000000000000), .lit (.int .u64 1000000000000000000), .lit (.int .u64 10000000000000000000)]

/-- 'gussetlaw12.VecsPlays': WHATEVER THE INPUT: true; the input reads as it did. -/
def vecsPlaysSpec : ChangeSpec := { name := "vecsPlays", fn := fun _ => fun
  | [d1, d2, d3] => { results := [.lit (.bool true)], args := [d1, d2, d3] }
  | _ => none }
def vecsPlaysRow : OpenClaim := { program := "ytoahpkelajimfaagreatdoor", sum := "3225dc3f119834d0efda66a414a31c1a3efe6c4b8488df29e014b6bac57889ba", func := "gusset/gussetlaw12.VecsPlays", spec := "vecsPlays", inPlace := ["math/bits.Add64", "math/bits.Sub64", "internal/abi.NoEscape", "internal/bytealg.MakeNoZero"], unfollowed := true, recurses := true, named := ["math/bits.divideError", "math/bits.overflowError", "internal/strconv.uint64pow10", "math/bits.deBruijn32tab", "math/bits.deBruijn64tab"], apart := false, laid := [("math/bits.deBruijn32tab", laid_math_bits_deBruijn32tab), ("math/bits.deBruijn64tab", laid_math_bits_deBruijn64tab), ("internal/strconv.uint64pow10", laid_internal_strconv_uint64pow10)] }
def VecsPlaysSaid : Prop := vecsPlaysRow.holds Tryz.pinned (OpenSpec.ofChange vecsPlaysSpec)

/-- ITS FALSE NEIGHBOUR: 'it returns false'. Refute it at one input. -/
def vecsPlaysWrong : ChangeSpec := { name := "vecsPlays", fn := fun _ => fun
  | [d1, d2, d3] => { results := [.lit (.bool false)], args := [d1, d2, d3] }
  | _ => none }
def VecsPlaysWrongFalsely : Prop := vecsPlaysRow.holds Tryz.pinned (OpenSpec.ofChange vecsPlaysWrong)

/-- 'gussetlaw12.VecsSums': WHATEVER THE INPUT: true; the input reads as it did. -/
def vecsSumsSpec : ChangeSpec := { name := "vecsSums", fn := fun _ => fun
  | [d1, d2, d3] => { results := [.lit (.bool true)], args := [d1, d2, d3] }
  | _ => none }
def vecsSumsRow : OpenClaim := { program := "ytoahpkelajimfaagreatdoor", sum := "3225dc3f119834d0efda66a414a31c1a3efe6c4b8488df29e014b6bac57889ba", func := "gusset/gussetlaw12.VecsSums", spec := "vecsSums", inPlace := ["math/bits.Add64", "math/bits.Sub64", "internal/abi.NoEscape", "internal/bytealg.MakeNoZero"], unfollowed := true, recurses := true, named := ["math/bits.divideError", "math/bits.overflowError", "internal/strconv.uint64pow10", "math/bits.deBruijn32tab", "math/bits.deBruijn64tab"], apart := false, laid := [("math/bits.deBruijn32tab", laid_math_bits_deBruijn32tab), ("math/bits.deBruijn64tab", laid_math_bits_deBruijn64tab), ("internal/strconv.uint64pow10", laid_internal_strconv_uint64pow10)] }
def VecsSumsSaid : Prop := vecsSumsRow.holds Tryz.pinned (OpenSpec.ofChange vecsSumsSpec)

/-- ITS FALSE NEIGHBOUR: 'it returns false'. Refute it at one input. -/
def vecsSumsWrong : ChangeSpec := { name := "vecsSums", fn := fun _ => fun
  | [d1, d2, d3] => { results := [.lit (.bool false)], args := [d1, d2, d3] }
  | _ => none }
def VecsSumsWrongFalsely : Prop := vecsSumsRow.holds Tryz.pinned (OpenSpec.ofChange vecsSumsWrong)

/-- 'gussetlaw12.VecsSpace': WHATEVER THE INPUT: true; the input reads as it did. -/
def vecsSpaceSpec : ChangeSpec := { name := "vecsSpace", fn := fun _ => fun
  | [d1, d2, d3, d4, d5] => { results := [.lit (.bool true)], args := [d1, d2, d3, d4, d5] }
  | _ => none }
def vecsSpaceRow : OpenClaim := { program := "ytoahpkelajimfaagreatdoor", sum := "3225dc3f119834d0efda66a414a31c1a3efe6c4b8488df29e014b6bac57889ba", func := "gusset/gussetlaw12.VecsSpace", spec := "vecsSpace", inPlace := ["math/bits.Add64", "math/bits.Sub64", "internal/abi.NoEscape", "internal/bytealg.MakeNoZero"], unfollowed := true, recurses := true, named := ["math/bits.divideError", "math/bits.overflowError", "internal/strconv.uint64pow10", "math/bits.deBruijn32tab", "math/bits.deBruijn64tab"], apart := false, laid := [("math/bits.deBruijn32tab", laid_math_bits_deBruijn32tab), ("math/bits.deBruijn64tab", laid_math_bits_deBruijn64tab), ("internal/strconv.uint64pow10", laid_internal_strconv_uint64pow10)] }
def VecsSpaceSaid : Prop := vecsSpaceRow.holds Tryz.pinned (OpenSpec.ofChange vecsSpaceSpec)

/-- ITS FALSE NEIGHBOUR: 'it returns false'. Refute it at one input. -/
def vecsSpaceWrong : ChangeSpec := { name := "vecsSpace", fn := fun _ => fun
  | [d1, d2, d3, d4, d5] => { results := [.lit (.bool false)], args := [d1, d2, d3, d4, d5] }
  | _ => none }
def VecsSpaceWrongFalsely : Prop := vecsSpaceRow.holds Tryz.pinned (OpenSpec.ofChange vecsSpaceWrong)

/-- 'gussetlaw12.VecsCauchy': WHATEVER THE INPUT: true; the input reads as it did. -/
def vecsCauchySpec : ChangeSpec := { name := "vecsCauchy", fn := fun _ => fun
  | [d1, d2, d3, d4] => { results := [.lit (.bool true)], args := [d1, d2, d3, d4] }
  | _ => none }
def vecsCauchyRow : OpenClaim := { program := "ytoahpkelajimfaagreatdoor", sum := "3225dc3f119834d0efda66a414a31c1a3efe6c4b8488df29e014b6bac57889ba", func := "gusset/gussetlaw12.VecsCauchy", spec := "vecsCauchy", inPlace := ["math/bits.Add64", "math/bits.Sub64", "internal/abi.NoEscape", "internal/bytealg.MakeNoZero"], unfollowed := true, recurses := true, named := ["math/bits.divideError", "math/bits.overflowError", "internal/strconv.uint64pow10", "math/bits.deBruijn32tab", "math/bits.deBruijn64tab"], apart := false, laid := [("math/bits.deBruijn32tab", laid_math_bits_deBruijn32tab), ("math/bits.deBruijn64tab", laid_math_bits_deBruijn64tab), ("internal/strconv.uint64pow10", laid_internal_strconv_uint64pow10)] }
def VecsCauchySaid : Prop := vecsCauchyRow.holds Tryz.pinned (OpenSpec.ofChange vecsCauchySpec)

/-- ITS FALSE NEIGHBOUR: 'it returns false'. Refute it at one input. -/
def vecsCauchyWrong : ChangeSpec := { name := "vecsCauchy", fn := fun _ => fun
  | [d1, d2, d3, d4] => { results := [.lit (.bool false)], args := [d1, d2, d3, d4] }
  | _ => none }
def VecsCauchyWrongFalsely : Prop := vecsCauchyRow.holds Tryz.pinned (OpenSpec.ofChange vecsCauchyWrong)

/-- 'gussetlaw12.VecsSizes': WHATEVER THE INPUT: true; the input reads as it did. -/
def vecsSizesSpec : ChangeSpec := { name := "vecsSizes", fn := fun _ => fun
  | [d1, d2, d3] => { results := [.lit (.bool true)], args := [d1, d2, d3] }
  | _ => none }
def vecsSizesRow : OpenClaim := { program := "ytoahpkelajimfaagreatdoor", sum := "3225dc3f119834d0efda66a414a31c1a3efe6c4b8488df29e014b6bac57889ba", func := "gusset/gussetlaw12.VecsSizes", spec := "vecsSizes", inPlace := ["math/bits.Add64", "math/bits.Sub64", "internal/abi.NoEscape", "internal/bytealg.MakeNoZero"], unfollowed := true, recurses := true, named := ["math/bits.divideError", "math/bits.overflowError", "internal/strconv.uint64pow10", "math/bits.deBruijn32tab", "math/bits.deBruijn64tab"], apart := false, laid := [("math/bits.deBruijn32tab", laid_math_bits_deBruijn32tab), ("math/bits.deBruijn64tab", laid_math_bits_deBruijn64tab), ("internal/strconv.uint64pow10", laid_internal_strconv_uint64pow10)] }
def VecsSizesSaid : Prop := vecsSizesRow.holds Tryz.pinned (OpenSpec.ofChange vecsSizesSpec)

/-- ITS FALSE NEIGHBOUR: 'it returns false'. Refute it at one input. -/
def vecsSizesWrong : ChangeSpec := { name := "vecsSizes", fn := fun _ => fun
  | [d1, d2, d3] => { results := [.lit (.bool false)], args := [d1, d2, d3] }
  | _ => none }
def VecsSizesWrongFalsely : Prop := vecsSizesRow.holds Tryz.pinned (OpenSpec.ofChange vecsSizesWrong)

/-- 'gussetlaw12.VecsUnits': WHATEVER THE INPUT: true; the input reads as it did. -/
def vecsUnitsSpec : ChangeSpec := { name := "vecsUnits", fn := fun _ => fun
  | [d] => { results := [.lit (.bool true)], args := [d] }
  | _ => none }
def vecsUnitsRow : OpenClaim := { program := "ytoahpkelajimfaagreatdoor", sum := "3225dc3f119834d0efda66a414a31c1a3efe6c4b8488df29e014b6bac57889ba", func := "gusset/gussetlaw12.VecsUnits", spec := "vecsUnits", inPlace := ["math/bits.Add64", "math/bits.Sub64", "internal/abi.NoEscape", "internal/bytealg.MakeNoZero"], unfollowed := true, recurses := true, named := ["math/bits.divideError", "math/bits.overflowError", "internal/strconv.uint64pow10", "math/bits.deBruijn32tab", "math/bits.deBruijn64tab"], apart := false, laid := [("math/bits.deBruijn32tab", laid_math_bits_deBruijn32tab), ("math/bits.deBruijn64tab", laid_math_bits_deBruijn64tab), ("internal/strconv.uint64pow10", laid_internal_strconv_uint64pow10)] }
def VecsUnitsSaid : Prop := vecsUnitsRow.holds Tryz.pinned (OpenSpec.ofChange vecsUnitsSpec)

/-- ITS FALSE NEIGHBOUR: 'it returns false'. Refute it at one input. -/
def vecsUnitsWrong : ChangeSpec := { name := "vecsUnits", fn := fun _ => fun
  | [d] => { results := [.lit (.bool false)], args := [d] }
  | _ => none }
def VecsUnitsWrongFalsely : Prop := vecsUnitsRow.holds Tryz.pinned (OpenSpec.ofChange vecsUnitsWrong)

/-- 'gussetlaw12.VecsErrors': WHATEVER THE INPUT: true; the input reads as it did. -/
def vecsErrorsSpec : ChangeSpec := { name := "vecsErrors", fn := fun _ => fun
  | [d1, d2, d3, d4, d5] => { results := [.lit (.bool true)], args := [d1, d2, d3, d4, d5] }
  | _ => none }
def vecsErrorsRow : OpenClaim := { program := "ytoahpkelajimfaagreatdoor", sum := "3225dc3f119834d0efda66a414a31c1a3efe6c4b8488df29e014b6bac57889ba", func := "gusset/gussetlaw12.VecsErrors", spec := "vecsErrors", inPlace := ["math/bits.Add64", "math/bits.Sub64", "internal/abi.NoEscape", "internal/bytealg.MakeNoZero"], unfollowed := true, recurses := true, named := ["math/bits.divideError", "math/bits.overflowError", "internal/strconv.uint64pow10", "math/bits.deBruijn32tab", "math/bits.deBruijn64tab"], apart := false, laid := [("math/bits.deBruijn32tab", laid_math_bits_deBruijn32tab), ("math/bits.deBruijn64tab", laid_math_bits_deBruijn64tab), ("internal/strconv.uint64pow10", laid_internal_strconv_uint64pow10)] }
def VecsErrorsSaid : Prop := vecsErrorsRow.holds Tryz.pinned (OpenSpec.ofChange vecsErrorsSpec)

/-- ITS FALSE NEIGHBOUR: 'it returns false'. Refute it at one input. -/
def vecsErrorsWrong : ChangeSpec := { name := "vecsErrors", fn := fun _ => fun
  | [d1, d2, d3, d4, d5] => { results := [.lit (.bool false)], args := [d1, d2, d3, d4, d5] }
  | _ => none }
def VecsErrorsWrongFalsely : Prop := vecsErrorsRow.holds Tryz.pinned (OpenSpec.ofChange vecsErrorsWrong)

/-- 'gussetlaw12.VecsKeeps': WHATEVER THE INPUT: true; the input reads as it did. -/
def vecsKeepsSpec : ChangeSpec := { name := "vecsKeeps", fn := fun _ => fun
  | [d1, d2, d3] => { results := [.lit (.bool true)], args := [d1, d2, d3] }
  | _ => none }
def vecsKeepsRow : OpenClaim := { program := "ytoahpkelajimfaagreatdoor", sum := "3225dc3f119834d0efda66a414a31c1a3efe6c4b8488df29e014b6bac57889ba", func := "gusset/gussetlaw12.VecsKeeps", spec := "vecsKeeps", inPlace := ["math/bits.Add64", "math/bits.Sub64", "internal/abi.NoEscape", "internal/bytealg.MakeNoZero"], unfollowed := true, recurses := true, named := ["math/bits.divideError", "math/bits.overflowError", "internal/strconv.uint64pow10", "math/bits.deBruijn32tab", "math/bits.deBruijn64tab"], apart := false, laid := [("math/bits.deBruijn32tab", laid_math_bits_deBruijn32tab), ("math/bits.deBruijn64tab", laid_math_bits_deBruijn64tab), ("internal/strconv.uint64pow10", laid_internal_strconv_uint64pow10)] }
def VecsKeepsSaid : Prop := vecsKeepsRow.holds Tryz.pinned (OpenSpec.ofChange vecsKeepsSpec)

/-- ITS FALSE NEIGHBOUR: 'it returns false'. Refute it at one input. -/
def vecsKeepsWrong : ChangeSpec := { name := "vecsKeeps", fn := fun _ => fun
  | [d1, d2, d3] => { results := [.lit (.bool false)], args := [d1, d2, d3] }
  | _ => none }
def VecsKeepsWrongFalsely : Prop := vecsKeepsRow.holds Tryz.pinned (OpenSpec.ofChange vecsKeepsWrong)

/-- 'gussetlaw12.VecsKnown': WHATEVER THE INPUT: true; the input reads as it did. -/
def vecsKnownSpec : ChangeSpec := { name := "vecsKnown", fn := fun _ => fun
  | [] => { results := [.lit (.bool true)], args := [] }
  | _ => none }
def vecsKnownRow : OpenClaim := { program := "ytoahpkelajimfaagreatdoor", sum := "3225dc3f119834d0efda66a414a31c1a3efe6c4b8488df29e014b6bac57889ba", func := "gusset/gussetlaw12.VecsKnown", spec := "vecsKnown", inPlace := ["math/bits.Add64", "math/bits.Sub64", "internal/abi.NoEscape", "internal/bytealg.MakeNoZero"], unfollowed := true, recurses := true, named := ["math/bits.divideError", "math/bits.overflowError", "internal/strconv.uint64pow10", "math/bits.deBruijn32tab", "math/bits.deBruijn64tab"], apart := false, laid := [("math/bits.deBruijn32tab", laid_math_bits_deBruijn32tab), ("math/bits.deBruijn64tab", laid_math_bits_deBruijn64tab), ("internal/strconv.uint64pow10", laid_internal_strconv_uint64pow10)] }
def VecsKnownSaid : Prop := vecsKnownRow.holds Tryz.pinned (OpenSpec.ofChange vecsKnownSpec)

/-- ITS FALSE NEIGHBOUR: 'it returns false'. Refute it at one input. -/
def vecsKnownWrong : ChangeSpec := { name := "vecsKnown", fn := fun _ => fun
  | [] => { results := [.lit (.bool false)], args := [] }
  | _ => none }
def VecsKnownWrongFalsely : Prop := vecsKnownRow.holds Tryz.pinned (OpenSpec.ofChange vecsKnownWrong)

/- THE SECOND FORM. 'bulk': how many values and letters a reading holds, each counted each time it is reached (what is shared counts as often as it is met; a slice's spare places count too). A statement '..UptoSaid' is the law's where the arguments, and the package variables that the reading takes, are together of bulk at most 1048576: NARROWER than '..Said'. Prove '..Said' where nothing that the law and all that it calls make is longer than what came in: it says more and counts as full. Else prove '..UptoSaid'. A law counts once. -/
mutual
def uptoBulk {H : Type} : DataW H → Nat
  | .lit (.string bytes) => bytes.length + 1
  | .lit _ => 1
  | .nil => 1
  | .ptr d => uptoBulk d + 1
  | .slice elems spare => uptoBulkAll elems + uptoBulkAll spare + 1
  | .agg parts => uptoBulkAll parts + 1
  | .iface _ d => uptoBulk d + 1
  | .map entries => uptoBulkEntries entries + 1
  | .held _ => 1
def uptoBulkAll {H : Type} : List (DataW H) → Nat
  | [] => 0
  | d :: r => uptoBulk d + uptoBulkAll r
def uptoBulkEntries {H : Type} : List (Lit × DataW H) → Nat
  | [] => 0
  | x :: r => uptoBulkEntry x + uptoBulkEntries r
def uptoBulkEntry {H : Type} : Lit × DataW H → Nat
  | (.string bytes, d) => bytes.length + uptoBulk d + 1
  | (_, d) => uptoBulk d + 1
 end
def uptoSmall : (H : Type) → List (DataW H) → Bool := fun _ ds => decide (uptoBulkAll ds ≤ 1048576)
def OpenSpec.upto (s : _root_.Go.ChangeSpec) : _root_.Go.OpenSpec := { _root_.Go.OpenSpec.ofChange s with cond := some uptoSmall }

/-- 'gussetlaw12.VecsPlays', WHERE WHAT IT READS IS OF BULK AT MOST 1048576: true; the input reads as it did. -/
def vecsPlaysUptoRow : OpenClaim := { program := "ytoahpkelajimfaagreatdoor", sum := "3225dc3f119834d0efda66a414a31c1a3efe6c4b8488df29e014b6bac57889ba", func := "gusset/gussetlaw12.VecsPlays", spec := "vecsPlays", inPlace := ["math/bits.Add64", "math/bits.Sub64", "internal/abi.NoEscape", "internal/bytealg.MakeNoZero"], unfollowed := true, recurses := true, named := ["math/bits.divideError", "math/bits.overflowError", "internal/strconv.uint64pow10", "math/bits.deBruijn32tab", "math/bits.deBruijn64tab"], apart := false, laid := [("math/bits.deBruijn32tab", laid_math_bits_deBruijn32tab), ("math/bits.deBruijn64tab", laid_math_bits_deBruijn64tab), ("internal/strconv.uint64pow10", laid_internal_strconv_uint64pow10)], narrowed := true }
def VecsPlaysUptoSaid : Prop := vecsPlaysUptoRow.holds Tryz.pinned (OpenSpec.upto vecsPlaysSpec)

/-- 'gussetlaw12.VecsSums', WHERE WHAT IT READS IS OF BULK AT MOST 1048576: true; the input reads as it did. -/
def vecsSumsUptoRow : OpenClaim := { program := "ytoahpkelajimfaagreatdoor", sum := "3225dc3f119834d0efda66a414a31c1a3efe6c4b8488df29e014b6bac57889ba", func := "gusset/gussetlaw12.VecsSums", spec := "vecsSums", inPlace := ["math/bits.Add64", "math/bits.Sub64", "internal/abi.NoEscape", "internal/bytealg.MakeNoZero"], unfollowed := true, recurses := true, named := ["math/bits.divideError", "math/bits.overflowError", "internal/strconv.uint64pow10", "math/bits.deBruijn32tab", "math/bits.deBruijn64tab"], apart := false, laid := [("math/bits.deBruijn32tab", laid_math_bits_deBruijn32tab), ("math/bits.deBruijn64tab", laid_math_bits_deBruijn64tab), ("internal/strconv.uint64pow10", laid_internal_strconv_uint64pow10)], narrowed := true }
def VecsSumsUptoSaid : Prop := vecsSumsUptoRow.holds Tryz.pinned (OpenSpec.upto vecsSumsSpec)

/-- 'gussetlaw12.VecsSpace', WHERE WHAT IT READS IS OF BULK AT MOST 1048576: true; the input reads as it did. -/
def vecsSpaceUptoRow : OpenClaim := { program := "ytoahpkelajimfaagreatdoor", sum := "3225dc3f119834d0efda66a414a31c1a3efe6c4b8488df29e014b6bac57889ba", func := "gusset/gussetlaw12.VecsSpace", spec := "vecsSpace", inPlace := ["math/bits.Add64", "math/bits.Sub64", "internal/abi.NoEscape", "internal/bytealg.MakeNoZero"], unfollowed := true, recurses := true, named := ["math/bits.divideError", "math/bits.overflowError", "internal/strconv.uint64pow10", "math/bits.deBruijn32tab", "math/bits.deBruijn64tab"], apart := false, laid := [("math/bits.deBruijn32tab", laid_math_bits_deBruijn32tab), ("math/bits.deBruijn64tab", laid_math_bits_deBruijn64tab), ("internal/strconv.uint64pow10", laid_internal_strconv_uint64pow10)], narrowed := true }
def VecsSpaceUptoSaid : Prop := vecsSpaceUptoRow.holds Tryz.pinned (OpenSpec.upto vecsSpaceSpec)

/-- 'gussetlaw12.VecsCauchy', WHERE WHAT IT READS IS OF BULK AT MOST 1048576: true; the input reads as it did. -/
def vecsCauchyUptoRow : OpenClaim := { program := "ytoahpkelajimfaagreatdoor", sum := "3225dc3f119834d0efda66a414a31c1a3efe6c4b8488df29e014b6bac57889ba", func := "gusset/gussetlaw12.VecsCauchy", spec := "vecsCauchy", inPlace := ["math/bits.Add64", "math/bits.Sub64", "internal/abi.NoEscape", "internal/bytealg.MakeNoZero"], unfollowed := true, recurses := true, named := ["math/bits.divideError", "math/bits.overflowError", "internal/strconv.uint64pow10", "math/bits.deBruijn32tab", "math/bits.deBruijn64tab"], apart := false, laid := [("math/bits.deBruijn32tab", laid_math_bits_deBruijn32tab), ("math/bits.deBruijn64tab", laid_math_bits_deBruijn64tab), ("internal/strconv.uint64pow10", laid_internal_strconv_uint64pow10)], narrowed := true }
def VecsCauchyUptoSaid : Prop := vecsCauchyUptoRow.holds Tryz.pinned (OpenSpec.upto vecsCauchySpec)

/-- 'gussetlaw12.VecsSizes', WHERE WHAT IT READS IS OF BULK AT MOST 1048576: true; the input reads as it did. -/
def vecsSizesUptoRow : OpenClaim := { program := "ytoahpkelajimfaagreatdoor", sum := "3225dc3f119834d0efda66a414a31c1a3efe6c4b8488df29e014b6bac57889ba", func := "gusset/gussetlaw12.VecsSizes", spec := "vecsSizes", inPlace := ["math/bits.Add64", "math/bits.Sub64", "internal/abi.NoEscape", "internal/bytealg.MakeNoZero"], unfollowed := true, recurses := true, named := ["math/bits.divideError", "math/bits.overflowError", "internal/strconv.uint64pow10", "math/bits.deBruijn32tab", "math/bits.deBruijn64tab"], apart := false, laid := [("math/bits.deBruijn32tab", laid_math_bits_deBruijn32tab), ("math/bits.deBruijn64tab", laid_math_bits_deBruijn64tab), ("internal/strconv.uint64pow10", laid_internal_strconv_uint64pow10)], narrowed := true }
def VecsSizesUptoSaid : Prop := vecsSizesUptoRow.holds Tryz.pinned (OpenSpec.upto vecsSizesSpec)

/-- 'gussetlaw12.VecsUnits', WHERE WHAT IT READS IS OF BULK AT MOST 1048576: true; the input reads as it did. -/
def vecsUnitsUptoRow : OpenClaim := { program := "ytoahpkelajimfaagreatdoor", sum := "3225dc3f119834d0efda66a414a31c1a3efe6c4b8488df29e014b6bac57889ba", func := "gusset/gussetlaw12.VecsUnits", spec := "vecsUnits", inPlace := ["math/bits.Add64", "math/bits.Sub64", "internal/abi.NoEscape", "internal/bytealg.MakeNoZero"], unfollowed := true, recurses := true, named := ["math/bits.divideError", "math/bits.overflowError", "internal/strconv.uint64pow10", "math/bits.deBruijn32tab", "math/bits.deBruijn64tab"], apart := false, laid := [("math/bits.deBruijn32tab", laid_math_bits_deBruijn32tab), ("math/bits.deBruijn64tab", laid_math_bits_deBruijn64tab), ("internal/strconv.uint64pow10", laid_internal_strconv_uint64pow10)], narrowed := true }
def VecsUnitsUptoSaid : Prop := vecsUnitsUptoRow.holds Tryz.pinned (OpenSpec.upto vecsUnitsSpec)

/-- 'gussetlaw12.VecsErrors', WHERE WHAT IT READS IS OF BULK AT MOST 1048576: true; the input reads as it did. -/
def vecsErrorsUptoRow : OpenClaim := { program := "ytoahpkelajimfaagreatdoor", sum := "3225dc3f119834d0efda66a414a31c1a3efe6c4b8488df29e014b6bac57889ba", func := "gusset/gussetlaw12.VecsErrors", spec := "vecsErrors", inPlace := ["math/bits.Add64", "math/bits.Sub64", "internal/abi.NoEscape", "internal/bytealg.MakeNoZero"], unfollowed := true, recurses := true, named := ["math/bits.divideError", "math/bits.overflowError", "internal/strconv.uint64pow10", "math/bits.deBruijn32tab", "math/bits.deBruijn64tab"], apart := false, laid := [("math/bits.deBruijn32tab", laid_math_bits_deBruijn32tab), ("math/bits.deBruijn64tab", laid_math_bits_deBruijn64tab), ("internal/strconv.uint64pow10", laid_internal_strconv_uint64pow10)], narrowed := true }
def VecsErrorsUptoSaid : Prop := vecsErrorsUptoRow.holds Tryz.pinned (OpenSpec.upto vecsErrorsSpec)

/-- 'gussetlaw12.VecsKeeps', WHERE WHAT IT READS IS OF BULK AT MOST 1048576: true; the input reads as it did. -/
def vecsKeepsUptoRow : OpenClaim := { program := "ytoahpkelajimfaagreatdoor", sum := "3225dc3f119834d0efda66a414a31c1a3efe6c4b8488df29e014b6bac57889ba", func := "gusset/gussetlaw12.VecsKeeps", spec := "vecsKeeps", inPlace := ["math/bits.Add64", "math/bits.Sub64", "internal/abi.NoEscape", "internal/bytealg.MakeNoZero"], unfollowed := true, recurses := true, named := ["math/bits.divideError", "math/bits.overflowError", "internal/strconv.uint64pow10", "math/bits.deBruijn32tab", "math/bits.deBruijn64tab"], apart := false, laid := [("math/bits.deBruijn32tab", laid_math_bits_deBruijn32tab), ("math/bits.deBruijn64tab", laid_math_bits_deBruijn64tab), ("internal/strconv.uint64pow10", laid_internal_strconv_uint64pow10)], narrowed := true }
def VecsKeepsUptoSaid : Prop := vecsKeepsUptoRow.holds Tryz.pinned (OpenSpec.upto vecsKeepsSpec)

/-- 'gussetlaw12.VecsKnown', WHERE WHAT IT READS IS OF BULK AT MOST 1048576: true; the input reads as it did. -/
def vecsKnownUptoRow : OpenClaim := { program := "ytoahpkelajimfaagreatdoor", sum := "3225dc3f119834d0efda66a414a31c1a3efe6c4b8488df29e014b6bac57889ba", func := "gusset/gussetlaw12.VecsKnown", spec := "vecsKnown", inPlace := ["math/bits.Add64", "math/bits.Sub64", "internal/abi.NoEscape", "internal/bytealg.MakeNoZero"], unfollowed := true, recurses := true, named := ["math/bits.divideError", "math/bits.overflowError", "internal/strconv.uint64pow10", "math/bits.deBruijn32tab", "math/bits.deBruijn64tab"], apart := false, laid := [("math/bits.deBruijn32tab", laid_math_bits_deBruijn32tab), ("math/bits.deBruijn64tab", laid_math_bits_deBruijn64tab), ("internal/strconv.uint64pow10", laid_internal_strconv_uint64pow10)], narrowed := true }
def VecsKnownUptoSaid : Prop := vecsKnownUptoRow.holds Tryz.pinned (OpenSpec.upto vecsKnownSpec)

end Rows
end Go.Proofs.YtoahpkelajimfaaGreatDoor
