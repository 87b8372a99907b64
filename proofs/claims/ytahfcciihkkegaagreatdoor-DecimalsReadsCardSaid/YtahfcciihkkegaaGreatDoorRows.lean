/-
  NARROWER THAN 'FOR EVERY INPUT', by the rows' own cells (each row's printed sentence says how): DecimalsTexts: laid · DecimalsReads: laid · DecimalsCycle: laid · DecimalsBetween: laid · DecimalsBack: laid · DecimalsTurned: laid · DecimalsRounds: laid · DecimalsKnown: laid.
  DERIVED. THE GIVEN ROWS OF THIS SEAT. 8 by the template 'for every input the law returns true; each argument reads behind the call as it read before'; 0 by the template 'total and deterministic' (their statements: YtahfcciihkkegaaGreatDoorTotals.lean).
  GIVEN WITH THE SEED: the statements are not yours to turn. If you find one false, say at which input.
  Laid BY PROGRAM, IN A SANDBOX (cutbox-rows.mjs): the forced cells as the released guide's own fill.sh prints them over the translation b20aa1bea2766409… (all of the seat's roots in one cut). By AI agents, Wed Nov 11 2026. No macro, syntax, notation, axiom, sorry.
-/
import Derived.Test.YtahfcciihkkegaaGreatDoorChecked
import GoSem.Claim
import GoSem.ClaimJoined
import GoSem.ClaimMapViews
import Derived.JoinedTies
import Derived.KernelRfl
namespace Go.Proofs.YtahfcciihkkegaaGreatDoor
/- THE CELL 'sum', in the pinned program and in every row, IS THE sha256 OF THE DUMP (.gsa) THAT YtahfcciihkkegaaGreatDoorProg.lean LOADS. Nothing in Lean hashes anything: it is a label: what it is worth is what the hold of that sum in a sandbox is worth. -/
noncomputable def Tryz.pinned : Pinned := { name := "ytahfcciihkkegaagreatdoor", sum := "b20aa1bea27664096f1c5eae7310ae1e8be274fc7c9add4b95ce9e9b14b6d209", checked := Tryz.checked }
namespace Rows
def none {H : Type} : Left H := { results := [], args := [] }

/- WHAT THE LISTED PACKAGE-LEVEL VARIABLES READ AS WHEN THE CALL BEGINS. Each datum BY PROGRAM (the guide's laid-datum.mjs) off the statement by which the dump's own 'gosem.cut.vars' lays the variable. In a bare row this is a premise. The card (YtahfcciihkkegaaGreatDoorCards.lean) ties it to the program's text. -/
def laid_math_bits_deBruijn32tab {H : Type} : DataW H := .agg [.lit (.int .u8 0), .lit (.int .u8 1), .lit (.int .u8 28), .lit (.int .u8 2), .lit (.int .u8 29), .lit (.int .u8 14), .lit (.int .u8 24), .lit (.int .u8 3), .lit (.int .u8 30), .lit (.int .u8 22), .lit (.int .u8 20), .lit (.int .u8 15), .lit (.int .u8 25), .lit (.int .u8 17), .lit (.int .u8 4), .lit (.int .u8 8), .lit (.int .u8 31), .lit (.int .u8 27), .lit (.int .u8 13), .lit (.int .u8 23), .lit (.int .u8 21), .lit (.int .u8 19), .lit (.int .u8 16), .lit (.int .u8 7), .lit (.int .u8 26), .lit (.int .u8 12), .lit (.int .u8 18), .lit (.int .u8 6), .lit (.int .u8 11), .lit (.int .u8 5), .lit (.int .u8 10), .lit (.int .u8 9)]
def laid_math_bits_deBruijn64tab {H : Type} : DataW H := .agg [.lit (.int .u8 0), .lit (.int .u8 1), .lit (.int .u8 56), .lit (.int .u8 2), .lit (.int .u8 57), .lit (.int .u8 49), .lit (.int .u8 28), .lit (.int .u8 3), .lit (.int .u8 61), .lit (.int .u8 58), .lit (.int .u8 42), .lit (.int .u8 50), .lit (.int .u8 38), .lit (.int .u8 29), .lit (.int .u8 17), .lit (.int .u8 4), .lit (.int .u8 62), .lit (.int .u8 47), .lit (.int .u8 59), .lit (.int .u8 36), .lit (.int .u8 45), .lit (.int .u8 43), .lit (.int .u8 51), .lit (.int .u8 22), .lit (.int .u8 53), .lit (.int .u8 39), .lit (.int .u8 33), .lit (.int .u8 30), .lit (.int .u8 24), .lit (.int .u8 18), .lit (.int .u8 12), .lit (.int .u8 5), .lit (.int .u8 63), .lit (.int .u8 55), .lit (.int .u8 48), .lit (.int .u8 27), .lit (.int .u8 60), .lit (.int .u8 41), .lit (.int .u8 37), .lit (.int .u8 16), .lit (.int .u8 46), .lit (.int .u8 35), .lit (.int .u8 44), .lit (.int .u8 21), .lit (.int .u8 52), .lit (.int .u8 32), .lit (.int .u8 23), .lit (.int .u8 11), .lit (.int .u8 54), .lit (.int .u8 26), .lit (.int .u8 40), .lit (.int .u8 15), .lit (.int .u8 34), .lit (.int .u8 20), .lit (.int .u8 31), .lit (.int .u8 10), .lit (.int .u8 25), .lit (.int .u8 14), .lit (.int .u8 19), .lit (.int .u8 9), .lit (.int .u8 13), .lit (.int .u8 8), .lit (.int .u8 7), .lit (.int .u8 6)]
def laid_internal_strconv_uint64pow10 {H : Type} : DataW H := .agg [.lit (.int .u64 1), .lit (.int .u64 10), .lit (.int .u64 100), .lit (.int .u64 1000), .lit (.int .u64 10000), .lit (.int .u64 100000), .lit (.int .u64 1000000), .lit (.int .u64 10000000), .lit (.int .u64 100000000), .lit (.int .u64 1000000000), .lit (.int .u64 10000000000), .lit (.int .u64 100000000000), .lit (.int .u64 1000000000000), .lit (.int .u64 10000000000000), .lit (.int .u64 100000000000000), .lit (.int .u64 1000000000000000), .lit (.int .u64 10000000000000000), .lit (.int .u64 100000000000000000), .lit (.int .u64 1000000000000000000), .lit (.int .u64 10000000000000000000)]

/-- 'gussetlaw04.DecimalsTexts': WHATEVER THE INPUT: true; the input reads as it did. -/
def decimalsTextsSpec : ChangeSpec := { name := "decimalsTexts", fn := fun _ => fun
  | [d1, d2, d3] => { results := [.lit (.bool true)], args := [d1, d2, d3] }
  | _ => none }
def decimalsTextsRow : OpenClaim := { program := "ytahfcciihkkegaagreatdoor", sum := "b20aa1bea27664096f1c5eae7310ae1e8be274fc7c9add4b95ce9e9b14b6d209", func := "gusset/gussetlaw04.DecimalsTexts", spec := "decimalsTexts", inPlace := ["math/bits.Add64", "math/bits.Sub64", "internal/abi.NoEscape", "internal/bytealg.MakeNoZero", "internal/bytealg.IndexByteString", "internal/bytealg.IndexString"], unfollowed := true, recurses := true, named := ["math/bits.divideError", "math/bits.overflowError", "internal/strconv.uint64pow10", "math/bits.deBruijn32tab", "math/bits.deBruijn64tab", "internal/bytealg.MaxLen"], apart := false, laid := [("math/bits.deBruijn32tab", laid_math_bits_deBruijn32tab), ("math/bits.deBruijn64tab", laid_math_bits_deBruijn64tab), ("internal/strconv.uint64pow10", laid_internal_strconv_uint64pow10)] }
def DecimalsTextsSaid : Prop := decimalsTextsRow.holds Tryz.pinned (OpenSpec.ofChange decimalsTextsSpec)

/-- ITS FALSE NEIGHBOUR: 'it returns false'. Refute it at one input. -/
def decimalsTextsWrong : ChangeSpec := { name := "decimalsTexts", fn := fun _ => fun
  | [d1, d2, d3] => { results := [.lit (.bool false)], args := [d1, d2, d3] }
  | _ => none }
def DecimalsTextsWrongFalsely : Prop := decimalsTextsRow.holds Tryz.pinned (OpenSpec.ofChange decimalsTextsWrong)

/-- 'gussetlaw04.DecimalsReads': WHATEVER THE INPUT: true; the input reads as it did. -/
def decimalsReadsSpec : ChangeSpec := { name := "decimalsReads", fn := fun _ => fun
  | [d] => { results := [.lit (.bool true)], args := [d] }
  | _ => none }
def decimalsReadsRow : OpenClaim := { program := "ytahfcciihkkegaagreatdoor", sum := "b20aa1bea27664096f1c5eae7310ae1e8be274fc7c9add4b95ce9e9b14b6d209", func := "gusset/gussetlaw04.DecimalsReads", spec := "decimalsReads", inPlace := ["internal/bytealg.IndexByteString", "internal/bytealg.IndexString", "math/bits.Add64", "math/bits.Sub64", "internal/abi.NoEscape", "internal/bytealg.MakeNoZero"], unfollowed := true, recurses := true, named := ["internal/bytealg.MaxLen", "math/bits.divideError", "math/bits.overflowError", "internal/strconv.uint64pow10", "math/bits.deBruijn32tab", "math/bits.deBruijn64tab"], apart := false, laid := [("math/bits.deBruijn32tab", laid_math_bits_deBruijn32tab), ("math/bits.deBruijn64tab", laid_math_bits_deBruijn64tab), ("internal/strconv.uint64pow10", laid_internal_strconv_uint64pow10)] }
def DecimalsReadsSaid : Prop := decimalsReadsRow.holds Tryz.pinned (OpenSpec.ofChange decimalsReadsSpec)

/-- ITS FALSE NEIGHBOUR: 'it returns false'. Refute it at one input. -/
def decimalsReadsWrong : ChangeSpec := { name := "decimalsReads", fn := fun _ => fun
  | [d] => { results := [.lit (.bool false)], args := [d] }
  | _ => none }
def DecimalsReadsWrongFalsely : Prop := decimalsReadsRow.holds Tryz.pinned (OpenSpec.ofChange decimalsReadsWrong)

/-- 'gussetlaw04.DecimalsCycle': WHATEVER THE INPUT: true; the input reads as it did. -/
def decimalsCycleSpec : ChangeSpec := { name := "decimalsCycle", fn := fun _ => fun
  | [d] => { results := [.lit (.bool true)], args := [d] }
  | _ => none }
def decimalsCycleRow : OpenClaim := { program := "ytahfcciihkkegaagreatdoor", sum := "b20aa1bea27664096f1c5eae7310ae1e8be274fc7c9add4b95ce9e9b14b6d209", func := "gusset/gussetlaw04.DecimalsCycle", spec := "decimalsCycle", inPlace := ["math/bits.Add64", "math/bits.Sub64", "internal/abi.NoEscape", "internal/bytealg.MakeNoZero", "internal/bytealg.IndexByteString", "internal/bytealg.IndexString"], unfollowed := true, recurses := true, named := ["math/bits.divideError", "math/bits.overflowError", "internal/strconv.uint64pow10", "math/bits.deBruijn32tab", "math/bits.deBruijn64tab", "internal/bytealg.MaxLen"], apart := false, laid := [("math/bits.deBruijn32tab", laid_math_bits_deBruijn32tab), ("math/bits.deBruijn64tab", laid_math_bits_deBruijn64tab), ("internal/strconv.uint64pow10", laid_internal_strconv_uint64pow10)] }
def DecimalsCycleSaid : Prop := decimalsCycleRow.holds Tryz.pinned (OpenSpec.ofChange decimalsCycleSpec)

/-- ITS FALSE NEIGHBOUR: 'it returns false'. Refute it at one input. -/
def decimalsCycleWrong : ChangeSpec := { name := "decimalsCycle", fn := fun _ => fun
  | [d] => { results := [.lit (.bool false)], args := [d] }
  | _ => none }
def DecimalsCycleWrongFalsely : Prop := decimalsCycleRow.holds Tryz.pinned (OpenSpec.ofChange decimalsCycleWrong)

/-- 'gussetlaw04.DecimalsBetween': WHATEVER THE INPUT: true; the input reads as it did. -/
def decimalsBetweenSpec : ChangeSpec := { name := "decimalsBetween", fn := fun _ => fun
  | [d1, d2] => { results := [.lit (.bool true)], args := [d1, d2] }
  | _ => none }
def decimalsBetweenRow : OpenClaim := { program := "ytahfcciihkkegaagreatdoor", sum := "b20aa1bea27664096f1c5eae7310ae1e8be274fc7c9add4b95ce9e9b14b6d209", func := "gusset/gussetlaw04.DecimalsBetween", spec := "decimalsBetween", inPlace := ["math/bits.Add64", "math/bits.Sub64", "internal/abi.NoEscape", "internal/bytealg.MakeNoZero", "internal/bytealg.IndexByteString", "internal/bytealg.IndexString"], unfollowed := true, recurses := true, named := ["math/bits.divideError", "math/bits.overflowError", "internal/strconv.uint64pow10", "math/bits.deBruijn32tab", "math/bits.deBruijn64tab", "internal/bytealg.MaxLen"], apart := false, laid := [("math/bits.deBruijn32tab", laid_math_bits_deBruijn32tab), ("math/bits.deBruijn64tab", laid_math_bits_deBruijn64tab), ("internal/strconv.uint64pow10", laid_internal_strconv_uint64pow10)] }
def DecimalsBetweenSaid : Prop := decimalsBetweenRow.holds Tryz.pinned (OpenSpec.ofChange decimalsBetweenSpec)

/-- ITS FALSE NEIGHBOUR: 'it returns false'. Refute it at one input. -/
def decimalsBetweenWrong : ChangeSpec := { name := "decimalsBetween", fn := fun _ => fun
  | [d1, d2] => { results := [.lit (.bool false)], args := [d1, d2] }
  | _ => none }
def DecimalsBetweenWrongFalsely : Prop := decimalsBetweenRow.holds Tryz.pinned (OpenSpec.ofChange decimalsBetweenWrong)

/-- 'gussetlaw04.DecimalsBack': WHATEVER THE INPUT: true; the input reads as it did. -/
def decimalsBackSpec : ChangeSpec := { name := "decimalsBack", fn := fun _ => fun
  | [d1, d2, d3] => { results := [.lit (.bool true)], args := [d1, d2, d3] }
  | _ => none }
def decimalsBackRow : OpenClaim := { program := "ytahfcciihkkegaagreatdoor", sum := "b20aa1bea27664096f1c5eae7310ae1e8be274fc7c9add4b95ce9e9b14b6d209", func := "gusset/gussetlaw04.DecimalsBack", spec := "decimalsBack", inPlace := ["math/bits.Add64", "math/bits.Sub64", "internal/abi.NoEscape", "internal/bytealg.MakeNoZero", "internal/bytealg.IndexByteString", "internal/bytealg.IndexString"], unfollowed := true, recurses := true, named := ["math/bits.divideError", "math/bits.overflowError", "internal/strconv.uint64pow10", "math/bits.deBruijn32tab", "math/bits.deBruijn64tab", "internal/bytealg.MaxLen"], apart := false, laid := [("math/bits.deBruijn32tab", laid_math_bits_deBruijn32tab), ("math/bits.deBruijn64tab", laid_math_bits_deBruijn64tab), ("internal/strconv.uint64pow10", laid_internal_strconv_uint64pow10)] }
def DecimalsBackSaid : Prop := decimalsBackRow.holds Tryz.pinned (OpenSpec.ofChange decimalsBackSpec)

/-- ITS FALSE NEIGHBOUR: 'it returns false'. Refute it at one input. -/
def decimalsBackWrong : ChangeSpec := { name := "decimalsBack", fn := fun _ => fun
  | [d1, d2, d3] => { results := [.lit (.bool false)], args := [d1, d2, d3] }
  | _ => none }
def DecimalsBackWrongFalsely : Prop := decimalsBackRow.holds Tryz.pinned (OpenSpec.ofChange decimalsBackWrong)

/-- 'gussetlaw04.DecimalsTurned': WHATEVER THE INPUT: true; the input reads as it did. -/
def decimalsTurnedSpec : ChangeSpec := { name := "decimalsTurned", fn := fun _ => fun
  | [d1, d2, d3, d4] => { results := [.lit (.bool true)], args := [d1, d2, d3, d4] }
  | _ => none }
def decimalsTurnedRow : OpenClaim := { program := "ytahfcciihkkegaagreatdoor", sum := "b20aa1bea27664096f1c5eae7310ae1e8be274fc7c9add4b95ce9e9b14b6d209", func := "gusset/gussetlaw04.DecimalsTurned", spec := "decimalsTurned", inPlace := ["math/bits.Add64", "math/bits.Sub64", "internal/abi.NoEscape", "internal/bytealg.MakeNoZero", "internal/bytealg.IndexByteString", "internal/bytealg.IndexString"], unfollowed := true, recurses := true, named := ["math/bits.divideError", "math/bits.overflowError", "internal/strconv.uint64pow10", "math/bits.deBruijn32tab", "math/bits.deBruijn64tab", "internal/bytealg.MaxLen"], apart := false, laid := [("math/bits.deBruijn32tab", laid_math_bits_deBruijn32tab), ("math/bits.deBruijn64tab", laid_math_bits_deBruijn64tab), ("internal/strconv.uint64pow10", laid_internal_strconv_uint64pow10)] }
def DecimalsTurnedSaid : Prop := decimalsTurnedRow.holds Tryz.pinned (OpenSpec.ofChange decimalsTurnedSpec)

/-- ITS FALSE NEIGHBOUR: 'it returns false'. Refute it at one input. -/
def decimalsTurnedWrong : ChangeSpec := { name := "decimalsTurned", fn := fun _ => fun
  | [d1, d2, d3, d4] => { results := [.lit (.bool false)], args := [d1, d2, d3, d4] }
  | _ => none }
def DecimalsTurnedWrongFalsely : Prop := decimalsTurnedRow.holds Tryz.pinned (OpenSpec.ofChange decimalsTurnedWrong)

/-- 'gussetlaw04.DecimalsRounds': WHATEVER THE INPUT: true; the input reads as it did. -/
def decimalsRoundsSpec : ChangeSpec := { name := "decimalsRounds", fn := fun _ => fun
  | [d1, d2] => { results := [.lit (.bool true)], args := [d1, d2] }
  | _ => none }
def decimalsRoundsRow : OpenClaim := { program := "ytahfcciihkkegaagreatdoor", sum := "b20aa1bea27664096f1c5eae7310ae1e8be274fc7c9add4b95ce9e9b14b6d209", func := "gusset/gussetlaw04.DecimalsRounds", spec := "decimalsRounds", inPlace := ["math/bits.Add64", "math/bits.Sub64", "internal/abi.NoEscape", "internal/bytealg.MakeNoZero", "internal/bytealg.IndexByteString", "internal/bytealg.IndexString"], unfollowed := true, recurses := true, named := ["math/bits.divideError", "math/bits.overflowError", "internal/strconv.uint64pow10", "math/bits.deBruijn32tab", "math/bits.deBruijn64tab", "internal/bytealg.MaxLen"], apart := false, laid := [("math/bits.deBruijn32tab", laid_math_bits_deBruijn32tab), ("math/bits.deBruijn64tab", laid_math_bits_deBruijn64tab), ("internal/strconv.uint64pow10", laid_internal_strconv_uint64pow10)] }
def DecimalsRoundsSaid : Prop := decimalsRoundsRow.holds Tryz.pinned (OpenSpec.ofChange decimalsRoundsSpec)

/-- ITS FALSE NEIGHBOUR: 'it returns false'. Refute it at one input. -/
def decimalsRoundsWrong : ChangeSpec := { name := "decimalsRounds", fn := fun _ => fun
  | [d1, d2] => { results := [.lit (.bool false)], args := [d1, d2] }
  | _ => none }
def DecimalsRoundsWrongFalsely : Prop := decimalsRoundsRow.holds Tryz.pinned (OpenSpec.ofChange decimalsRoundsWrong)

/-- 'gussetlaw04.DecimalsKnown': WHATEVER THE INPUT: true; the input reads as it did. -/
def decimalsKnownSpec : ChangeSpec := { name := "decimalsKnown", fn := fun _ => fun
  | [] => { results := [.lit (.bool true)], args := [] }
  | _ => none }
def decimalsKnownRow : OpenClaim := { program := "ytahfcciihkkegaagreatdoor", sum := "b20aa1bea27664096f1c5eae7310ae1e8be274fc7c9add4b95ce9e9b14b6d209", func := "gusset/gussetlaw04.DecimalsKnown", spec := "decimalsKnown", inPlace := ["math/bits.Add64", "math/bits.Sub64", "internal/abi.NoEscape", "internal/bytealg.MakeNoZero", "internal/bytealg.IndexByteString", "internal/bytealg.IndexString"], unfollowed := true, recurses := true, named := ["math/bits.divideError", "math/bits.overflowError", "internal/strconv.uint64pow10", "math/bits.deBruijn32tab", "math/bits.deBruijn64tab", "internal/bytealg.MaxLen"], apart := false, laid := [("math/bits.deBruijn32tab", laid_math_bits_deBruijn32tab), ("math/bits.deBruijn64tab", laid_math_bits_deBruijn64tab), ("internal/strconv.uint64pow10", laid_internal_strconv_uint64pow10)] }
def DecimalsKnownSaid : Prop := decimalsKnownRow.holds Tryz.pinned (OpenSpec.ofChange decimalsKnownSpec)

/-- ITS FALSE NEIGHBOUR: 'it returns false'. Refute it at one input. -/
def decimalsKnownWrong : ChangeSpec := { name := "decimalsKnown", fn := fun _ => fun
  | [] => { results := [.lit (.bool false)], args := [] }
  | _ => none }
def DecimalsKnownWrongFalsely : Prop := decimalsKnownRow.holds Tryz.pinned (OpenSpec.ofChange decimalsKnownWrong)

/- THE SECOND FORM. 'bulk': how many values and letters a reading holds, each counted each time it is reached (what is shared counts as often as it is met; a slice's spare places count too). A statement '..UptoSaid' is the law's where the arguments, and the package variables that the reading takes, are together of bulk at most 1048576: NARROWER than '..Said'. Prove '..Said' where nothing that the law and all that it calls make is longer than what came in: it says more and counts as full. Else prove '..UptoSaid'. A law counts once. -/
mutual
def uptoBulk {H : Type} : DataW H → Nat
  | .lit (.string bytes) => bytes.length + 1
  | .lit _ => 1
  | .nil => 1
  | .ptr d => uptoBulk d + 1
  | .slice elems spare => uptoBulkAll elems + uptoBulkAll spare + 1
  | .agg parts => uptoBulkAll parts + 1
  | .iface _ d => uptoBulk d + 1
  | .map entries => uptoBulkEntries entries + 1
  | .held _ => 1
def uptoBulkAll {H : Type} : List (DataW H) → Nat
  | [] => 0
  | d :: r => uptoBulk d + uptoBulkAll r
def uptoBulkEntries {H : Type} : List (Lit × DataW H) → Nat
  | [] => 0
  | x :: r => uptoBulkEntry x + uptoBulkEntries r
def uptoBulkEntry {H : Type} : Lit × DataW H → Nat
  | (.string bytes, d) => bytes.length + uptoBulk d + 1
  | (_, d) => uptoBulk d + 1
 end
def uptoSmall : (H : Type) → List (DataW H) → Bool := fun _ ds => decide (uptoBulkAll ds ≤ 1048576)
def OpenSpec.upto (s : _root_.Go.ChangeSpec) : _root_.Go.OpenSpec := { _root_.Go.OpenSpec.ofChange s with cond := some uptoSmall }

/-- 'gussetlaw04.DecimalsTexts', WHERE WHAT IT READS IS OF BULK AT MOST 1048576: true; the input reads as it did. -/
def decimalsTextsUptoRow : OpenClaim := { program := "ytahfcciihkkegaagreatdoor", sum := "b20aa1bea27664096f1c5eae7310ae1e8be274fc7c9add4b95ce9e9b14b6d209", func := "gusset/gussetlaw04.DecimalsTexts", spec := "decimalsTexts", inPlace := ["math/bits.Add64", "math/bits.Sub64", "internal/abi.NoEscape", "internal/bytealg.MakeNoZero", "internal/bytealg.IndexByteString", "internal/bytealg.IndexString"], unfollowed := true, recurses := true, named := ["math/bits.divideError", "math/bits.overflowError", "internal/strconv.uint64pow10", "math/bits.deBruijn32tab", "math/bits.deBruijn64tab", "internal/bytealg.MaxLen"], apart := false, laid := [("math/bits.deBruijn32tab", laid_math_bits_deBruijn32tab), ("math/bits.deBruijn64tab", laid_math_bits_deBruijn64tab), ("internal/strconv.uint64pow10", laid_internal_strconv_uint64pow10)], narrowed := true }
def DecimalsTextsUptoSaid : Prop := decimalsTextsUptoRow.holds Tryz.pinned (OpenSpec.upto decimalsTextsSpec)

/-- 'gussetlaw04.DecimalsReads', WHERE WHAT IT READS IS OF BULK AT MOST 1048576: true; the input reads as it did. -/
def decimalsReadsUptoRow : OpenClaim := { program := "ytahfcciihkkegaagreatdoor", sum := "b20aa1bea27664096f1c5eae7310ae1e8be274fc7c9add4b95ce9e9b14b6d209", func := "gusset/gussetlaw04.DecimalsReads", spec := "decimalsReads", inPlace := ["internal/bytealg.IndexByteString", "internal/bytealg.IndexString", "math/bits.Add64", "math/bits.Sub64", "internal/abi.NoEscape", "internal/bytealg.MakeNoZero"], unfollowed := true, recurses := true, named := ["internal/bytealg.MaxLen", "math/bits.divideError", "math/bits.overflowError", "internal/strconv.uint64pow10", "math/bits.deBruijn32tab", "math/bits.deBruijn64tab"], apart := false, laid := [("math/bits.deBruijn32tab", laid_math_bits_deBruijn32tab), ("math/bits.deBruijn64tab", laid_math_bits_deBruijn64tab), ("internal/strconv.uint64pow10", laid_internal_strconv_uint64pow10)], narrowed := true }
def DecimalsReadsUptoSaid : Prop := decimalsReadsUptoRow.holds Tryz.pinned (OpenSpec.upto decimalsReadsSpec)

/-- 'gussetlaw04.DecimalsCycle', WHERE WHAT IT READS IS OF BULK AT MOST 1048576: true; the input reads as it did. -/
def decimalsCycleUptoRow : OpenClaim := { program := "ytahfcciihkkegaagreatdoor", sum := "b20aa1bea27664096f1c5eae7310ae1e8be274fc7c9add4b95ce9e9b14b6d209", func := "gusset/gussetlaw04.DecimalsCycle", spec := "decimalsCycle", inPlace := ["math/bits.Add64", "math/bits.Sub64", "internal/abi.NoEscape", "internal/bytealg.MakeNoZero", "internal/bytealg.IndexByteString", "internal/bytealg.IndexString"], unfollowed := true, recurses := true, named := ["math/bits.divideError", "math/bits.overflowError", "internal/strconv.uint64pow10", "math/bits.deBruijn32tab", "math/bits.deBruijn64tab", "internal/bytealg.MaxLen"], apart := false, laid := [("math/bits.deBruijn32tab", laid_math_bits_deBruijn32tab), ("math/bits.deBruijn64tab", laid_math_bits_deBruijn64tab), ("internal/strconv.uint64pow10", laid_internal_strconv_uint64pow10)], narrowed := true }
def DecimalsCycleUptoSaid : Prop := decimalsCycleUptoRow.holds Tryz.pinned (OpenSpec.upto decimalsCycleSpec)

/-- 'gussetlaw04.DecimalsBetween', WHERE WHAT IT READS IS OF BULK AT MOST 1048576: true; the input reads as it did. -/
def decimalsBetweenUptoRow : OpenClaim := { program := "ytahfcciihkkegaagreatdoor", sum := "b20aa1bea27664096f1c5eae7310ae1e8be274fc7c9add4b95ce9e9b14b6d209", func := "gusset/gussetlaw04.DecimalsBetween", spec := "decimalsBetween", inPlace := ["math/bits.Add64", "math/bits.Sub64", "internal/abi.NoEscape", "internal/bytealg.MakeNoZero", "internal/bytealg.IndexByteString", "internal/bytealg.IndexString"], unfollowed := true, recurses := true, named := ["math/bits.divideError", "math/bits.overflowError", "internal/strconv.uint64pow10", "math/bits.deBruijn32tab", "math/bits.deBruijn64tab", "internal/bytealg.MaxLen"], apart := false, laid := [("math/bits.deBruijn32tab", laid_math_bits_deBruijn32tab), ("math/bits.deBruijn64tab", laid_math_bits_deBruijn64tab), ("internal/strconv.uint64pow10", laid_internal_strconv_uint64pow10)], narrowed := true }
def DecimalsBetweenUptoSaid : Prop := decimalsBetweenUptoRow.holds Tryz.pinned (OpenSpec.upto decimalsBetweenSpec)

/-- 'gussetlaw04.DecimalsBack', WHERE WHAT IT READS IS OF BULK AT MOST 1048576: true; the input reads as it did. -/
def decimalsBackUptoRow : OpenClaim := { program := "ytahfcciihkkegaagreatdoor", sum := "b20aa1bea27664096f1c5eae7310ae1e8be274fc7c9add4b95ce9e9b14b6d209", func := "gusset/gussetlaw04.DecimalsBack", spec := "decimalsBack", inPlace := ["math/bits.Add64", "math/bits.Sub64", "internal/abi.NoEscape", "internal/bytealg.MakeNoZero", "internal/bytealg.IndexByteString", "internal/bytealg.IndexString"], unfollowed := true, recurses := true, named := ["math/bits.divideError", "math/bits.overflowError", "internal/strconv.uint64pow10", "math/bits.deBruijn32tab", "math/bits.deBruijn64tab", "internal/bytealg.MaxLen"], apart := false, laid := [("math/bits.deBruijn32tab", laid_math_bits_deBruijn32tab), ("math/bits.deBruijn64tab", laid_math_bits_deBruijn64tab), ("internal/strconv.uint64pow10", laid_internal_strconv_uint64pow10)], narrowed := true }
def DecimalsBackUptoSaid : Prop := decimalsBackUptoRow.holds Tryz.pinned (OpenSpec.upto decimalsBackSpec)

/-- 'gussetlaw04.DecimalsTurned', WHERE WHAT IT READS IS OF BULK AT MOST 1048576: true; the input reads as it did. -/
def decimalsTurnedUptoRow : OpenClaim := { program := "ytahfcciihkkegaagreatdoor", sum := "b20aa1bea27664096f1c5eae7310ae1e8be274fc7c9add4b95ce9e9b14b6d209", func := "gusset/gussetlaw04.DecimalsTurned", spec := "decimalsTurned", inPlace := ["math/bits.Add64", "math/bits.Sub64", "internal/abi.NoEscape", "internal/bytealg.MakeNoZero", "internal/bytealg.IndexByteString", "internal/bytealg.IndexString"], unfollowed := true, recurses := true, named := ["math/bits.divideError", "math/bits.overflowError", "internal/strconv.uint64pow10", "math/bits.deBruijn32tab", "math/bits.deBruijn64tab", "internal/bytealg.MaxLen"], apart := false, laid := [("math/bits.deBruijn32tab", laid_math_bits_deBruijn32tab), ("math/bits.deBruijn64tab", laid_math_bits_deBruijn64tab), ("internal/strconv.uint64pow10", laid_internal_strconv_uint64pow10)], narrowed := true }
def DecimalsTurnedUptoSaid : Prop := decimalsTurnedUptoRow.holds Tryz.pinned (OpenSpec.upto decimalsTurnedSpec)

/-- 'gussetlaw04.DecimalsRounds', WHERE WHAT IT READS IS OF BULK AT MOST 1048576: true; the input reads as it did. -/
def decimalsRoundsUptoRow : OpenClaim := { program := "ytahfcciihkkegaagreatdoor", sum := "b20aa1bea27664096f1c5eae7310ae1e8be274fc7c9add4b95ce9e9b14b6d209", func := "gusset/gussetlaw04.DecimalsRounds", spec := "decimalsRounds", inPlace := ["math/bits.Add64", "math/bits.Sub64", "internal/abi.NoEscape", "internal/bytealg.MakeNoZero", "internal/bytealg.IndexByteString", "internal/bytealg.IndexString"], unfollowed := true, recurses := true, named := ["math/bits.divideError", "math/bits.overflowError", "internal/strconv.uint64pow10", "math/bits.deBruijn32tab", "math/bits.deBruijn64tab", "internal/bytealg.MaxLen"], apart := false, laid := [("math/bits.deBruijn32tab", laid_math_bits_deBruijn32tab), ("math/bits.deBruijn64tab", laid_math_bits_deBruijn64tab), ("internal/strconv.uint64pow10", laid_internal_strconv_uint64pow10)], narrowed := true }
def DecimalsRoundsUptoSaid : Prop := decimalsRoundsUptoRow.holds Tryz.pinned (OpenSpec.upto decimalsRoundsSpec)

/-- 'gussetlaw04.DecimalsKnown', WHERE WHAT IT READS IS OF BULK AT MOST 1048576: true; the input reads as it did. -/
def decimalsKnownUptoRow : OpenClaim := { program := "ytahfcciihkkegaagreatdoor", sum := "b20aa1bea27664096f1c5eae7310ae1e8be274fc7c9add4b95ce9e9b14b6d209", func := "gusset/gussetlaw04.DecimalsKnown", spec := "decimalsKnown", inPlace := ["math/bits.Add64", "math/bits.Sub64", "internal/abi.NoEscape", "internal/bytealg.MakeNoZero", "internal/bytealg.IndexByteString", "internal/bytealg.IndexString"], unfollowed := true, recurses := true, named := ["math/bits.divideError", "math/bits.overflowError", "internal/strconv.uint64pow10", "math/bits.deBruijn32tab", "math/bits.deBruijn64tab", "internal/bytealg.MaxLen"], apart := false, laid := [("math/bits.deBruijn32tab", laid_math_bits_deBruijn32tab), ("math/bits.deBruijn64tab", laid_math_bits_deBruijn64tab), ("internal/strconv.uint64pow10", laid_internal_strconv_uint64pow10)], narrowed := true }
def DecimalsKnownUptoSaid : Prop := decimalsKnownUptoRow.holds Tryz.pinned (OpenSpec.upto decimalsKnownSpec)

end Rows
end Go.Proofs.YtahfcciihkkegaaGreatDoor
