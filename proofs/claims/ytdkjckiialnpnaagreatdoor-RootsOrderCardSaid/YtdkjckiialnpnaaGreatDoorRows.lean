/-
  NARROWER THAN 'FOR EVERY INPUT', by the rows' own cells (each row's printed sentence says how): DecimalsCycle: laid · DecimalsBetween: laid · DecimalsTurned: laid · DecimalsRounds: laid · RootsBoth: laid · RootsBetween: laid · RootsRefused: laid · RootsExact: laid · RootsRise: laid · RootsOrder: laid · ModsOf: laid · ModsKnown: laid.
  DERIVED. THE GIVEN ROWS OF THIS SEAT. 12 by the template 'for every input the law returns true; each argument reads behind the call as it read before'; 0 by the template 'total and deterministic' (their statements: YtdkjckiialnpnaaGreatDoorTotals.lean).
  GIVEN WITH THE SEED: the statements are not yours to turn. If you find one false, say at which input.
  Laid BY PROGRAM, IN A SANDBOX (cutbox-rows.mjs): the forced cells as the released guide's own fill.sh prints them over the translation 17a7208f6bebea83… (all of the seat's roots in one cut). By AI agents, Wed Nov 11 2026. No macro, syntax, notation, axiom, sorry.
-/
import Derived.Test.YtdkjckiialnpnaaGreatDoorChecked
import GoSem.Claim
import GoSem.ClaimJoined
import GoSem.ClaimMapViews
import Derived.JoinedTies
import Derived.KernelRfl
namespace Go.Proofs.YtdkjckiialnpnaaGreatDoor
/- THE CELL 'sum', in the pinned program and in every row, IS THE sha256 OF THE DUMP (.gsa) THAT YtdkjckiialnpnaaGreatDoorProg.lean LOADS. Nothing in Lean hashes anything: it is a label: what it is worth is what the hold of that sum in a sandbox is worth. -/
noncomputable def Tryz.pinned : Pinned := { name := "ytdkjckiialnpnaagreatdoor", sum := "17a7208f6bebea83931139a2b174e4b43b04894141de3694ba9e4424f0dce629", checked := Tryz.checked }
namespace Rows
def none {H : Type} : Left H := { results := [], args := [] }

/- WHAT THE LISTED PACKAGE-LEVEL VARIABLES READ AS WHEN THE CALL BEGINS. Each datum BY PROGRAM (the guide's laid-datum.mjs) off the statement by which the dump's own 'gosem.cut.vars' lays the variable. In a bare row this is a premise. The card (YtdkjckiialnpnaaGreatDoorCards.lean) ties it to the program's text. -/
def laid_math_bits_deBruijn32tab {H : Type} : DataW H := .agg [.lit (.int .u8 0), .lit (.int .u8 1), .lit (.int .u8 28), .lit (.int .u8 2), .lit (.int .u8 29), .lit (.int .u8 14), .lit (.int .u8 24), .lit (.int .u8 3), .lit (.int .u8 30), .lit (.int .u8 22), .lit (.int .u8 20), .lit (.int .u8 15), .lit (.int .u8 25), .lit (.int .u8 17), .lit (.int .u8 4), .lit (.int .u8 8), .lit (.int .u8 31), .lit (.int .u8 27), .lit (.int .u8 13), .lit (.int .u8 23), .lit (.int .u8 21), .lit (.int .u8 19), .lit (.int .u8 16), .lit (.int .u8 7), .lit (.int .u8 26), .lit (.int .u8 12), .lit (.int .u8 18), .lit (.int .u8 6), .lit (.int .u8 11), .lit (.int .u8 5), .lit (.int .u8 10), .lit (.int .u8 9)]
def laid_math_bits_deBruijn64tab {H : Type} : DataW H := .agg [.lit (.int .u8 0), .lit (.int .u8 1), .lit (.int .u8 56), .lit (.int .u8 2), .lit (.int .u8 57), .lit (.int .u8 49), .lit (.int .u8 28), .lit (.int .u8 3), .lit (.int .u8 61), .lit (.int .u8 58), .lit (.int .u8 42), .lit (.int .u8 50), .lit (.int .u8 38), .lit (.int .u8 29), .lit (.int .u8 17), .lit (.int .u8 4), .lit (.int .u8 62), .lit (.int .u8 47), .lit (.int .u8 59), .lit (.int .u8 36), .lit (.int .u8 45), .lit (.int .u8 43), .lit (.int .u8 51), .lit (.int .u8 22), .lit (.int .u8 53), .lit (.int .u8 39), .lit (.int .u8 33), .lit (.int .u8 30), .lit (.int .u8 24), .lit (.int .u8 18), .lit (.int .u8 12), .lit (.int .u8 5), .lit (.int .u8 63), .lit (.int .u8 55), .lit (.int .u8 48), .lit (.int .u8 27), .lit (.int .u8 60), .lit (.int .u8 41), .lit (.int .u8 37), .lit (.int .u8 16), .lit (.int .u8 46), .lit (.int .u8 35), .lit (.int .u8 44), .lit (.int .u8 21), .lit (.int .u8 52), .lit (.int .u8 32), .lit (.int .u8 23), .lit (.int .u8 11), .lit (.int .u8 54), .lit (.int .u8 26), .lit (.int .u8 40), .lit (.int .u8 15), .lit (.int .u8 34), .lit (.int .u8 20), .lit (.int .u8 31), .lit (.int .u8 10), .lit (.int .u8 25), .lit (.int .u8 14), .lit (.int .u8 19), .lit (.int .u8 9), .lit (.int .u8 13), .lit (.int .u8 8), .lit (.int .u8 7), .lit (.int .u8 6)]
def laid_internal_strconv_uint64pow10 {H : Type} : DataW H := .agg [.lit (.int .u64 1), .lit (.int .u64 10), .lit (.int .u64 100), .lit (.int .u64 1000), .lit (.int .u64 10000), .lit (.int .u64 100000), .lit (.int .u64 1000000), .lit (.int .u64 10000000), .lit (.int .u64 100000000), .lit (.int .u64 1000000000), .lit (.int .u64 10000000000), .lit (.int .u64 100000000000), .lit (.int .u64 1000000000000), .lit (.int .u64 10000000000000), .lit (.int .u64 100000000000000), .lit (.int .u64 1000000000000000), .lit (.int .u64 10000000000000000), .lit (.int .u64 100000000000000000), .lit (.int .u64 1000000000000000000), .lit (.int .u64 10000000000000000000)]

/-- 'gussetlaw04.DecimalsCycle': WHATEVER THE INPUT: true; the input reads as it did. -/
def decimalsCycleSpec : ChangeSpec := { name := "decimalsCycle", fn := fun _ => fun
  | [d] => { results := [.lit (.bool true)], args := [d] }
  | _ => none }
def decimalsCycleRow : OpenClaim := { program := "ytdkjckiialnpnaagreatdoor", sum := "17a7208f6bebea83931139a2b174e4b43b04894141de3694ba9e4424f0dce629", func := "gusset/gussetlaw04.DecimalsCycle", spec := "decimalsCycle", inPlace := ["math/bits.Add64", "math/bits.Sub64", "internal/abi.NoEscape", "internal/bytealg.MakeNoZero", "internal/bytealg.IndexByteString", "internal/bytealg.IndexString"], unfollowed := true, recurses := true, named := ["math/bits.divideError", "math/bits.overflowError", "internal/strconv.uint64pow10", "math/bits.deBruijn32tab", "math/bits.deBruijn64tab", "internal/bytealg.MaxLen"], apart := false, laid := [("math/bits.deBruijn32tab", laid_math_bits_deBruijn32tab), ("math/bits.deBruijn64tab", laid_math_bits_deBruijn64tab), ("internal/strconv.uint64pow10", laid_internal_strconv_uint64pow10)] }
def DecimalsCycleSaid : Prop := decimalsCycleRow.holds Tryz.pinned (OpenSpec.ofChange decimalsCycleSpec)

/-- ITS FALSE NEIGHBOUR: 'it returns false'. Refute it at one input. -/
def decimalsCycleWrong : ChangeSpec := { name := "decimalsCycle", fn := fun _ => fun
  | [d] => { results := [.lit (.bool false)], args := [d] }
  | _ => none }
def DecimalsCycleWrongFalsely : Prop := decimalsCycleRow.holds Tryz.pinned (OpenSpec.ofChange decimalsCycleWrong)

/-- 'gussetlaw04.DecimalsBetween': WHATEVER THE INPUT: true; the input reads as it did. -/
def decimalsBetweenSpec : ChangeSpec := { name := "decimalsBetween", fn := fun _ => fun
  | [d1, d2] => { results := [.lit (.bool true)], args := [d1, d2] }
  | _ => none }
def decimalsBetweenRow : OpenClaim := { program := "ytdkjckiialnpnaagreatdoor", sum := "17a7208f6bebea83931139a2b174e4b43b04894141de3694ba9e4424f0dce629", func := "gusset/gussetlaw04.DecimalsBetween", spec := "decimalsBetween", inPlace := ["math/bits.Add64", "math/bits.Sub64", "internal/abi.NoEscape", "internal/bytealg.MakeNoZero", "internal/bytealg.IndexByteString", "internal/bytealg.IndexString"], unfollowed := true, recurses := true, named := ["math/bits.divideError", "math/bits.overflowError", "internal/strconv.uint64pow10", "math/bits.deBruijn32tab", "math/bits.deBruijn64tab", "internal/bytealg.MaxLen"], apart := false, laid := [("math/bits.deBruijn32tab", laid_math_bits_deBruijn32tab), ("math/bits.deBruijn64tab", laid_math_bits_deBruijn64tab), ("internal/strconv.uint64pow10", laid_internal_strconv_uint64pow10)] }
def DecimalsBetweenSaid : Prop := decimalsBetweenRow.holds Tryz.pinned (OpenSpec.ofChange decimalsBetweenSpec)

/-- ITS FALSE NEIGHBOUR: 'it returns false'. Refute it at one input. -/
def decimalsBetweenWrong : ChangeSpec := { name := "decimalsBetween", fn := fun _ => fun
  | [d1, d2] => { results := [.lit (.bool false)], args := [d1, d2] }
  | _ => none }
def DecimalsBetweenWrongFalsely : Prop := decimalsBetweenRow.holds Tryz.pinned (OpenSpec.ofChange decimalsBetweenWrong)

/-- 'gussetlaw04.DecimalsTurned': WHATEVER THE INPUT: true; the input reads as it did. -/
def decimalsTurnedSpec : ChangeSpec := { name := "decimalsTurned", fn := fun _ => fun
  | [d1, d2, d3, d4] => { results := [.lit (.bool true)], args := [d1, d2, d3, d4] }
  | _ => none }
def decimalsTurnedRow : OpenClaim := { program := "ytdkjckiialnpnaagreatdoor", sum := "17a7208f6bebea83931139a2b174e4b43b04894141de3694ba9e4424f0dce629", func := "gusset/gussetlaw04.DecimalsTurned", spec := "decimalsTurned", inPlace := ["math/bits.Add64", "math/bits.Sub64", "internal/abi.NoEscape", "internal/bytealg.MakeNoZero", "internal/bytealg.IndexByteString", "internal/bytealg.IndexString"], unfollowed := true, recurses := true, named := ["math/bits.divideError", "math/bits.overflowError", "internal/strconv.uint64pow10", "math/bits.deBruijn32tab", "math/bits.deBruijn64tab", "internal/bytealg.MaxLen"], apart := false, laid := [("math/bits.deBruijn32tab", laid_math_bits_deBruijn32tab), ("math/bits.deBruijn64tab", laid_math_bits_deBruijn64tab), ("internal/strconv.uint64pow10", laid_internal_strconv_uint64pow10)] }
def DecimalsTurnedSaid : Prop := decimalsTurnedRow.holds Tryz.pinned (OpenSpec.ofChange decimalsTurnedSpec)

/-- ITS FALSE NEIGHBOUR: 'it returns false'. Refute it at one input. -/
def decimalsTurnedWrong : ChangeSpec := { name := "decimalsTurned", fn := fun _ => fun
  | [d1, d2, d3, d4] => { results := [.lit (.bool false)], args := [d1, d2, d3, d4] }
  | _ => none }
def DecimalsTurnedWrongFalsely : Prop := decimalsTurnedRow.holds Tryz.pinned (OpenSpec.ofChange decimalsTurnedWrong)

/-- 'gussetlaw04.DecimalsRounds': WHATEVER THE INPUT: true; the input reads as it did. -/
def decimalsRoundsSpec : ChangeSpec := { name := "decimalsRounds", fn := fun _ => fun
  | [d1, d2] => { results := [.lit (.bool true)], args := [d1, d2] }
  | _ => none }
def decimalsRoundsRow : OpenClaim := { program := "ytdkjckiialnpnaagreatdoor", sum := "17a7208f6bebea83931139a2b174e4b43b04894141de3694ba9e4424f0dce629", func := "gusset/gussetlaw04.DecimalsRounds", spec := "decimalsRounds", inPlace := ["math/bits.Add64", "math/bits.Sub64", "internal/abi.NoEscape", "internal/bytealg.MakeNoZero", "internal/bytealg.IndexByteString", "internal/bytealg.IndexString"], unfollowed := true, recurses := true, named := ["math/bits.divideError", "math/bits.overflowError", "internal/strconv.uint64pow10", "math/bits.deBruijn32tab", "math/bits.deBruijn64tab", "internal/bytealg.MaxLen"], apart := false, laid := [("math/bits.deBruijn32tab", laid_math_bits_deBruijn32tab), ("math/bits.deBruijn64tab", laid_math_bits_deBruijn64tab), ("internal/strconv.uint64pow10", laid_internal_strconv_uint64pow10)] }
def DecimalsRoundsSaid : Prop := decimalsRoundsRow.holds Tryz.pinned (OpenSpec.ofChange decimalsRoundsSpec)

/-- ITS FALSE NEIGHBOUR: 'it returns false'. Refute it at one input. -/
def decimalsRoundsWrong : ChangeSpec := { name := "decimalsRounds", fn := fun _ => fun
  | [d1, d2] => { results := [.lit (.bool false)], args := [d1, d2] }
  | _ => none }
def DecimalsRoundsWrongFalsely : Prop := decimalsRoundsRow.holds Tryz.pinned (OpenSpec.ofChange decimalsRoundsWrong)

/-- 'gussetlaw05.RootsBoth': WHATEVER THE INPUT: true; the input reads as it did. -/
def rootsBothSpec : ChangeSpec := { name := "rootsBoth", fn := fun _ => fun
  | [d1, d2] => { results := [.lit (.bool true)], args := [d1, d2] }
  | _ => none }
def rootsBothRow : OpenClaim := { program := "ytdkjckiialnpnaagreatdoor", sum := "17a7208f6bebea83931139a2b174e4b43b04894141de3694ba9e4424f0dce629", func := "gusset/gussetlaw05.RootsBoth", spec := "rootsBoth", inPlace := ["math/bits.Add64", "math/bits.Sub64", "internal/abi.NoEscape", "internal/bytealg.MakeNoZero"], unfollowed := true, recurses := true, named := ["math/bits.divideError", "math/bits.overflowError", "internal/strconv.uint64pow10", "math/bits.deBruijn32tab", "math/bits.deBruijn64tab"], apart := false, laid := [("math/bits.deBruijn32tab", laid_math_bits_deBruijn32tab), ("math/bits.deBruijn64tab", laid_math_bits_deBruijn64tab), ("internal/strconv.uint64pow10", laid_internal_strconv_uint64pow10)] }
def RootsBothSaid : Prop := rootsBothRow.holds Tryz.pinned (OpenSpec.ofChange rootsBothSpec)

/-- ITS FALSE NEIGHBOUR: 'it returns false'. Refute it at one input. -/
def rootsBothWrong : ChangeSpec := { name := "rootsBoth", fn := fun _ => fun
  | [d1, d2] => { results := [.lit (.bool false)], args := [d1, d2] }
  | _ => none }
def RootsBothWrongFalsely : Prop := rootsBothRow.holds Tryz.pinned (OpenSpec.ofChange rootsBothWrong)

/-- 'gussetlaw05.RootsBetween': WHATEVER THE INPUT: true; the input reads as it did. -/
def rootsBetweenSpec : ChangeSpec := { name := "rootsBetween", fn := fun _ => fun
  | [d1, d2] => { results := [.lit (.bool true)], args := [d1, d2] }
  | _ => none }
def rootsBetweenRow : OpenClaim := { program := "ytdkjckiialnpnaagreatdoor", sum := "17a7208f6bebea83931139a2b174e4b43b04894141de3694ba9e4424f0dce629", func := "gusset/gussetlaw05.RootsBetween", spec := "rootsBetween", inPlace := ["math/bits.Add64", "math/bits.Sub64", "internal/abi.NoEscape", "internal/bytealg.MakeNoZero"], unfollowed := true, recurses := true, named := ["math/bits.divideError", "math/bits.overflowError", "internal/strconv.uint64pow10", "math/bits.deBruijn32tab", "math/bits.deBruijn64tab"], apart := false, laid := [("math/bits.deBruijn32tab", laid_math_bits_deBruijn32tab), ("math/bits.deBruijn64tab", laid_math_bits_deBruijn64tab), ("internal/strconv.uint64pow10", laid_internal_strconv_uint64pow10)] }
def RootsBetweenSaid : Prop := rootsBetweenRow.holds Tryz.pinned (OpenSpec.ofChange rootsBetweenSpec)

/-- ITS FALSE NEIGHBOUR: 'it returns false'. Refute it at one input. -/
def rootsBetweenWrong : ChangeSpec := { name := "rootsBetween", fn := fun _ => fun
  | [d1, d2] => { results := [.lit (.bool false)], args := [d1, d2] }
  | _ => none }
def RootsBetweenWrongFalsely : Prop := rootsBetweenRow.holds Tryz.pinned (OpenSpec.ofChange rootsBetweenWrong)

/-- 'gussetlaw05.RootsRefused': WHATEVER THE INPUT: true; the input reads as it did. -/
def rootsRefusedSpec : ChangeSpec := { name := "rootsRefused", fn := fun _ => fun
  | [d1, d2] => { results := [.lit (.bool true)], args := [d1, d2] }
  | _ => none }
def rootsRefusedRow : OpenClaim := { program := "ytdkjckiialnpnaagreatdoor", sum := "17a7208f6bebea83931139a2b174e4b43b04894141de3694ba9e4424f0dce629", func := "gusset/gussetlaw05.RootsRefused", spec := "rootsRefused", inPlace := ["math/bits.Add64", "math/bits.Sub64", "internal/abi.NoEscape", "internal/bytealg.MakeNoZero"], unfollowed := true, recurses := true, named := ["math/bits.divideError", "math/bits.overflowError", "internal/strconv.uint64pow10", "math/bits.deBruijn32tab", "math/bits.deBruijn64tab"], apart := false, laid := [("math/bits.deBruijn32tab", laid_math_bits_deBruijn32tab), ("math/bits.deBruijn64tab", laid_math_bits_deBruijn64tab), ("internal/strconv.uint64pow10", laid_internal_strconv_uint64pow10)] }
def RootsRefusedSaid : Prop := rootsRefusedRow.holds Tryz.pinned (OpenSpec.ofChange rootsRefusedSpec)

/-- ITS FALSE NEIGHBOUR: 'it returns false'. Refute it at one input. -/
def rootsRefusedWrong : ChangeSpec := { name := "rootsRefused", fn := fun _ => fun
  | [d1, d2] => { results := [.lit (.bool false)], args := [d1, d2] }
  | _ => none }
def RootsRefusedWrongFalsely : Prop := rootsRefusedRow.holds Tryz.pinned (OpenSpec.ofChange rootsRefusedWrong)

/-- 'gussetlaw05.RootsExact': WHATEVER THE INPUT: true; the input reads as it did. -/
def rootsExactSpec : ChangeSpec := { name := "rootsExact", fn := fun _ => fun
  | [d1, d2] => { results := [.lit (.bool true)], args := [d1, d2] }
  | _ => none }
def rootsExactRow : OpenClaim := { program := "ytdkjckiialnpnaagreatdoor", sum := "17a7208f6bebea83931139a2b174e4b43b04894141de3694ba9e4424f0dce629", func := "gusset/gussetlaw05.RootsExact", spec := "rootsExact", inPlace := ["math/bits.Add64", "math/bits.Sub64", "internal/abi.NoEscape", "internal/bytealg.MakeNoZero"], unfollowed := true, recurses := true, named := ["math/bits.divideError", "math/bits.overflowError", "internal/strconv.uint64pow10", "math/bits.deBruijn32tab", "math/bits.deBruijn64tab"], apart := false, laid := [("math/bits.deBruijn32tab", laid_math_bits_deBruijn32tab), ("math/bits.deBruijn64tab", laid_math_bits_deBruijn64tab), ("internal/strconv.uint64pow10", laid_internal_strconv_uint64pow10)] }
def RootsExactSaid : Prop := rootsExactRow.holds Tryz.pinned (OpenSpec.ofChange rootsExactSpec)

/-- ITS FALSE NEIGHBOUR: 'it returns false'. Refute it at one input. -/
def rootsExactWrong : ChangeSpec := { name := "rootsExact", fn := fun _ => fun
  | [d1, d2] => { results := [.lit (.bool false)], args := [d1, d2] }
  | _ => none }
def RootsExactWrongFalsely : Prop := rootsExactRow.holds Tryz.pinned (OpenSpec.ofChange rootsExactWrong)

/-- 'gussetlaw05.RootsRise': WHATEVER THE INPUT: true; the input reads as it did. -/
def rootsRiseSpec : ChangeSpec := { name := "rootsRise", fn := fun _ => fun
  | [d1, d2, d3, d4] => { results := [.lit (.bool true)], args := [d1, d2, d3, d4] }
  | _ => none }
def rootsRiseRow : OpenClaim := { program := "ytdkjckiialnpnaagreatdoor", sum := "17a7208f6bebea83931139a2b174e4b43b04894141de3694ba9e4424f0dce629", func := "gusset/gussetlaw05.RootsRise", spec := "rootsRise", inPlace := ["math/bits.Add64", "math/bits.Sub64", "internal/abi.NoEscape", "internal/bytealg.MakeNoZero"], unfollowed := true, recurses := true, named := ["math/bits.divideError", "math/bits.overflowError", "internal/strconv.uint64pow10", "math/bits.deBruijn32tab", "math/bits.deBruijn64tab"], apart := false, laid := [("math/bits.deBruijn32tab", laid_math_bits_deBruijn32tab), ("math/bits.deBruijn64tab", laid_math_bits_deBruijn64tab), ("internal/strconv.uint64pow10", laid_internal_strconv_uint64pow10)] }
def RootsRiseSaid : Prop := rootsRiseRow.holds Tryz.pinned (OpenSpec.ofChange rootsRiseSpec)

/-- ITS FALSE NEIGHBOUR: 'it returns false'. Refute it at one input. -/
def rootsRiseWrong : ChangeSpec := { name := "rootsRise", fn := fun _ => fun
  | [d1, d2, d3, d4] => { results := [.lit (.bool false)], args := [d1, d2, d3, d4] }
  | _ => none }
def RootsRiseWrongFalsely : Prop := rootsRiseRow.holds Tryz.pinned (OpenSpec.ofChange rootsRiseWrong)

/-- 'gussetlaw05.RootsOrder': WHATEVER THE INPUT: true; the input reads as it did. -/
def rootsOrderSpec : ChangeSpec := { name := "rootsOrder", fn := fun _ => fun
  | [d1, d2, d3] => { results := [.lit (.bool true)], args := [d1, d2, d3] }
  | _ => none }
def rootsOrderRow : OpenClaim := { program := "ytdkjckiialnpnaagreatdoor", sum := "17a7208f6bebea83931139a2b174e4b43b04894141de3694ba9e4424f0dce629", func := "gusset/gussetlaw05.RootsOrder", spec := "rootsOrder", inPlace := ["math/bits.Add64", "math/bits.Sub64", "internal/abi.NoEscape", "internal/bytealg.MakeNoZero"], unfollowed := true, recurses := true, named := ["math/bits.divideError", "math/bits.overflowError", "internal/strconv.uint64pow10", "math/bits.deBruijn32tab", "math/bits.deBruijn64tab"], apart := false, laid := [("math/bits.deBruijn32tab", laid_math_bits_deBruijn32tab), ("math/bits.deBruijn64tab", laid_math_bits_deBruijn64tab), ("internal/strconv.uint64pow10", laid_internal_strconv_uint64pow10)] }
def RootsOrderSaid : Prop := rootsOrderRow.holds Tryz.pinned (OpenSpec.ofChange rootsOrderSpec)

/-- ITS FALSE NEIGHBOUR: 'it returns false'. Refute it at one input. -/
def rootsOrderWrong : ChangeSpec := { name := "rootsOrder", fn := fun _ => fun
  | [d1, d2, d3] => { results := [.lit (.bool false)], args := [d1, d2, d3] }
  | _ => none }
def RootsOrderWrongFalsely : Prop := rootsOrderRow.holds Tryz.pinned (OpenSpec.ofChange rootsOrderWrong)

/-- 'gussetlaw06.ModsOf': WHATEVER THE INPUT: true; the input reads as it did. -/
def modsOfSpec : ChangeSpec := { name := "modsOf", fn := fun _ => fun
  | [d1, d2] => { results := [.lit (.bool true)], args := [d1, d2] }
  | _ => none }
def modsOfRow : OpenClaim := { program := "ytdkjckiialnpnaagreatdoor", sum := "17a7208f6bebea83931139a2b174e4b43b04894141de3694ba9e4424f0dce629", func := "gusset/gussetlaw06.ModsOf", spec := "modsOf", inPlace := ["math/bits.Add64", "math/bits.Sub64"], unfollowed := true, recurses := true, named := ["math/bits.deBruijn32tab", "math/bits.divideError", "math/bits.overflowError"], apart := false, laid := [("math/bits.deBruijn32tab", laid_math_bits_deBruijn32tab)] }
def ModsOfSaid : Prop := modsOfRow.holds Tryz.pinned (OpenSpec.ofChange modsOfSpec)

/-- ITS FALSE NEIGHBOUR: 'it returns false'. Refute it at one input. -/
def modsOfWrong : ChangeSpec := { name := "modsOf", fn := fun _ => fun
  | [d1, d2] => { results := [.lit (.bool false)], args := [d1, d2] }
  | _ => none }
def ModsOfWrongFalsely : Prop := modsOfRow.holds Tryz.pinned (OpenSpec.ofChange modsOfWrong)

/-- 'gussetlaw06.ModsKnown': WHATEVER THE INPUT: true; the input reads as it did. -/
def modsKnownSpec : ChangeSpec := { name := "modsKnown", fn := fun _ => fun
  | [] => { results := [.lit (.bool true)], args := [] }
  | _ => none }
def modsKnownRow : OpenClaim := { program := "ytdkjckiialnpnaagreatdoor", sum := "17a7208f6bebea83931139a2b174e4b43b04894141de3694ba9e4424f0dce629", func := "gusset/gussetlaw06.ModsKnown", spec := "modsKnown", inPlace := ["math/bits.Add64", "math/bits.Sub64"], unfollowed := true, recurses := true, named := ["math/bits.deBruijn32tab", "math/bits.divideError", "math/bits.overflowError"], apart := false, laid := [("math/bits.deBruijn32tab", laid_math_bits_deBruijn32tab)] }
def ModsKnownSaid : Prop := modsKnownRow.holds Tryz.pinned (OpenSpec.ofChange modsKnownSpec)

/-- ITS FALSE NEIGHBOUR: 'it returns false'. Refute it at one input. -/
def modsKnownWrong : ChangeSpec := { name := "modsKnown", fn := fun _ => fun
  | [] => { results := [.lit (.bool false)], args := [] }
  | _ => none }
def ModsKnownWrongFalsely : Prop := modsKnownRow.holds Tryz.pinned (OpenSpec.ofChange modsKnownWrong)

/- THE SECOND FORM. 'bulk': how many values and letters a reading holds, each counted each time it is reached (what is shared counts as often as it is met; a slice's spare places count too). A statement '..UptoSaid' is the law's where the arguments, and the package variables that the reading takes, are together of bulk at most 1048576: NARROWER than '..Said'. Prove '..Said' where nothing that the law and all that it calls make is longer than what came in: it says more and counts as full. Else prove '..UptoSaid'. A law counts once. -/
mutual
def uptoBulk {H : Type} : DataW H → Nat
  | .lit (.string bytes) => bytes.length + 1
  | .lit _ => 1
  | .nil => 1
  | .ptr d => uptoBulk d + 1
  | .slice elems spare => uptoBulkAll elems + uptoBulkAll spare + 1
  | .agg parts => uptoBulkAll parts + 1
  | .iface _ d => uptoBulk d + 1
  | .map entries => uptoBulkEntries entries + 1
  | .held _ => 1
def uptoBulkAll {H : Type} : List (DataW H) → Nat
  | [] => 0
  | d :: r => uptoBulk d + uptoBulkAll r
def uptoBulkEntries {H : Type} : List (Lit × DataW H) → Nat
  | [] => 0
  | x :: r => uptoBulkEntry x + uptoBulkEntries r
def uptoBulkEntry {H : Type} : Lit × DataW H → Nat
  | (.string bytes, d) => bytes.length + uptoBulk d + 1
  | (_, d) => uptoBulk d + 1
 end
def uptoSmall : (H : Type) → List (DataW H) → Bool := fun _ ds => decide (uptoBulkAll ds ≤ 1048576)
def OpenSpec.upto (s : _root_.Go.ChangeSpec) : _root_.Go.OpenSpec := { _root_.Go.OpenSpec.ofChange s with cond := some uptoSmall }

/-- 'gussetlaw04.DecimalsCycle', WHERE WHAT IT READS IS OF BULK AT MOST 1048576: true; the input reads as it did. -/
def decimalsCycleUptoRow : OpenClaim := { program := "ytdkjckiialnpnaagreatdoor", sum := "17a7208f6bebea83931139a2b174e4b43b04894141de3694ba9e4424f0dce629", func := "gusset/gussetlaw04.DecimalsCycle", spec := "decimalsCycle", inPlace := ["math/bits.Add64", "math/bits.Sub64", "internal/abi.NoEscape", "internal/bytealg.MakeNoZero", "internal/bytealg.IndexByteString", "internal/bytealg.IndexString"], unfollowed := true, recurses := true, named := ["math/bits.divideError", "math/bits.overflowError", "internal/strconv.uint64pow10", "math/bits.deBruijn32tab", "math/bits.deBruijn64tab", "internal/bytealg.MaxLen"], apart := false, laid := [("math/bits.deBruijn32tab", laid_math_bits_deBruijn32tab), ("math/bits.deBruijn64tab", laid_math_bits_deBruijn64tab), ("internal/strconv.uint64pow10", laid_internal_strconv_uint64pow10)], narrowed := true }
def DecimalsCycleUptoSaid : Prop := decimalsCycleUptoRow.holds Tryz.pinned (OpenSpec.upto decimalsCycleSpec)

/-- 'gussetlaw04.DecimalsBetween', WHERE WHAT IT READS IS OF BULK AT MOST 1048576: true; the input reads as it did. -/
def decimalsBetweenUptoRow : OpenClaim := { program := "ytdkjckiialnpnaagreatdoor", sum := "17a7208f6bebea83931139a2b174e4b43b04894141de3694ba9e4424f0dce629", func := "gusset/gussetlaw04.DecimalsBetween", spec := "decimalsBetween", inPlace := ["math/bits.Add64", "math/bits.Sub64", "internal/abi.NoEscape", "internal/bytealg.MakeNoZero", "internal/bytealg.IndexByteString", "internal/bytealg.IndexString"], unfollowed := true, recurses := true, named := ["math/bits.divideError", "math/bits.overflowError", "internal/strconv.uint64pow10", "math/bits.deBruijn32tab", "math/bits.deBruijn64tab", "internal/bytealg.MaxLen"], apart := false, laid := [("math/bits.deBruijn32tab", laid_math_bits_deBruijn32tab), ("math/bits.deBruijn64tab", laid_math_bits_deBruijn64tab), ("internal/strconv.uint64pow10", laid_internal_strconv_uint64pow10)], narrowed := true }
def DecimalsBetweenUptoSaid : Prop := decimalsBetweenUptoRow.holds Tryz.pinned (OpenSpec.upto decimalsBetweenSpec)

/-- 'gussetlaw04.DecimalsTurned', WHERE WHAT IT READS IS OF BULK AT MOST 1048576: true; the input reads as it did. -/
def decimalsTurnedUptoRow : OpenClaim := { program := "ytdkjckiialnpnaagreatdoor", sum := "17a7208f6bebea83931139a2b174e4b43b04894141de3694ba9e4424f0dce629", func := "gusset/gussetlaw04.DecimalsTurned", spec := "decimalsTurned", inPlace := ["math/bits.Add64", "math/bits.Sub64", "internal/abi.NoEscape", "internal/bytealg.MakeNoZero", "internal/bytealg.IndexByteString", "internal/bytealg.IndexString"], unfollowed := true, recurses := true, named := ["math/bits.divideError", "math/bits.overflowError", "internal/strconv.uint64pow10", "math/bits.deBruijn32tab", "math/bits.deBruijn64tab", "internal/bytealg.MaxLen"], apart := false, laid := [("math/bits.deBruijn32tab", laid_math_bits_deBruijn32tab), ("math/bits.deBruijn64tab", laid_math_bits_deBruijn64tab), ("internal/strconv.uint64pow10", laid_internal_strconv_uint64pow10)], narrowed := true }
def DecimalsTurnedUptoSaid : Prop := decimalsTurnedUptoRow.holds Tryz.pinned (OpenSpec.upto decimalsTurnedSpec)

/-- 'gussetlaw04.DecimalsRounds', WHERE WHAT IT READS IS OF BULK AT MOST 1048576: true; the input reads as it did. -/
def decimalsRoundsUptoRow : OpenClaim := { program := "ytdkjckiialnpnaagreatdoor", sum := "17a7208f6bebea83931139a2b174e4b43b04894141de3694ba9e4424f0dce629", func := "gusset/gussetlaw04.DecimalsRounds", spec := "decimalsRounds", inPlace := ["math/bits.Add64", "math/bits.Sub64", "internal/abi.NoEscape", "internal/bytealg.MakeNoZero", "internal/bytealg.IndexByteString", "internal/bytealg.IndexString"], unfollowed := true, recurses := true, named := ["math/bits.divideError", "math/bits.overflowError", "internal/strconv.uint64pow10", "math/bits.deBruijn32tab", "math/bits.deBruijn64tab", "internal/bytealg.MaxLen"], apart := false, laid := [("math/bits.deBruijn32tab", laid_math_bits_deBruijn32tab), ("math/bits.deBruijn64tab", laid_math_bits_deBruijn64tab), ("internal/strconv.uint64pow10", laid_internal_strconv_uint64pow10)], narrowed := true }
def DecimalsRoundsUptoSaid : Prop := decimalsRoundsUptoRow.holds Tryz.pinned (OpenSpec.upto decimalsRoundsSpec)

/-- 'gussetlaw05.RootsBoth', WHERE WHAT IT READS IS OF BULK AT MOST 1048576: true; the input reads as it did. -/
def rootsBothUptoRow : OpenClaim := { program := "ytdkjckiialnpnaagreatdoor", sum := "17a7208f6bebea83931139a2b174e4b43b04894141de3694ba9e4424f0dce629", func := "gusset/gussetlaw05.RootsBoth", spec := "rootsBoth", inPlace := ["math/bits.Add64", "math/bits.Sub64", "internal/abi.NoEscape", "internal/bytealg.MakeNoZero"], unfollowed := true, recurses := true, named := ["math/bits.divideError", "math/bits.overflowError", "internal/strconv.uint64pow10", "math/bits.deBruijn32tab", "math/bits.deBruijn64tab"], apart := false, laid := [("math/bits.deBruijn32tab", laid_math_bits_deBruijn32tab), ("math/bits.deBruijn64tab", laid_math_bits_deBruijn64tab), ("internal/strconv.uint64pow10", laid_internal_strconv_uint64pow10)], narrowed := true }
def RootsBothUptoSaid : Prop := rootsBothUptoRow.holds Tryz.pinned (OpenSpec.upto rootsBothSpec)

/-- 'gussetlaw05.RootsBetween', WHERE WHAT IT READS IS OF BULK AT MOST 1048576: true; the input reads as it did. -/
def rootsBetweenUptoRow : OpenClaim := { program := "ytdkjckiialnpnaagreatdoor", sum := "17a7208f6bebea83931139a2b174e4b43b04894141de3694ba9e4424f0dce629", func := "gusset/gussetlaw05.RootsBetween", spec := "rootsBetween", inPlace := ["math/bits.Add64", "math/bits.Sub64", "internal/abi.NoEscape", "internal/bytealg.MakeNoZero"], unfollowed := true, recurses := true, named := ["math/bits.divideError", "math/bits.overflowError", "internal/strconv.uint64pow10", "math/bits.deBruijn32tab", "math/bits.deBruijn64tab"], apart := false, laid := [("math/bits.deBruijn32tab", laid_math_bits_deBruijn32tab), ("math/bits.deBruijn64tab", laid_math_bits_deBruijn64tab), ("internal/strconv.uint64pow10", laid_internal_strconv_uint64pow10)], narrowed := true }
def RootsBetweenUptoSaid : Prop := rootsBetweenUptoRow.holds Tryz.pinned (OpenSpec.upto rootsBetweenSpec)

/-- 'gussetlaw05.RootsRefused', WHERE WHAT IT READS IS OF BULK AT MOST 1048576: true; the input reads as it did. -/
def rootsRefusedUptoRow : OpenClaim := { program := "ytdkjckiialnpnaagreatdoor", sum := "17a7208f6bebea83931139a2b174e4b43b04894141de3694ba9e4424f0dce629", func := "gusset/gussetlaw05.RootsRefused", spec := "rootsRefused", inPlace := ["math/bits.Add64", "math/bits.Sub64", "internal/abi.NoEscape", "internal/bytealg.MakeNoZero"], unfollowed := true, recurses := true, named := ["math/bits.divideError", "math/bits.overflowError", "internal/strconv.uint64pow10", "math/bits.deBruijn32tab", "math/bits.deBruijn64tab"], apart := false, laid := [("math/bits.deBruijn32tab", laid_math_bits_deBruijn32tab), ("math/bits.deBruijn64tab", laid_math_bits_deBruijn64tab), ("internal/strconv.uint64pow10", laid_internal_strconv_uint64pow10)], narrowed := true }
def RootsRefusedUptoSaid : Prop := rootsRefusedUptoRow.holds Tryz.pinned (OpenSpec.upto rootsRefusedSpec)

/-- 'gussetlaw05.RootsExact', WHERE WHAT IT READS IS OF BULK AT MOST 1048576: true; the input reads as it did. -/
def rootsExactUptoRow : OpenClaim := { program := "ytdkjckiialnpnaagreatdoor", sum := "17a7208f6bebea83931139a2b174e4b43b04894141de3694ba9e4424f0dce629", func := "gusset/gussetlaw05.RootsExact", spec := "rootsExact", inPlace := ["math/bits.Add64", "math/bits.Sub64", "internal/abi.NoEscape", "internal/bytealg.MakeNoZero"], unfollowed := true, recurses := true, named := ["math/bits.divideError", "math/bits.overflowError", "internal/strconv.uint64pow10", "math/bits.deBruijn32tab", "math/bits.deBruijn64tab"], apart := false, laid := [("math/bits.deBruijn32tab", laid_math_bits_deBruijn32tab), ("math/bits.deBruijn64tab", laid_math_bits_deBruijn64tab), ("internal/strconv.uint64pow10", laid_internal_strconv_uint64pow10)], narrowed := true }
def RootsExactUptoSaid : Prop := rootsExactUptoRow.holds Tryz.pinned (OpenSpec.upto rootsExactSpec)

/-- 'gussetlaw05.RootsRise', WHERE WHAT IT READS IS OF BULK AT MOST 1048576: true; the input reads as it did. -/
def rootsRiseUptoRow : OpenClaim := { program := "ytdkjckiialnpnaagreatdoor", sum := "17a7208f6bebea83931139a2b174e4b43b04894141de3694ba9e4424f0dce629", func := "gusset/gussetlaw05.RootsRise", spec := "rootsRise", inPlace := ["math/bits.Add64", "math/bits.Sub64", "internal/abi.NoEscape", "internal/bytealg.MakeNoZero"], unfollowed := true, recurses := true, named := ["math/bits.divideError", "math/bits.overflowError", "internal/strconv.uint64pow10", "math/bits.deBruijn32tab", "math/bits.deBruijn64tab"], apart := false, laid := [("math/bits.deBruijn32tab", laid_math_bits_deBruijn32tab), ("math/bits.deBruijn64tab", laid_math_bits_deBruijn64tab), ("internal/strconv.uint64pow10", laid_internal_strconv_uint64pow10)], narrowed := true }
def RootsRiseUptoSaid : Prop := rootsRiseUptoRow.holds Tryz.pinned (OpenSpec.upto rootsRiseSpec)

/-- 'gussetlaw05.RootsOrder', WHERE WHAT IT READS IS OF BULK AT MOST 1048576: true; the input reads as it did. -/
def rootsOrderUptoRow : OpenClaim := { program := "ytdkjckiialnpnaagreatdoor", sum := "17a7208f6bebea83931139a2b174e4b43b04894141de3694ba9e4424f0dce629", func := "gusset/gussetlaw05.RootsOrder", spec := "rootsOrder", inPlace := ["math/bits.Add64", "math/bits.Sub64", "internal/abi.NoEscape", "internal/bytealg.MakeNoZero"], unfollowed := true, recurses := true, named := ["math/bits.divideError", "math/bits.overflowError", "internal/strconv.uint64pow10", "math/bits.deBruijn32tab", "math/bits.deBruijn64tab"], apart := false, laid := [("math/bits.deBruijn32tab", laid_math_bits_deBruijn32tab), ("math/bits.deBruijn64tab", laid_math_bits_deBruijn64tab), ("internal/strconv.uint64pow10", laid_internal_strconv_uint64pow10)], narrowed := true }
def RootsOrderUptoSaid : Prop := rootsOrderUptoRow.holds Tryz.pinned (OpenSpec.upto rootsOrderSpec)

/-- 'gussetlaw06.ModsOf', WHERE WHAT IT READS IS OF BULK AT MOST 1048576: true; the input reads as it did. -/
def modsOfUptoRow : OpenClaim := { program := "ytdkjckiialnpnaagreatdoor", sum := "17a7208f6bebea83931139a2b174e4b43b04894141de3694ba9e4424f0dce629", func := "gusset/gussetlaw06.ModsOf", spec := "modsOf", inPlace := ["math/bits.Add64", "math/bits.Sub64"], unfollowed := true, recurses := true, named := ["math/bits.deBruijn32tab", "math/bits.divideError", "math/bits.overflowError"], apart := false, laid := [("math/bits.deBruijn32tab", laid_math_bits_deBruijn32tab)], narrowed := true }
def ModsOfUptoSaid : Prop := modsOfUptoRow.holds Tryz.pinned (OpenSpec.upto modsOfSpec)

/-- 'gussetlaw06.ModsKnown', WHERE WHAT IT READS IS OF BULK AT MOST 1048576: true; the input reads as it did. -/
def modsKnownUptoRow : OpenClaim := { program := "ytdkjckiialnpnaagreatdoor", sum := "17a7208f6bebea83931139a2b174e4b43b04894141de3694ba9e4424f0dce629", func := "gusset/gussetlaw06.ModsKnown", spec := "modsKnown", inPlace := ["math/bits.Add64", "math/bits.Sub64"], unfollowed := true, recurses := true, named := ["math/bits.deBruijn32tab", "math/bits.divideError", "math/bits.overflowError"], apart := false, laid := [("math/bits.deBruijn32tab", laid_math_bits_deBruijn32tab)], narrowed := true }
def ModsKnownUptoSaid : Prop := modsKnownUptoRow.holds Tryz.pinned (OpenSpec.upto modsKnownSpec)

end Rows
end Go.Proofs.YtdkjckiialnpnaaGreatDoor
