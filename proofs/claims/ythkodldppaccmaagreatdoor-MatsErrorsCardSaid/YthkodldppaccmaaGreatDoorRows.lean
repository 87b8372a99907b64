/-
  NARROWER THAN 'FOR EVERY INPUT', by the rows' own cells (each row's printed sentence says how): VecsPlays: laid · VecsSums: laid · MatsPlays: laid · MatsApply: laid · MatsRing: laid · MatsForms: laid · MatsParts: laid · MatsErrors: laid · MatsMakes: laid.
  DERIVED. THE GIVEN ROWS OF THIS SEAT. 9 by the template 'for every input the law returns true; each argument reads behind the call as it read before'; 0 by the template 'total and deterministic' (their statements: YthkodldppaccmaaGreatDoorTotals.lean).
  GIVEN WITH THE SEED: the statements are not yours to turn. If you find one false, say at which input.
  Laid BY PROGRAM, IN A SANDBOX (cutbox-rows.mjs): the forced cells as the released guide's own fill.sh prints them over the translation 306aeb3a8cef6225… (all of the seat's roots in one cut). By AI agents, Wed Nov 11 2026. No macro, syntax, notation, axiom, sorry.
-/
import Derived.Test.YthkodldppaccmaaGreatDoorChecked
import GoSem.Claim
import GoSem.ClaimJoined
import GoSem.ClaimMapViews
import Derived.JoinedTies
import Derived.KernelRfl
namespace Go.Proofs.YthkodldppaccmaaGreatDoor
/- THE CELL 'sum', in the pinned program and in every row, IS THE sha256 OF THE DUMP (.gsa) THAT YthkodldppaccmaaGreatDoorProg.lean LOADS. Nothing in Lean hashes anything: it is a label: what it is worth is what the hold of that sum in a sandbox is worth. -/
noncomputable def Tryz.pinned : Pinned := { name := "ythkodldppaccmaagreatdoor", sum := "306aeb3a8cef6225b4af36d5f6f798709fb69e1766959dedb1f5739c93b58b18", checked := Tryz.checked }
namespace Rows
def none {H : Type} : Left H := { results := [], args := [] }

/- WHAT THE LISTED PACKAGE-LEVEL VARIABLES READ AS WHEN THE CALL BEGINS. Each datum BY PROGRAM (the guide's laid-datum.mjs) off the statement by which the dump's own 'gosem.cut.vars' lays the variable. In a bare row this is a premise. The card (YthkodldppaccmaaGreatDoorCards.lean) ties it to the program's text. -/
def laid_math_bits_deBruijn32tab {H : Type} : DataW H := .agg [.lit (.int .u8 0), .lit (.int .u8 1), .lit (.int .u8 28), .lit (.int .u8 2), .lit (.int .u8 29), .lit (.int .u8 14), .lit (.int .u8 24), .lit (.int .u8 3), .lit (.int .u8 30), .lit (.int .u8 22), .lit (.int .u8 20), .lit (.int .u8 15), .lit (.int .u8 25), .lit (.int .u8 17), .lit (.int .u8 4), .lit (.int .u8 8), .lit (.int .u8 31), .lit (.int .u8 27), .lit (.int .u8 13), .lit (.int .u8 23), .lit (.int .u8 21), .lit (.int .u8 19), .lit (.int .u8 16), .lit (.int .u8 7), .lit (.int .u8 26), .lit (.int .u8 12), .lit (.int .u8 18), .lit (.int .u8 6), .lit (.int .u8 11), .lit (.int .u8 5), .lit (.int .u8 10), .lit (.int .u8 9)]
def laid_math_bits_deBruijn64tab {H : Type} : DataW H := .agg [.lit (.int .u8 0), .lit (.int .u8 1), .lit (.int .u8 56), .lit (.int .u8 2), .lit (.int .u8 57), .lit (.int .u8 49), .lit (.int .u8 28), .lit (.int .u8 3), .lit (.int .u8 61), .lit (.int .u8 58), .lit (.int .u8 42), .lit (.int .u8 50), .lit (.int .u8 38), .lit (.int .u8 29), .lit (.int .u8 17), .lit (.int .u8 4), .lit (.int .u8 62), .lit (.int .u8 47), .lit (.int .u8 59), .lit (.int .u8 36), .lit (.int .u8 45), .lit (.int .u8 43), .lit (.int .u8 51), .lit (.int .u8 22), .lit (.int .u8 53), .lit (.int .u8 39), .lit (.int .u8 33), .lit (.int .u8 30), .lit (.int .u8 24), .lit (.int .u8 18), .lit (.int .u8 12), .lit (.int .u8 5), .lit (.int .u8 63), .lit (.int .u8 55), .lit (.int .u8 48), .lit (.int .u8 27), .lit (.int .u8 60), .lit (.int .u8 41), .lit (.int .u8 37), .lit (.int .u8 16), .lit (.int .u8 46), .lit (.int .u8 35), .lit (.int .u8 44), .lit (.int .u8 21), .lit (.int .u8 52), .lit (.int .u8 32), .lit (.int .u8 23), .lit (.int .u8 11), .lit (.int .u8 54), .lit (.int .u8 26), .lit (.int .u8 40), .lit (.int .u8 15), .lit (.int .u8 34), .lit (.int .u8 20), .lit (.int .u8 31), .lit (.int .u8 10), .lit (.int .u8 25), .lit (.int .u8 14), .lit (.int .u8 19), .lit (.int .u8 9), .lit (.int .u8 13), .lit (.int .u8 8), .lit (.int .u8 7), .lit (.int .u8 6)]
def laid_internal_strconv_uint64pow10 {H : Type} : DataW H := .agg [.lit (.int .u64 1), .lit (.int .u64 10), .lit (.int .u64 100), .lit (.int .u64 1000), .lit (.int .u64 10000), .lit (.int .u64 100000), .lit (.int .u64 1000000), .lit (.int .u64 10000000), .lit (.int .u64 100000000), .lit (.int .u64 1000000000), .lit (.int .u64 10000000000), .lit (.int .u64 100000000000), .lit (.int .u64 1000000000000), .lit (.int .u64 10000000000000), .lit (.int .u64 100000000000000), .lit (.int .u64 1000000000000000), .lit (.int .u64 10000000000000000), .lit (.int .u64 100000000000000000), .lit (.int .u64 1000000000000000000), .lit (.int .u64 10000000000000000000)]

/-- 'gussetlaw12.VecsPlays': WHATEVER THE INPUT: true; the input reads as it did. -/
def vecsPlaysSpec : ChangeSpec := { name := "vecsPlays", fn := fun _ => fun
  | [d1, d2, d3] => { results := [.lit (.bool true)], args := [d1, d2, d3] }
  | _ => none }
def vecsPlaysRow : OpenClaim := { program := "ythkodldppaccmaagreatdoor", sum := "306aeb3a8cef6225b4af36d5f6f798709fb69e1766959dedb1f5739c93b58b18", func := "gusset/gussetlaw12.VecsPlays", spec := "vecsPlays", inPlace := ["math/bits.Add64", "math/bits.Sub64", "internal/abi.NoEscape", "internal/bytealg.MakeNoZero"], unfollowed := true, recurses := true, named := ["math/bits.divideError", "math/bits.overflowError", "internal/strconv.uint64pow10", "math/bits.deBruijn32tab", "math/bits.deBruijn64tab"], apart := false, laid := [("math/bits.deBruijn32tab", laid_math_bits_deBruijn32tab), ("math/bits.deBruijn64tab", laid_math_bits_deBruijn64tab), ("internal/strconv.uint64pow10", laid_internal_strconv_uint64pow10)] }
def VecsPlaysSaid : Prop := vecsPlaysRow.holds Tryz.pinned (OpenSpec.ofChange vecsPlaysSpec)

/-- ITS FALSE NEIGHBOUR: 'it returns false'. Refute it at one input. -/
def vecsPlaysWrong : ChangeSpec := { name := "vecsPlays", fn := fun _ => fun
  | [d1, d2, d3] => { results := [.lit (.bool false)], args := [d1, d2, d3] }
  | _ => none }
def VecsPlaysWrongFalsely : Prop := vecsPlaysRow.holds Tryz.pinned (OpenSpec.ofChange vecsPlaysWrong)

/-- 'gussetlaw12.VecsSums': WHATEVER THE INPUT: true; the input reads as it did. -/
def vecsSumsSpec : ChangeSpec := { name := "vecsSums", fn := fun _ => fun
  | [d1, d2, d3] => { results := [.lit (.bool true)], args := [d1, d2, d3] }
  | _ => none }
def vecsSumsRow : OpenClaim := { program := "ythkodldppaccmaagreatdoor", sum := "306aeb3a8cef6225b4af36d5f6f798709fb69e1766959dedb1f5739c93b58b18", func := "gusset/gussetlaw12.VecsSums", spec := "vecsSums", inPlace := ["math/bits.Add64", "math/bits.Sub64", "internal/abi.NoEscape", "internal/bytealg.MakeNoZero"], unfollowed := true, recurses := true, named := ["math/bits.divideError", "math/bits.overflowError", "internal/strconv.uint64pow10", "math/bits.deBruijn32tab", "math/bits.deBruijn64tab"], apart := false, laid := [("math/bits.deBruijn32tab", laid_math_bits_deBruijn32tab), ("math/bits.deBruijn64tab", laid_math_bits_deBruijn64tab), ("internal/strconv.uint64pow10", laid_internal_strconv_uint64pow10)] }
def VecsSumsSaid : Prop := vecsSumsRow.holds Tryz.pinned (OpenSpec.ofChange vecsSumsSpec)

/-- ITS FALSE NEIGHBOUR: 'it returns false'. Refute it at one input. -/
def vecsSumsWrong : ChangeSpec := { name := "vecsSums", fn := fun _ => fun
  | [d1, d2, d3] => { results := [.lit (.bool false)], args := [d1, d2, d3] }
  | _ => none }
def VecsSumsWrongFalsely : Prop := vecsSumsRow.holds Tryz.pinned (OpenSpec.ofChange vecsSumsWrong)

/-- 'gussetlaw13.MatsPlays': WHATEVER THE INPUT: true; the input reads as it did. -/
def matsPlaysSpec : ChangeSpec := { name := "matsPlays", fn := fun _ => fun
  | [d1, d2, d3] => { results := [.lit (.bool true)], args := [d1, d2, d3] }
  | _ => none }
def matsPlaysRow : OpenClaim := { program := "ythkodldppaccmaagreatdoor", sum := "306aeb3a8cef6225b4af36d5f6f798709fb69e1766959dedb1f5739c93b58b18", func := "gusset/gussetlaw13.MatsPlays", spec := "matsPlays", inPlace := ["math/bits.Add64", "math/bits.Sub64", "internal/abi.NoEscape", "internal/bytealg.MakeNoZero"], unfollowed := true, recurses := true, named := ["math/bits.divideError", "math/bits.overflowError", "internal/strconv.uint64pow10", "math/bits.deBruijn32tab", "math/bits.deBruijn64tab"], apart := false, laid := [("math/bits.deBruijn32tab", laid_math_bits_deBruijn32tab), ("math/bits.deBruijn64tab", laid_math_bits_deBruijn64tab), ("internal/strconv.uint64pow10", laid_internal_strconv_uint64pow10)] }
def MatsPlaysSaid : Prop := matsPlaysRow.holds Tryz.pinned (OpenSpec.ofChange matsPlaysSpec)

/-- ITS FALSE NEIGHBOUR: 'it returns false'. Refute it at one input. -/
def matsPlaysWrong : ChangeSpec := { name := "matsPlays", fn := fun _ => fun
  | [d1, d2, d3] => { results := [.lit (.bool false)], args := [d1, d2, d3] }
  | _ => none }
def MatsPlaysWrongFalsely : Prop := matsPlaysRow.holds Tryz.pinned (OpenSpec.ofChange matsPlaysWrong)

/-- 'gussetlaw13.MatsApply': WHATEVER THE INPUT: true; the input reads as it did. -/
def matsApplySpec : ChangeSpec := { name := "matsApply", fn := fun _ => fun
  | [d1, d2, d3] => { results := [.lit (.bool true)], args := [d1, d2, d3] }
  | _ => none }
def matsApplyRow : OpenClaim := { program := "ythkodldppaccmaagreatdoor", sum := "306aeb3a8cef6225b4af36d5f6f798709fb69e1766959dedb1f5739c93b58b18", func := "gusset/gussetlaw13.MatsApply", spec := "matsApply", inPlace := ["math/bits.Add64", "math/bits.Sub64", "internal/abi.NoEscape", "internal/bytealg.MakeNoZero"], unfollowed := true, recurses := true, named := ["math/bits.divideError", "math/bits.overflowError", "internal/strconv.uint64pow10", "math/bits.deBruijn32tab", "math/bits.deBruijn64tab"], apart := false, laid := [("math/bits.deBruijn32tab", laid_math_bits_deBruijn32tab), ("math/bits.deBruijn64tab", laid_math_bits_deBruijn64tab), ("internal/strconv.uint64pow10", laid_internal_strconv_uint64pow10)] }
def MatsApplySaid : Prop := matsApplyRow.holds Tryz.pinned (OpenSpec.ofChange matsApplySpec)

/-- ITS FALSE NEIGHBOUR: 'it returns false'. Refute it at one input. -/
def matsApplyWrong : ChangeSpec := { name := "matsApply", fn := fun _ => fun
  | [d1, d2, d3] => { results := [.lit (.bool false)], args := [d1, d2, d3] }
  | _ => none }
def MatsApplyWrongFalsely : Prop := matsApplyRow.holds Tryz.pinned (OpenSpec.ofChange matsApplyWrong)

/-- 'gussetlaw13.MatsRing': WHATEVER THE INPUT: true; the input reads as it did. -/
def matsRingSpec : ChangeSpec := { name := "matsRing", fn := fun _ => fun
  | [d1, d2, d3, d4, d5, d6, d7, d8] => { results := [.lit (.bool true)], args := [d1, d2, d3, d4, d5, d6, d7, d8] }
  | _ => none }
def matsRingRow : OpenClaim := { program := "ythkodldppaccmaagreatdoor", sum := "306aeb3a8cef6225b4af36d5f6f798709fb69e1766959dedb1f5739c93b58b18", func := "gusset/gussetlaw13.MatsRing", spec := "matsRing", inPlace := ["math/bits.Add64", "math/bits.Sub64", "internal/abi.NoEscape", "internal/bytealg.MakeNoZero"], unfollowed := true, recurses := true, named := ["math/bits.divideError", "math/bits.overflowError", "internal/strconv.uint64pow10", "math/bits.deBruijn32tab", "math/bits.deBruijn64tab"], apart := false, laid := [("math/bits.deBruijn32tab", laid_math_bits_deBruijn32tab), ("math/bits.deBruijn64tab", laid_math_bits_deBruijn64tab), ("internal/strconv.uint64pow10", laid_internal_strconv_uint64pow10)] }
def MatsRingSaid : Prop := matsRingRow.holds Tryz.pinned (OpenSpec.ofChange matsRingSpec)

/-- ITS FALSE NEIGHBOUR: 'it returns false'. Refute it at one input. -/
def matsRingWrong : ChangeSpec := { name := "matsRing", fn := fun _ => fun
  | [d1, d2, d3, d4, d5, d6, d7, d8] => { results := [.lit (.bool false)], args := [d1, d2, d3, d4, d5, d6, d7, d8] }
  | _ => none }
def MatsRingWrongFalsely : Prop := matsRingRow.holds Tryz.pinned (OpenSpec.ofChange matsRingWrong)

/-- 'gussetlaw13.MatsForms': WHATEVER THE INPUT: true; the input reads as it did. -/
def matsFormsSpec : ChangeSpec := { name := "matsForms", fn := fun _ => fun
  | [d1, d2, d3, d4] => { results := [.lit (.bool true)], args := [d1, d2, d3, d4] }
  | _ => none }
def matsFormsRow : OpenClaim := { program := "ythkodldppaccmaagreatdoor", sum := "306aeb3a8cef6225b4af36d5f6f798709fb69e1766959dedb1f5739c93b58b18", func := "gusset/gussetlaw13.MatsForms", spec := "matsForms", inPlace := ["math/bits.Add64", "math/bits.Sub64", "internal/abi.NoEscape", "internal/bytealg.MakeNoZero"], unfollowed := true, recurses := true, named := ["math/bits.divideError", "math/bits.overflowError", "internal/strconv.uint64pow10", "math/bits.deBruijn32tab", "math/bits.deBruijn64tab"], apart := false, laid := [("math/bits.deBruijn32tab", laid_math_bits_deBruijn32tab), ("math/bits.deBruijn64tab", laid_math_bits_deBruijn64tab), ("internal/strconv.uint64pow10", laid_internal_strconv_uint64pow10)] }
def MatsFormsSaid : Prop := matsFormsRow.holds Tryz.pinned (OpenSpec.ofChange matsFormsSpec)

/-- ITS FALSE NEIGHBOUR: 'it returns false'. Refute it at one input. -/
def matsFormsWrong : ChangeSpec := { name := "matsForms", fn := fun _ => fun
  | [d1, d2, d3, d4] => { results := [.lit (.bool false)], args := [d1, d2, d3, d4] }
  | _ => none }
def MatsFormsWrongFalsely : Prop := matsFormsRow.holds Tryz.pinned (OpenSpec.ofChange matsFormsWrong)

/-- 'gussetlaw13.MatsParts': WHATEVER THE INPUT: true; the input reads as it did. -/
def matsPartsSpec : ChangeSpec := { name := "matsParts", fn := fun _ => fun
  | [d1, d2, d3, d4] => { results := [.lit (.bool true)], args := [d1, d2, d3, d4] }
  | _ => none }
def matsPartsRow : OpenClaim := { program := "ythkodldppaccmaagreatdoor", sum := "306aeb3a8cef6225b4af36d5f6f798709fb69e1766959dedb1f5739c93b58b18", func := "gusset/gussetlaw13.MatsParts", spec := "matsParts", inPlace := ["math/bits.Add64", "math/bits.Sub64", "internal/abi.NoEscape", "internal/bytealg.MakeNoZero"], unfollowed := true, recurses := true, named := ["math/bits.divideError", "math/bits.overflowError", "internal/strconv.uint64pow10", "math/bits.deBruijn32tab", "math/bits.deBruijn64tab"], apart := false, laid := [("math/bits.deBruijn32tab", laid_math_bits_deBruijn32tab), ("math/bits.deBruijn64tab", laid_math_bits_deBruijn64tab), ("internal/strconv.uint64pow10", laid_internal_strconv_uint64pow10)] }
def MatsPartsSaid : Prop := matsPartsRow.holds Tryz.pinned (OpenSpec.ofChange matsPartsSpec)

/-- ITS FALSE NEIGHBOUR: 'it returns false'. Refute it at one input. -/
def matsPartsWrong : ChangeSpec := { name := "matsParts", fn := fun _ => fun
  | [d1, d2, d3, d4] => { results := [.lit (.bool false)], args := [d1, d2, d3, d4] }
  | _ => none }
def MatsPartsWrongFalsely : Prop := matsPartsRow.holds Tryz.pinned (OpenSpec.ofChange matsPartsWrong)

/-- 'gussetlaw13.MatsErrors': WHATEVER THE INPUT: true; the input reads as it did. -/
def matsErrorsSpec : ChangeSpec := { name := "matsErrors", fn := fun _ => fun
  | [d1, d2, d3, d4, d5] => { results := [.lit (.bool true)], args := [d1, d2, d3, d4, d5] }
  | _ => none }
def matsErrorsRow : OpenClaim := { program := "ythkodldppaccmaagreatdoor", sum := "306aeb3a8cef6225b4af36d5f6f798709fb69e1766959dedb1f5739c93b58b18", func := "gusset/gussetlaw13.MatsErrors", spec := "matsErrors", inPlace := ["math/bits.Add64", "math/bits.Sub64", "internal/abi.NoEscape", "internal/bytealg.MakeNoZero"], unfollowed := true, recurses := true, named := ["math/bits.divideError", "math/bits.overflowError", "internal/strconv.uint64pow10", "math/bits.deBruijn32tab", "math/bits.deBruijn64tab"], apart := false, laid := [("math/bits.deBruijn32tab", laid_math_bits_deBruijn32tab), ("math/bits.deBruijn64tab", laid_math_bits_deBruijn64tab), ("internal/strconv.uint64pow10", laid_internal_strconv_uint64pow10)] }
def MatsErrorsSaid : Prop := matsErrorsRow.holds Tryz.pinned (OpenSpec.ofChange matsErrorsSpec)

/-- ITS FALSE NEIGHBOUR: 'it returns false'. Refute it at one input. -/
def matsErrorsWrong : ChangeSpec := { name := "matsErrors", fn := fun _ => fun
  | [d1, d2, d3, d4, d5] => { results := [.lit (.bool false)], args := [d1, d2, d3, d4, d5] }
  | _ => none }
def MatsErrorsWrongFalsely : Prop := matsErrorsRow.holds Tryz.pinned (OpenSpec.ofChange matsErrorsWrong)

/-- 'gussetlaw13.MatsMakes': WHATEVER THE INPUT: true; the input reads as it did. -/
def matsMakesSpec : ChangeSpec := { name := "matsMakes", fn := fun _ => fun
  | [d1, d2, d3] => { results := [.lit (.bool true)], args := [d1, d2, d3] }
  | _ => none }
def matsMakesRow : OpenClaim := { program := "ythkodldppaccmaagreatdoor", sum := "306aeb3a8cef6225b4af36d5f6f798709fb69e1766959dedb1f5739c93b58b18", func := "gusset/gussetlaw13.MatsMakes", spec := "matsMakes", inPlace := ["math/bits.Add64", "math/bits.Sub64", "internal/abi.NoEscape", "internal/bytealg.MakeNoZero"], unfollowed := true, recurses := true, named := ["math/bits.divideError", "math/bits.overflowError", "internal/strconv.uint64pow10", "math/bits.deBruijn32tab", "math/bits.deBruijn64tab"], apart := false, laid := [("math/bits.deBruijn32tab", laid_math_bits_deBruijn32tab), ("math/bits.deBruijn64tab", laid_math_bits_deBruijn64tab), ("internal/strconv.uint64pow10", laid_internal_strconv_uint64pow10)] }
def MatsMakesSaid : Prop := matsMakesRow.holds Tryz.pinned (OpenSpec.ofChange matsMakesSpec)

/-- ITS FALSE NEIGHBOUR: 'it returns false'. Refute it at one input. -/
def matsMakesWrong : ChangeSpec := { name := "matsMakes", fn := fun _ => fun
  | [d1, d2, d3] => { results := [.lit (.bool false)], args := [d1, d2, d3] }
  | _ => none }
def MatsMakesWrongFalsely : Prop := matsMakesRow.holds Tryz.pinned (OpenSpec.ofChange matsMakesWrong)

/- THE SECOND FORM. 'bulk': how many values and letters a reading holds, each counted each time it is reached (what is shared counts as often as it is met; a slice's spare places count too). A statement '..UptoSaid' is the law's where the arguments, and the package variables that the reading takes, are together of bulk at most 1048576: NARROWER than '..Said'. Prove '..Said' where nothing that the law and all that it calls make is longer than what came in: it says more and counts as full. Else prove '..UptoSaid'. A law counts once. -/
mutual
def uptoBulk {H : Type} : DataW H → Nat
  | .lit (.string bytes) => bytes.length + 1
  | .lit _ => 1
  | .nil => 1
  | .ptr d => uptoBulk d + 1
  | .slice elems spare => uptoBulkAll elems + uptoBulkAll spare + 1
  | .agg parts => uptoBulkAll parts + 1
  | .iface _ d => uptoBulk d + 1
  | .map entries => uptoBulkEntries entries + 1
  | .held _ => 1
def uptoBulkAll {H : Type} : List (DataW H) → Nat
  | [] => 0
  | d :: r => uptoBulk d + uptoBulkAll r
def uptoBulkEntries {H : Type} : List (Lit × DataW H) → Nat
  | [] => 0
  | x :: r => uptoBulkEntry x + uptoBulkEntries r
def uptoBulkEntry {H : Type} : Lit × DataW H → Nat
  | (.string bytes, d) => bytes.length + uptoBulk d + 1
  | (_, d) => uptoBulk d + 1
 end
def uptoSmall : (H : Type) → List (DataW H) → Bool := fun _ ds => decide (uptoBulkAll ds ≤ 1048576)
def OpenSpec.upto (s : _root_.Go.ChangeSpec) : _root_.Go.OpenSpec := { _root_.Go.OpenSpec.ofChange s with cond := some uptoSmall }

/-- 'gussetlaw12.VecsPlays', WHERE WHAT IT READS IS OF BULK AT MOST 1048576: true; the input reads as it did. -/
def vecsPlaysUptoRow : OpenClaim := { program := "ythkodldppaccmaagreatdoor", sum := "306aeb3a8cef6225b4af36d5f6f798709fb69e1766959dedb1f5739c93b58b18", func := "gusset/gussetlaw12.VecsPlays", spec := "vecsPlays", inPlace := ["math/bits.Add64", "math/bits.Sub64", "internal/abi.NoEscape", "internal/bytealg.MakeNoZero"], unfollowed := true, recurses := true, named := ["math/bits.divideError", "math/bits.overflowError", "internal/strconv.uint64pow10", "math/bits.deBruijn32tab", "math/bits.deBruijn64tab"], apart := false, laid := [("math/bits.deBruijn32tab", laid_math_bits_deBruijn32tab), ("math/bits.deBruijn64tab", laid_math_bits_deBruijn64tab), ("internal/strconv.uint64pow10", laid_internal_strconv_uint64pow10)], narrowed := true }
def VecsPlaysUptoSaid : Prop := vecsPlaysUptoRow.holds Tryz.pinned (OpenSpec.upto vecsPlaysSpec)

/-- 'gussetlaw12.VecsSums', WHERE WHAT IT READS IS OF BULK AT MOST 1048576: true; the input reads as it did. -/
def vecsSumsUptoRow : OpenClaim := { program := "ythkodldppaccmaagreatdoor", sum := "306aeb3a8cef6225b4af36d5f6f798709fb69e1766959dedb1f5739c93b58b18", func := "gusset/gussetlaw12.VecsSums", spec := "vecsSums", inPlace := ["math/bits.Add64", "math/bits.Sub64", "internal/abi.NoEscape", "internal/bytealg.MakeNoZero"], unfollowed := true, recurses := true, named := ["math/bits.divideError", "math/bits.overflowError", "internal/strconv.uint64pow10", "math/bits.deBruijn32tab", "math/bits.deBruijn64tab"], apart := false, laid := [("math/bits.deBruijn32tab", laid_math_bits_deBruijn32tab), ("math/bits.deBruijn64tab", laid_math_bits_deBruijn64tab), ("internal/strconv.uint64pow10", laid_internal_strconv_uint64pow10)], narrowed := true }
def VecsSumsUptoSaid : Prop := vecsSumsUptoRow.holds Tryz.pinned (OpenSpec.upto vecsSumsSpec)

/-- 'gussetlaw13.MatsPlays', WHERE WHAT IT READS IS OF BULK AT MOST 1048576: true; the input reads as it did. -/
def matsPlaysUptoRow : OpenClaim := { program := "ythkodldppaccmaagreatdoor", sum := "306aeb3a8cef6225b4af36d5f6f798709fb69e1766959dedb1f5739c93b58b18", func := "gusset/gussetlaw13.MatsPlays", spec := "matsPlays", inPlace := ["math/bits.Add64", "math/bits.Sub64", "internal/abi.NoEscape", "internal/bytealg.MakeNoZero"], unfollowed := true, recurses := true, named := ["math/bits.divideError", "math/bits.overflowError", "internal/strconv.uint64pow10", "math/bits.deBruijn32tab", "math/bits.deBruijn64tab"], apart := false, laid := [("math/bits.deBruijn32tab", laid_math_bits_deBruijn32tab), ("math/bits.deBruijn64tab", laid_math_bits_deBruijn64tab), ("internal/strconv.uint64pow10", laid_internal_strconv_uint64pow10)], narrowed := true }
def MatsPlaysUptoSaid : Prop := matsPlaysUptoRow.holds Tryz.pinned (OpenSpec.upto matsPlaysSpec)

/-- 'gussetlaw13.MatsApply', WHERE WHAT IT READS IS OF BULK AT MOST 1048576: true; the input reads as it did. -/
def matsApplyUptoRow : OpenClaim := { program := "ythkodldppaccmaagreatdoor", sum := "306aeb3a8cef6225b4af36d5f6f798709fb69e1766959dedb1f5739c93b58b18", func := "gusset/gussetlaw13.MatsApply", spec := "matsApply", inPlace := ["math/bits.Add64", "math/bits.Sub64", "internal/abi.NoEscape", "internal/bytealg.MakeNoZero"], unfollowed := true, recurses := true, named := ["math/bits.divideError", "math/bits.overflowError", "internal/strconv.uint64pow10", "math/bits.deBruijn32tab", "math/bits.deBruijn64tab"], apart := false, laid := [("math/bits.deBruijn32tab", laid_math_bits_deBruijn32tab), ("math/bits.deBruijn64tab", laid_math_bits_deBruijn64tab), ("internal/strconv.uint64pow10", laid_internal_strconv_uint64pow10)], narrowed := true }
def MatsApplyUptoSaid : Prop := matsApplyUptoRow.holds Tryz.pinned (OpenSpec.upto matsApplySpec)

/-- 'gussetlaw13.MatsRing', WHERE WHAT IT READS IS OF BULK AT MOST 1048576: true; the input reads as it did. -/
def matsRingUptoRow : OpenClaim := { program := "ythkodldppaccmaagreatdoor", sum := "306aeb3a8cef6225b4af36d5f6f798709fb69e1766959dedb1f5739c93b58b18", func := "gusset/gussetlaw13.MatsRing", spec := "matsRing", inPlace := ["math/bits.Add64", "math/bits.Sub64", "internal/abi.NoEscape", "internal/bytealg.MakeNoZero"], unfollowed := true, recurses := true, named := ["math/bits.divideError", "math/bits.overflowError", "internal/strconv.uint64pow10", "math/bits.deBruijn32tab", "math/bits.deBruijn64tab"], apart := false, laid := [("math/bits.deBruijn32tab", laid_math_bits_deBruijn32tab), ("math/bits.deBruijn64tab", laid_math_bits_deBruijn64tab), ("internal/strconv.uint64pow10", laid_internal_strconv_uint64pow10)], narrowed := true }
def MatsRingUptoSaid : Prop := matsRingUptoRow.holds Tryz.pinned (OpenSpec.upto matsRingSpec)

/-- 'gussetlaw13.MatsForms', WHERE WHAT IT READS IS OF BULK AT MOST 1048576: true; the input reads as it did. -/
def matsFormsUptoRow : OpenClaim := { program := "ythkodldppaccmaagreatdoor", sum := "306aeb3a8cef6225b4af36d5f6f798709fb69e1766959dedb1f5739c93b58b18", func := "gusset/gussetlaw13.MatsForms", spec := "matsForms", inPlace := ["math/bits.Add64", "math/bits.Sub64", "internal/abi.NoEscape", "internal/bytealg.MakeNoZero"], unfollowed := true, recurses := true, named := ["math/bits.divideError", "math/bits.overflowError", "internal/strconv.uint64pow10", "math/bits.deBruijn32tab", "math/bits.deBruijn64tab"], apart := false, laid := [("math/bits.deBruijn32tab", laid_math_bits_deBruijn32tab), ("math/bits.deBruijn64tab", laid_math_bits_deBruijn64tab), ("internal/strconv.uint64pow10", laid_internal_strconv_uint64pow10)], narrowed := true }
def MatsFormsUptoSaid : Prop := matsFormsUptoRow.holds Tryz.pinned (OpenSpec.upto matsFormsSpec)

/-- 'gussetlaw13.MatsParts', WHERE WHAT IT READS IS OF BULK AT MOST 1048576: true; the input reads as it did. -/
def matsPartsUptoRow : OpenClaim := { program := "ythkodldppaccmaagreatdoor", sum := "306aeb3a8cef6225b4af36d5f6f798709fb69e1766959dedb1f5739c93b58b18", func := "gusset/gussetlaw13.MatsParts", spec := "matsParts", inPlace := ["math/bits.Add64", "math/bits.Sub64", "internal/abi.NoEscape", "internal/bytealg.MakeNoZero"], unfollowed := true, recurses := true, named := ["math/bits.divideError", "math/bits.overflowError", "internal/strconv.uint64pow10", "math/bits.deBruijn32tab", "math/bits.deBruijn64tab"], apart := false, laid := [("math/bits.deBruijn32tab", laid_math_bits_deBruijn32tab), ("math/bits.deBruijn64tab", laid_math_bits_deBruijn64tab), ("internal/strconv.uint64pow10", laid_internal_strconv_uint64pow10)], narrowed := true }
def MatsPartsUptoSaid : Prop := matsPartsUptoRow.holds Tryz.pinned (OpenSpec.upto matsPartsSpec)

/-- 'gussetlaw13.MatsErrors', WHERE WHAT IT READS IS OF BULK AT MOST 1048576: true; the input reads as it did. -/
def matsErrorsUptoRow : OpenClaim := { program := "ythkodldppaccmaagreatdoor", sum := "306aeb3a8cef6225b4af36d5f6f798709fb69e1766959dedb1f5739c93b58b18", func := "gusset/gussetlaw13.MatsErrors", spec := "matsErrors", inPlace := ["math/bits.Add64", "math/bits.Sub64", "internal/abi.NoEscape", "internal/bytealg.MakeNoZero"], unfollowed := true, recurses := true, named := ["math/bits.divideError", "math/bits.overflowError", "internal/strconv.uint64pow10", "math/bits.deBruijn32tab", "math/bits.deBruijn64tab"], apart := false, laid := [("math/bits.deBruijn32tab", laid_math_bits_deBruijn32tab), ("math/bits.deBruijn64tab", laid_math_bits_deBruijn64tab), ("internal/strconv.uint64pow10", laid_internal_strconv_uint64pow10)], narrowed := true }
def MatsErrorsUptoSaid : Prop := matsErrorsUptoRow.holds Tryz.pinned (OpenSpec.upto matsErrorsSpec)

/-- 'gussetlaw13.MatsMakes', WHERE WHAT IT READS IS OF BULK AT MOST 1048576: true; the input reads as it did. -/
def matsMakesUptoRow : OpenClaim := { program := "ythkodldppaccmaagreatdoor", sum := "306aeb3a8cef6225b4af36d5f6f798709fb69e1766959dedb1f5739c93b58b18", func := "gusset/gussetlaw13.MatsMakes", spec := "matsMakes", inPlace := ["math/bits.Add64", "math/bits.Sub64", "internal/abi.NoEscape", "internal/bytealg.MakeNoZero"], unfollowed := true, recurses := true, named := ["math/bits.divideError", "math/bits.overflowError", "internal/strconv.uint64pow10", "math/bits.deBruijn32tab", "math/bits.deBruijn64tab"], apart := false, laid := [("math/bits.deBruijn32tab", laid_math_bits_deBruijn32tab), ("math/bits.deBruijn64tab", laid_math_bits_deBruijn64tab), ("internal/strconv.uint64pow10", laid_internal_strconv_uint64pow10)], narrowed := true }
def MatsMakesUptoSaid : Prop := matsMakesUptoRow.holds Tryz.pinned (OpenSpec.upto matsMakesSpec)

end Rows
end Go.Proofs.YthkodldppaccmaaGreatDoor
