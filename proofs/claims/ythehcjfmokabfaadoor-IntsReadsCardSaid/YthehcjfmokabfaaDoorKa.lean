/-
  Layer 1, cards: what the cards of all laws share.
-/
import Derived.Test.YthehcjfmokabfaaDoorLa
import Derived.Test.YthehcjfmokabfaaDoorCards
import Derived.Test.YthehcjfmokabfaaDoorTie
import Derived.ProofKit
import Derived.OpenShut
import Derived.ChangeSlices
import Derived.Carry
import Derived.Lay
import Derived.MakeChecks
import Derived.LaidSub
import Derived.Lib.LaidTab
import Derived.Deep.DeepHandedRow
set_option linter.unusedVariables false
set_option linter.unusedSimpArgs false
namespace Go.Proofs.YthehcjfmokabfaaDoor
open Go.ChangeShapes Go.WideShapes Go.ChangeAt Go.RowKit

theorem own : ownKnob Tryd.prog.godebug = none := by kernel_rfl
theorem laidOut : laidOutB Tryd.prog = true := by kernel_rfl
theorem cells62 : Tryd.prog.cellsOf 109 = 1 := by kernel_rfl
theorem cells24 : Tryd.prog.cellsOf 23 = 1 := by kernel_rfl

/-- The variables that every row of this layer lists. -/
def laidAll : List (String × DataW Unit) := [("math/bits.deBruijn32tab", Rows.laid_math_bits_deBruijn32tab), ("math/bits.deBruijn64tab", Rows.laid_math_bits_deBruijn64tab), ("internal/strconv.uint64pow10", Rows.laid_internal_strconv_uint64pow10)]
theorem gPow : Tryd.prog.globalNamed "internal/strconv.uint64pow10" = some 2 := by kernel_rfl

theorem gPowType : (Tryd.prog.globals[2]?).map (·.type) = some 152 := by kernel_rfl
theorem cells20 : Tryd.prog.cellsOf 152 = 20 := by kernel_rfl
theorem tab_of {W : World} (h : laidMetH Tryd.prog laidAll W) : Tab W := by
  have h1 := laidMetH.filter (fun x => x.1 == "internal/strconv.uint64pow10") h
  have e : laidAll.filter (fun x => x.1 == "internal/strconv.uint64pow10") = [("internal/strconv.uint64pow10", Rows.laid_internal_strconv_uint64pow10)] := by kernel_rfl
  rw [e, MakeChecks.laidMetH_plain _ _ _ (by kernel_rfl)] at h1
  exact Lib.tabIs_of_head (rest := []) gPow gPowType Tryd.underlying152 Tryd.underlying23 cells24 cells20 (show laidMet Tryd.prog (("internal/strconv.uint64pow10", Lib.tabData .u64 Lib.pow10Tab) :: []) W from h1)

theorem wide_u32 {n : Int} (h : (Lit.int .u32 n).wf = true) : 0 ≤ n ∧ n ≤ 4294967295 := bounds_u32 h

theorem ws_of {H : Type} {enc : TypeId × Value → H} {W : World} {v : Value} {d : DataW H} {p : List MemPlace} (h : DataW.Trod enc Tryd.prog W 0 (fun _ => true) true 41 v d p) (hv : ∃ a n c, v = .slice a n c) : ∃ l, Ws W v l := by
  obtain ⟨a0, len, cap, rfl⟩ := hv
  obtain ⟨fuel, hf⟩ := h
  rcases open_ints Tryd.underlying41 Tryd.underlying109 cells62 hf with ⟨hcs, hx⟩ | ⟨a, len', cap', zs, hcs, _, hl, hm, hz, hx, hcell, hwz⟩
  · simp [Value.cells] at hcs
    obtain ⟨rfl, rfl, rfl⟩ := hcs
    exact ⟨[], .inl ⟨_, _, rfl, rfl⟩⟩
  · simp [Value.cells] at hcs
    obtain ⟨rfl, rfl, rfl⟩ := hcs
    simp only [if_true] at hz
    by_cases h0 : len = 0
    · subst h0
      exact ⟨[], .inl ⟨_, _, rfl, rfl⟩⟩
    · have hll : ((zs.take len).map Int.toNat).length = len := by simp; omega
      refine ⟨(zs.take len).map Int.toNat, .inr ⟨a, cap, by rw [hll], ?_, ?_, ?_⟩⟩
      · intro x hx
        obtain ⟨z, hz1, rfl⟩ := List.mem_map.1 hx
        have := wide_u32 (hwz z (List.mem_of_mem_take hz1))
        omega
      · intro i hi
        rw [hll] at hi
        have hi2 : i < zs.length := by omega
        have e := hcell i hi2
        rw [show zs.getD i 0 = zs[i] by simp [List.getD, hi2]] at e
        have hw := wide_u32 (hwz zs[i] (List.getElem_mem hi2))
        rw [e]
        simp only [List.getElem_map, List.getElem_take]
        rw [Int.toNat_of_nonneg hw.1]
      · have e := hcell 0 (by omega)
        have := World.block_lt_of_cell? W _ e
        rw [show (a.add 0).block = a.block from by unfold Addr.add; split <;> rfl] at this
        exact this
end Go.Proofs.YthehcjfmokabfaaDoor
