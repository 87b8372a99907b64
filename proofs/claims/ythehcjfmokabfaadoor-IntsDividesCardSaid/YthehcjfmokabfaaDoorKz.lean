/-
  Layer 2, cards: a parameter that is a plain integer (gussetlaw02.Z).
-/
import Derived.Test.YthehcjfmokabfaaDoorKa
import Derived.Lib.SmallJoins
set_option linter.unusedVariables false
set_option linter.unusedSimpArgs false
namespace Go.Proofs.YthehcjfmokabfaaDoor
open Go.ChangeShapes Go.WideShapes Go.ChangeAt Go.RowKit Go.Joins

theorem cellsZ : Tryd.prog.cellsOf 43 = 2 := by kernel_rfl
theorem ws_of_trod {H : Type} {enc : TypeId × Value → H} {W : World} {v : Value} {y : DataW H × List MemPlace} {fuel : Nat} (hf : DataW.trod enc Tryd.prog W 0 (fun _ => true) true fuel 41 [v] = some y) : ∃ a n c l, v = .slice a n c ∧ Ws W v l := by
  rcases open_ints Tryd.underlying41 Tryd.underlying109 cells62 hf with ⟨hcs, hx⟩ | ⟨a, len', cap', zs, hcs, _, hl, hm, hz, hx, hcell, hwz⟩
  · simp only [List.cons.injEq, and_true] at hcs
    subst hcs
    exact ⟨none, 0, 0, [], rfl, .inl ⟨_, _, rfl, rfl⟩⟩
  · simp only [List.cons.injEq, and_true] at hcs
    subst hcs
    simp only [if_true] at hz
    refine ⟨some a, len', cap', ?_⟩
    by_cases h0 : len' = 0
    · subst h0
      exact ⟨[], rfl, .inl ⟨_, _, rfl, rfl⟩⟩
    · have hll : ((zs.take len').map Int.toNat).length = len' := by simp; omega
      refine ⟨(zs.take len').map Int.toNat, rfl, .inr ⟨a, cap', by rw [hll], ?_, ?_, ?_⟩⟩
      · intro x hx
        obtain ⟨z, hz1, rfl⟩ := List.mem_map.1 hx
        have := wide_u32 (hwz z (List.mem_of_mem_take hz1))
        omega
      · intro i hi
        rw [hll] at hi
        have hi2 : i < zs.length := by omega
        have e := hcell i hi2
        rw [show zs.getD i 0 = zs[i] by simp [List.getD, hi2]] at e
        have hw := wide_u32 (hwz zs[i] (List.getElem_mem hi2))
        rw [e]
        simp only [List.getElem_map, List.getElem_take]
        rw [Int.toNat_of_nonneg hw.1]
      · have e := hcell 0 (by omega)
        have := World.block_lt_of_cell? W _ e
        rw [show (a.add 0).block = a.block from by unfold Addr.add; split <;> rfl] at this
        exact this
set_option maxRecDepth 100000 in
theorem z_of {H : Type} {enc : TypeId × Value → H} {W : World} {base : Nat} {v : Value} {d : DataW H} {p : List MemPlace} (hv : Value.okWide Tryd.prog W .any base 43 v)
    (h : DataW.Trod enc Tryd.prog W 0 (fun _ => true) true 43 v d p) : ∃ s a n c l, v = .agg #[.bool s, .slice a n c] ∧ Ws W (.slice a n c) l := by
  obtain ⟨v0, v1, y0, y1, m, rfl, rfl, rfl, h0, h1⟩ := open_agg2 Tryd.underlying43 (by kernel_rfl) cellsZ hv h
  obtain ⟨s, e0, -⟩ := DataW.trod_bool Tryd.underlying4 h0
  obtain ⟨a, n, c, l, rfl, hw⟩ := ws_of_trod h1
  simp only [List.cons.injEq, and_true] at e0
  subst e0
  exact ⟨s, a, n, c, l, rfl, hw⟩
end Go.Proofs.YthehcjfmokabfaaDoor
