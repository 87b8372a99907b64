/-
  Layer 1, walks U: Sqrt, Pow.
-/
import Derived.Test.YthehcjfmokabfaaDoorWt
set_option linter.unusedVariables false
set_option linter.unusedSimpArgs false
namespace Go.Proofs.YthehcjfmokabfaaDoor
open Go.RowKit
attribute [local irreducible] lo hs sm s64 c64 d64 b64 mh ml pd pc qd qc val hiB str cmpI srD lz nb isq

/-- The number that a struct in memory holds. -/
def rdn (w : World) (k : Nat) : Nat := match w.cell? ⟨k, 0, none⟩, w.cell? ⟨k, 1, none⟩ with
  | some (.int _ l), some (.string h) => l.toNat + Bs * bval h.toList
  | _, _ => 0
theorem rdn_eq {w : World} {k r : Nat} (h : Bx w k (.int .u64 ((lo r : Nat) : Int)) (.string (hs r))) : rdn w k = r := by
  obtain ⟨h0, h1, -⟩ := h
  unfold rdn
  rw [h0, h1]
  simp only
  rw [hs_toList, bval_hiB, Int.toNat_natCast]
  unfold lo
  exact Nat.mod_add_div r Bs

theorem eq_zero {b : Nat} (hb : 0 < b) : ((((lo b : Nat) : Int) == ((lo 0 : Nat) : Int)) = false) ∨ ((((lo b : Nat) : Int) == ((lo 0 : Nat) : Int)) = true ∧ ((hs b).toList == (hs 0).toList) = false) := by
  by_cases h : lo b = lo 0
  · right
    refine ⟨by rw [h]; simp, ?_⟩
    rw [hs_eq, decide_eq_false]
    intro h2
    have h3 : b % Bs = 0 % Bs := by have h4 := h; unfold lo at h4; exact h4
    have := Nat.div_add_mod b Bs
    rw [h2, h3] at this
    simp at this; omega
  · left
    rw [beq_eq_false_iff_ne]; omega
theorem nb_pow_len {n k : Nat} (hk : n ≤ 64 * k) : (digs (2 ^ n)).length ≤ k + 1 := by
  refine digs_length_iff.2 ?_
  rw [Bs_pow, ← Nat.pow_mul]
  exact Nat.pow_lt_pow_right (by omega) (by omega)
theorem nb_len {a k : Nat} (h : (digs a).length ≤ k) : nb a ≤ 64 * k := by
  by_cases h0 : a = 0
  · subst h0; rw [nb_zero]; omega
  · obtain ⟨j, e, h1, h2⟩ := nb_spec h0
    rw [e]
    have h3 := digs_length_iff.1 h
    rw [Bs_pow, ← Nat.pow_mul] at h3
    have := (Nat.pow_lt_pow_iff_right (show 1 < 2 by omega)).1 (Nat.lt_of_le_of_lt h1 h3)
    omega

theorem put2 {w : World} {k : Nat} {x y : Value} (hA : Bx w k x y) (x' y' : Value) : Bx ((w.setCell ⟨k, 0, none⟩ x').setCell ⟨k, 1, none⟩ y') k x' y' := by
  obtain ⟨a0, a1, af⟩ := hA
  refine ⟨?_, ?_, fun j => ?_⟩ <;> simp [go_sem, a0, a1, af]
/-- Sqrt's two boxes. -/
structure B2 (w : World) (k : Nat) (a : Nat) : Prop where
  A : Bx w k (.int .u64 ((lo a : Nat) : Int)) (.string (hs a))
  C : Bx w (k + 1) (.int .u64 0) (.string ⟨#[]⟩)
  sz : k + 2 ≤ w.heap.size
theorem B2.below {w w' : World} {k a : Nat} (h : B2 w k a) (hb : Below w.heap.size w w') : B2 w' k a :=
  ⟨h.A.below hb (by have := h.sz; omega), h.C.below hb (by have := h.sz; omega), Nat.le_trans h.sz hb.size⟩
theorem B2.belowN {w w' : World} {k a : Nat} (h : B2 w k a) (hb : Below (k + 2) w w') : B2 w' k a :=
  ⟨h.A.below hb (by omega), h.C.below hb (by omega), Nat.le_trans h.sz hb.size⟩
theorem B2.step {w0 w1 w2 : World} {k a : Nat} (h0 : Below k w0 w1) (h : B2 w1 k a) (hb : Below w1.heap.size w1 w2) : Below k w0 w2 := h0.trans (hb.mono (by have := h.sz; omega))

end Go.Proofs.YthehcjfmokabfaaDoor
