/-
  Layer 1: the arithmetic of math/bits.Len64, LeadingZeros64 and Div64.
-/
import Derived.Test.YthehcjfmokabfaaDoorWf
set_option linter.unusedVariables false
set_option linter.unusedSimpArgs false
namespace Go.Proofs.YthehcjfmokabfaaDoor
open Go.RowKit

theorem bl_spec (x : Nat) (h0 : x ≠ 0) (h : x < 2 ^ 64) : ∃ n, Lib.bitLen x = n + 1 ∧ 2 ^ n ≤ x ∧ x < 2 ^ (n + 1) := by
  induction x using Nat.strongRecOn with
  | ind x ih =>
    have hh := Lib.bitLen_half x h0 h
    by_cases h1 : x / 2 = 0
    · have : x = 1 := by omega
      subst this
      exact ⟨0, by rw [hh]; rfl, by simp, by simp⟩
    · obtain ⟨n, e, a, b⟩ := ih (x / 2) (by omega) h1 (by omega)
      exact ⟨n + 1, by rw [hh, e]; omega, by rw [Nat.pow_succ]; omega, by rw [Nat.pow_succ]; omega⟩
theorem bl_le (x : Nat) (h : x < 2 ^ 64) : Lib.bitLen x ≤ 64 := by
  by_cases h0 : x = 0
  · subst h0; decide
  · obtain ⟨n, e, a, b⟩ := bl_spec x h0 h
    rw [e]
    rcases Nat.lt_or_ge n 64 with hn | hn
    · omega
    · have := Nat.pow_le_pow_right (show 0 < 2 by omega) hn; omega
/-- leading zeros -/
def lz (y : Nat) : Nat := 64 - Lib.bitLen y
theorem lz_spec (y : Nat) (h0 : y ≠ 0) (h : y < Bs) : lz y ≤ 63 ∧ Bs ≤ 2 * (y * 2 ^ lz y) ∧ y * 2 ^ lz y < Bs := by
  rw [Bs_pow] at *
  obtain ⟨n, e, a, b⟩ := bl_spec y h0 h
  have hle := bl_le y h
  unfold lz
  rw [e] at hle ⊢
  have e1 : 2 ^ 64 = 2 ^ (n + 1) * 2 ^ (64 - (n + 1)) := by rw [← Nat.pow_add]; congr 1; omega
  refine ⟨by omega, ?_, ?_⟩
  · rw [e1, Nat.pow_succ]
    have := Nat.mul_le_mul_right (2 ^ (64 - (n + 1))) a
    rw [Nat.mul_right_comm]; omega
  · rw [e1]; exact Nat.mul_lt_mul_of_pos_right b (Nat.pow_pos (by omega))

theorem knu_start' {b P2 p0 t s : Nat} (ht : 0 < t) (hp : p0 < b) : (P2 * b + p0) / (t * b + s) ≤ P2 / t := by
  have hb : 0 < b := by omega
  have hY : 0 < t * b + s := by have := Nat.mul_pos ht hb; omega
  rw [Nat.le_div_iff_mul_le ht]
  have h1 := Nat.div_mul_le_self (P2 * b + p0) (t * b + s)
  generalize (P2 * b + p0) / (t * b + s) = q at *
  rw [Nat.mul_add, ← Nat.mul_assoc] at h1
  have h2 : q * t * b < (P2 + 1) * b := by rw [Nat.succ_mul]; omega
  exact Nat.lt_succ_iff.1 (Nat.lt_of_mul_lt_mul_right h2)

/-- Div64 on numbers, the base of the halves b. -/
theorem div_parts {b hi lo y p : Nat} (hb : 0 < b) (hlt : hi < y) (hlo : lo < b * b) (hp : 0 < p) (hdvd : ∃ c, b * b = c * p)
    {Y U V : Nat} (hY : Y = y * p) (hU : U = hi * p + lo / (b * b / p)) (hV : V = lo * p % (b * b)) :
    (hi * (b * b) + lo) * p = U * (b * b) + V ∧ U < Y := by
  obtain ⟨c, hc⟩ := hdvd
  have hcp : b * b / p = c := by rw [hc, Nat.mul_div_cancel _ hp]
  have hbb : 0 < b * b := Nat.mul_pos hb hb
  have hc0 : 0 < c := by
    rcases Nat.eq_zero_or_pos c with h | h
    · rw [h] at hc; omega
    · exact h
  have h1 : lo * p / (b * b) = lo / c := by rw [hc, Nat.mul_div_mul_right _ _ hp]
  have h2 := Nat.div_add_mod (lo * p) (b * b)
  rw [h1, ← hV] at h2
  have hmain : (hi * (b * b) + lo) * p = U * (b * b) + V := by
    rw [hU, hcp, Nat.add_mul, Nat.add_mul, Nat.mul_right_comm hi, Nat.mul_comm (lo / c), ← h2]; omega
  refine ⟨hmain, ?_⟩
  have h3 : (hi * (b * b) + lo) * p < y * (b * b) * p := by
    refine Nat.mul_lt_mul_of_pos_right ?_ hp
    have : hi * (b * b) + b * b ≤ y * (b * b) := by rw [← Nat.succ_mul]; exact Nat.mul_le_mul_right _ hlt
    omega
  rw [hmain, Nat.mul_right_comm, ← hY] at h3
  exact Nat.lt_of_mul_lt_mul_right (a := b * b) (by omega)
theorem div_digits {b U Y P R Q W Z F : Nat} (hb : 0 < b) (hU : U < Y) (hP : P < b) (hR : R < b) (hQ : Q = (U * b + P) / Y) (hW : W = (U * b + P) % Y) (hZ : Z = (W * b + R) / Y) (hF : F = (W * b + R) % Y) :
    Q < b ∧ Z < b ∧ W < Y ∧ F < Y ∧ (U * (b * b) + (P * b + R)) / Y = Q * b + Z ∧ (U * (b * b) + (P * b + R)) % Y = F := by
  have hY : 0 < Y := by omega
  have hW' : W < Y := by rw [hW]; exact Nat.mod_lt _ hY
  have bound : ∀ u p, u < Y → p < b → u * b + p < b * Y := fun u p hu hp => by
    have : u * b + b ≤ Y * b := by rw [← Nat.succ_mul]; exact Nat.mul_le_mul_right _ hu
    rw [Nat.mul_comm b Y]; omega
  have hX : U * b + P = Q * Y + W := by rw [hQ, hW]; exact (Nat.div_add_mod' _ _).symm
  have hN : U * (b * b) + (P * b + R) = (Q * b + Z) * Y + F := by
    have h1 : W * b + R = Z * Y + F := by rw [hZ, hF]; exact (Nat.div_add_mod' _ _).symm
    have h2 : (U * b + P) * b = (Q * Y + W) * b := by rw [hX]
    rw [Nat.add_mul, Nat.add_mul] at h2
    rw [Nat.add_mul, Nat.mul_right_comm Q b Y, ← Nat.mul_assoc]; omega
  have hF' : F < Y := by rw [hF]; exact Nat.mod_lt _ hY
  refine ⟨by rw [hQ]; exact (Nat.div_lt_iff_lt_mul hY).2 (bound U P hU hP), by rw [hZ]; exact (Nat.div_lt_iff_lt_mul hY).2 (bound W R hW' hR), hW', hF', ?_, ?_⟩
  · rw [hN, Nat.mul_comm, Nat.mul_add_div hY, Nat.div_eq_of_lt hF', Nat.add_zero]
  · rw [hN, Nat.mul_comm, Nat.mul_add_mod, Nat.mod_eq_of_lt hF']
end Go.Proofs.YthehcjfmokabfaaDoor
