/-
  Layer 1, walks V: Pow.
-/
import Derived.Test.YthehcjfmokabfaaDoorWu
import Derived.BigQuiet
import Derived.BigGuard
set_option linter.unusedVariables false
set_option linter.unusedSimpArgs false
namespace Go.Proofs.YthehcjfmokabfaaDoor
open Go.RowKit
attribute [local irreducible] lo hs sm s64 c64 d64 b64 mh ml pd pc qd qc val hiB str cmpI srD lz nb isq

/-- What Pow's second test asks. -/
def great (a n : Nat) : Bool := decide (4096 < n) || (decide (0 < n) && decide (262144 / n < nb a))
theorem pow_len {a n k : Nat} (hk : k ≤ n) (hg : n = 0 ∨ nb a ≤ 262144 / n) : (digs (a ^ k)).length ≤ 4097 := by
  obtain ⟨N, hN⟩ : ∃ N, N = 4097 := ⟨_, rfl⟩
  rw [← hN]
  refine digs_length_iff.2 ?_
  rcases hg with h | h
  · have : k = 0 := by omega
    rw [this, Nat.pow_zero]
    exact Nat.one_lt_pow (by omega) Bs_gt
  · have h1 : k * nb a ≤ 262144 := Nat.le_trans (Nat.mul_le_mul hk h) (Nat.mul_div_le 262144 n)
    have h2 : a ^ k ≤ 2 ^ (k * nb a) := by
      rw [Nat.mul_comm, Nat.pow_mul]; exact Nat.pow_le_pow_left (Nat.le_of_lt (nb_lt a)) k
    refine Nat.lt_of_le_of_lt h2 ?_
    rw [Bs_pow, ← Nat.pow_mul]
    exact Nat.pow_lt_pow_right (by omega) (by omega)

theorem digs_mul_le {a b k m : Nat} (ha : (digs a).length ≤ k) (hb : (digs b).length ≤ m) : (digs (a * b)).length ≤ k + m := by
  have h1 := digs_length_iff.1 ha
  have h2 := digs_length_iff.1 hb
  refine digs_length_iff.2 ?_
  rw [Nat.pow_add]
  exact Nat.mul_lt_mul'' h1 h2

theorem i64_and1 (n : Int) : bits .and .i64 n 1 = n % 2 := by
  have h127 : (BitVec.ofInt 64 1).toNat = 2 ^ 1 - 1 := by decide
  have key : (BitVec.ofInt 64 n &&& BitVec.ofInt 64 1).toNat = (n % ((2 ^ 64 : Nat) : Int)).toNat % 2 ^ 1 := by
    rw [BitVec.toNat_and, BitVec.toNat_ofInt, h127, Nat.and_two_pow_sub_one_eq_mod]
  show IntKind.i64.wrap ((BitVec.ofInt 64 n &&& BitVec.ofInt 64 1).toNat : Nat) = n % 2
  rw [key, IntKind.wrap_i64]
  omega

theorem pow_bit (n k : Nat) : bits .and .i64 ((n : Int) / 2 ^ k) 1 = ((n / 2 ^ k % 2 : Nat) : Int) := by
  rw [i64_and1]
  have h : ((n : Int) / 2 ^ k) = ((n / 2 ^ k : Nat) : Int) := by
    rw [Int.natCast_ediv, Int.natCast_pow]; rfl
  rw [h]
  generalize n / 2 ^ k = x
  omega

theorem pow_half (a n k : Nat) : a ^ (n / 2 ^ k) = a ^ (n / 2 ^ (k + 1)) * a ^ (n / 2 ^ (k + 1)) * a ^ (n / 2 ^ k % 2) := by
  rw [← Nat.pow_add, ← Nat.pow_add, Nat.pow_succ, ← Nat.div_div_eq_div_mul]
  congr 1
  generalize n / 2 ^ k = x
  omega

end Go.Proofs.YthehcjfmokabfaaDoor
