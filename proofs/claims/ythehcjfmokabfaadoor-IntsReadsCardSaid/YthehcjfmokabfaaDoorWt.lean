/-
  Layer 1, walks T: Bits, powerOfTwo, halfOfSum, Sqrt.
-/
import Derived.Test.YthehcjfmokabfaaDoorWs
set_option linter.unusedVariables false
set_option linter.unusedSimpArgs false
namespace Go.Proofs.YthehcjfmokabfaaDoor
open Go.RowKit
attribute [local irreducible] lo hs sm s64 c64 d64 b64 mh ml pd pc qd qc val hiB str cmpI srD lz

/-- The number of binary digits. -/
def nb (n : Nat) : Nat := if n = 0 then 0 else n.log2 + 1
theorem nb_zero : nb 0 = 0 := rfl
theorem nb_of {n k : Nat} (h1 : 2 ^ k ≤ n) (h2 : n < 2 ^ (k + 1)) : nb n = k + 1 := by
  have h0 : n ≠ 0 := by intro h; rw [h] at h1; have := Nat.pow_pos (n := k) (show 0 < 2 by omega); omega
  unfold nb
  rw [if_neg h0, (Nat.log2_eq_iff h0).2 ⟨h1, h2⟩]
theorem nb_spec {n : Nat} (h : n ≠ 0) : ∃ k, nb n = k + 1 ∧ 2 ^ k ≤ n ∧ n < 2 ^ (k + 1) :=
  ⟨n.log2, by unfold nb; rw [if_neg h], Nat.log2_self_le h, Nat.lt_log2_self⟩
theorem nb_lt (n : Nat) : n < 2 ^ nb n := by
  by_cases h : n = 0
  · subst h; decide
  · obtain ⟨k, e, _, h2⟩ := nb_spec h
    rw [e]; exact h2
theorem nb_bl {x : Nat} (h : x < Bs) : Lib.bitLen x = nb x := by
  by_cases h0 : x = 0
  · subst h0; decide
  · obtain ⟨k, e, h1, h2⟩ := bl_spec x h0 (by rw [← Bs_pow]; exact h)
    rw [e, nb_of h1 h2]
theorem nb_top {n L t : Nat} (ht : t ≠ 0) (h1 : t * Bs ^ L ≤ n) (h2 : n < (t + 1) * Bs ^ L) : nb n = L * 64 + nb t := by
  obtain ⟨k, e, k1, k2⟩ := nb_spec ht
  have hp : Bs ^ L = 2 ^ (L * 64) := by rw [Bs_pow, ← Nat.pow_mul, Nat.mul_comm]
  rw [hp] at h1 h2
  rw [e, ← Nat.add_assoc]
  apply nb_of
  · rw [Nat.add_comm, Nat.pow_add]; exact Nat.le_trans (Nat.mul_le_mul_right _ k1) h1
  · rw [show L * 64 + k + 1 = (k + 1) + L * 64 by omega, Nat.pow_add]
    exact Nat.lt_of_lt_of_le h2 (Nat.mul_le_mul_right _ k2)
theorem nb_high (n L : Nat) (hL : (digs (n / Bs)).length = L + 1) : nb n = (L + 1) * 64 + nb ((digs (n / Bs))[L]'(by omega)) := by
  have hm := val_digs (n / Bs)
  rw [← List.take_of_length_le (Nat.le_of_eq hL), take_snoc _ L (by omega)] at hm
  have h0 : digs (n / Bs) ≠ [] := by intro h; rw [h] at hL; simp at hL
  have ht : (digs (n / Bs))[L]'(by omega) ≠ 0 := by
    have := top_digs (n / Bs) h0
    rw [List.getLast_eq_getElem] at this
    simpa [hL] using this
  have hv := val_lt ((digs_dig (n / Bs)).take L)
  rw [List.length_take, Nat.min_eq_left (by omega)] at hv
  generalize (digs (n / Bs))[L]'(by omega) = t at *
  generalize val ((digs (n / Bs)).take L) = v at *
  have hn := Nat.div_add_mod n Bs
  have hlt : n % Bs < Bs := Nat.mod_lt _ Bs_pos
  rw [← hm] at hn
  have e1 : Bs * (v + Bs ^ L * t) = Bs * v + t * Bs ^ (L + 1) := by rw [Nat.mul_add, Nat.pow_succ]; congr 1; rw [← Nat.mul_assoc, Nat.mul_comm, Nat.mul_comm Bs]
  have e2 : Bs * v + Bs ≤ Bs ^ (L + 1) := by
    rw [← Nat.mul_succ, Nat.pow_succ, Nat.mul_comm]; exact Nat.mul_le_mul_right _ hv
  rw [e1] at hn
  apply nb_top ht
  · omega
  · rw [Nat.add_mul, Nat.one_mul]; omega
theorem len64 (x : Nat) (h : x < Bs) (w : World) : Calls Tryd.prog 101 #[.int .u64 (x : Int)] w fun e w' => e = .returned (.int .i64 ((nb x : Nat) : Int)) ∧ w = w' := by
  refine (Tryd.bits_Len64 (x : Int) w (by omega) (by unfold Bs at h; omega)).mono fun e w' ⟨he, hw⟩ => ⟨?_, hw.symm⟩
  rw [he, Int.toNat_natCast, nb_bl h]
theorem nb_le64 {x : Nat} (h : x < Bs) : nb x ≤ 64 := by
  rw [← nb_bl h]; exact bl_le x (by rw [← Bs_pow]; exact h)

attribute [local irreducible] nb
theorem p2_val (q s : Nat) : val ((List.replicate (q + 1) 0).set q (2 ^ s)) = 2 ^ (64 * q + s) := by
  have e : (List.replicate (q + 1) 0).set q (2 ^ s) = List.replicate q 0 ++ [2 ^ s] := by
    rw [List.replicate_succ', List.set_append_right _ _ (by simp)]
    simp
  rw [e, val_append, val_zeros, List.length_replicate, val_cons, val_nil, Bs_pow, ← Nat.pow_mul, Nat.zero_add, Nat.mul_zero, Nat.add_zero, ← Nat.pow_add]
theorem one_shl (s : Nat) (h : s < 64) : IntKind.u64.wrap ((2 : Int) ^ s) = ((2 ^ s : Nat) : Int) := by
  have := sh_wrap 1 s
  rw [Nat.one_mul, Nat.mod_eq_of_lt (show 2 ^ s < Bs by rw [Bs_pow]; exact Nat.pow_lt_pow_right (by omega) h)] at this
  simpa using this

theorem digs_add_le {a b k : Nat} (ha : (digs a).length ≤ k) (hb : (digs b).length ≤ k) : (digs (a + b)).length ≤ k + 1 := by
  have h1 := digs_length_iff.1 ha
  have h2 := digs_length_iff.1 hb
  refine digs_length_iff.2 ?_
  rw [Nat.pow_succ]
  have h3 : Bs ^ k * 2 ≤ Bs ^ k * Bs := Nat.mul_le_mul_left _ Bs_gt
  omega
theorem shiftR (g c n a : Nat) (C : List Nat) (hn : n < 64) (hl : (digs a).length ≤ 1000000000000) (w : World) (hdb : DB w g (digs a ++ C)) :
    Calls Tryd.prog 91 #[.slice (some ⟨g, 0, none⟩) (digs a).length c, .int .i64 (n : Int)] w fun e w' =>
      e = .returned (.tuple #[]) ∧ ∃ O : List Nat, (O.length = (digs a).length ∧ Dig O ∧ val O = a / 2 ^ n) ∧ DB w' g (O ++ C) ∧ w.grownBy w' (some g) := by
  have := shiftRight_any g c n (digs a) C (digs_dig a) hn (by omega) w hdb
  rw [val_digs] at this
  exact this

end Go.Proofs.YthehcjfmokabfaaDoor
