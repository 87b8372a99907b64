/-
  Layer 1: the order of decimal forms, as mathematics.
-/
import Derived.Test.YthehcjfmokabfaaDoorNum
import Derived.Test.YthehcjfmokabfaaDoorNd
set_option linter.unusedVariables false
namespace Go.Proofs.YthehcjfmokabfaaDoor
open Go.Lib (decDigits nDigits)

theorem dval_cons (c : UInt8) (l : List UInt8) : dval (c :: l) = (c.toNat - 48) * 10 ^ l.length + dval l := by
  have := dval_append [c] l
  rw [List.singleton_append] at this
  rw [this]
  show dval ([] ++ [c]) * _ + _ = _
  rw [dval_snoc, dval_nil, Nat.zero_mul, Nat.zero_add]

theorem bless_dval {a b : List UInt8} (hl : a.length = b.length) (ha : ∀ c ∈ a, isDig c) (hb : ∀ c ∈ b, isDig c) : bless a b = decide (dval a < dval b) := by
  induction a generalizing b with
  | nil =>
    have := (List.eq_nil_of_length_eq_zero hl.symm); subst this; simp [bless]
  | cons x a ih =>
    cases b with
    | nil => cases hl
    | cons y b =>
      have hl' : a.length = b.length := by simpa using hl
      have h1 := dval_lt (l := a) fun c hc => ha c (List.mem_cons_of_mem _ hc)
      have h2 := dval_lt (l := b) fun c hc => hb c (List.mem_cons_of_mem _ hc)
      have hx := ha x List.mem_cons_self
      have hy := hb y List.mem_cons_self
      unfold isDig at hx hy
      rw [hl'] at h1
      simp only [bless, dval_cons, hl', ih hl' (fun c hc => ha c (List.mem_cons_of_mem _ hc)) (fun c hc => hb c (List.mem_cons_of_mem _ hc))]
      have hm : ∀ p q : Nat, p < q → p * 10 ^ b.length + 10 ^ b.length ≤ q * 10 ^ b.length := fun p q h => by
        rw [← Nat.succ_mul]; exact Nat.mul_le_mul_right _ h
      rcases Nat.lt_trichotomy x.toNat y.toNat with h | h | h
      · have := hm (x.toNat - 48) (y.toNat - 48) (by omega)
        have hxy : x < y := UInt8.lt_iff_toNat_lt.2 h
        simp [hxy]; omega
      · have hxy : x = y := UInt8.toNat_inj.1 h
        subst hxy
        simp
      · have := hm (y.toNat - 48) (x.toNat - 48) (by omega)
        have hxy : ¬ x < y := fun hh => by have := UInt8.lt_iff_toNat_lt.1 hh; omega
        have hne : (x == y) = false := by simp; intro hh; subst hh; omega
        rw [hne]
        simp only [hxy, decide_false, Bool.false_or, Bool.false_and]
        exact (decide_eq_false (by omega)).symm

theorem dec_len_mono {a b : Nat} (h : a ≤ b) : (decDigits a).length ≤ (decDigits b).length := by
  have h1 := (dec_length_lt (n := b) (dec_length_pos b)).1 (Nat.le_refl _)
  exact (dec_length_lt (dec_length_pos b)).2 (Nat.lt_of_le_of_lt h h1)
theorem dec_less {a b : Nat} (hl : (decDigits a).length = (decDigits b).length) : bless (decDigits a) (decDigits b) = decide (a < b) := by
  rw [bless_dval hl (dec_isDig a) (dec_isDig b), dval_dec, dval_dec]
end Go.Proofs.YthehcjfmokabfaaDoor
