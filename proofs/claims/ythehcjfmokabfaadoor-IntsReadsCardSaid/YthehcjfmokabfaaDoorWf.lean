/-
  Layer 1, walks F: math/bits: Add64, Sub64, Mul64, Div64.
-/
import Derived.Test.YthehcjfmokabfaaDoorWe
import Derived.Test.YthehcjfmokabfaaDoorShelf
import Derived.Shelf.Spec.BitsCarry
set_option linter.unusedVariables false
set_option linter.unusedSimpArgs false
namespace Go.Proofs.YthehcjfmokabfaaDoor
open Go.RowKit

def s64 (a b c : Nat) : Nat := (a + b + c) % Bs
def c64 (a b c : Nat) : Nat := (a + b + c) / Bs
def d64 (a b c : Nat) : Nat := (a + Bs - b - c) % Bs
def b64 (a b c : Nat) : Nat := if a < b + c then 1 else 0
def mh (a b : Nat) : Nat := a * b / Bs
def ml (a b : Nat) : Nat := a * b % Bs
theorem s64_spec (a b c : Nat) : s64 a b c + Bs * c64 a b c = a + b + c := Nat.mod_add_div _ _
theorem s64_lt (a b c : Nat) : s64 a b c < Bs := Nat.mod_lt _ Bs_pos
theorem c64_le {a b c : Nat} (ha : a < Bs) (hb : b < Bs) (hc : c ≤ 1) : c64 a b c ≤ 1 := by
  have : c64 a b c < 2 := (Nat.div_lt_iff_lt_mul Bs_pos).2 (by omega)
  omega
theorem d64_spec {a b c : Nat} (hb : b < Bs) (ha : a < Bs) (hc : c ≤ 1) : d64 a b c + b + c = a + Bs * b64 a b c := by
  unfold d64 b64
  split
  · rw [Nat.mod_eq_of_lt (by omega)]; omega
  · rw [show a + Bs - b - c = (a - b - c) + Bs by omega, Nat.add_mod_right, Nat.mod_eq_of_lt (by omega)]; omega
theorem d64_lt (a b c : Nat) : d64 a b c < Bs := Nat.mod_lt _ Bs_pos
theorem b64_le (a b c : Nat) : b64 a b c ≤ 1 := by unfold b64; split <;> omega
theorem mul_spec (a b : Nat) : ml a b + Bs * mh a b = a * b := Nat.mod_add_div _ _
theorem ml_lt (a b : Nat) : ml a b < Bs := Nat.mod_lt _ Bs_pos
theorem mh_lt {a b : Nat} (ha : a < Bs) (hb : b < Bs) : mh a b ≤ Bs - 2 := by
  have h1 : a * b ≤ (Bs - 1) * (Bs - 1) := Nat.mul_le_mul (by omega) (by omega)
  have hB := Bs_gt
  have h2 : (Bs - 1) * (Bs - 1) = (Bs - 2) * Bs + 1 := by
    obtain ⟨t, ht⟩ : ∃ t, Bs = t + 2 := ⟨Bs - 2, by omega⟩
    rw [ht]
    simp only [show t + 2 - 1 = t + 1 by omega, Nat.add_sub_cancel]
    have e1 : (t + 1) * (t + 1) = t * t + t + t + 1 := by rw [Nat.add_mul, Nat.mul_add]; omega
    have e2 : t * (t + 2) = t * t + t * 2 := Nat.mul_add t t 2
    omega
  have : mh a b < Bs - 1 := (Nat.div_lt_iff_lt_mul Bs_pos).2 (by
    have h3 : (Bs - 1) * Bs = (Bs - 2) * Bs + Bs := by
      rw [show Bs - 1 = (Bs - 2) + 1 by omega, Nat.succ_mul]
    omega)
  omega

theorem add64 (a b c : Nat) (hc : c ≤ 1) (w : World) : (callFunc 74 #[.int .u64 (a : Int), .int .u64 (b : Int), .int .u64 (c : Int)]).run Tryd.prog w =
    .ok (.value (.tuple #[.int .u64 ((s64 a b c : Nat) : Int), .int .u64 ((c64 a b c : Nat) : Int)])) w := by
  rw [run_callFunc_extern Tryd.func74 (by kernel_rfl) (by kernel_rfl) (by kernel_rfl) (e := add64Entry) (by kernel_rfl), run_add64 a b c (by omega) (by omega) (by omega) (by omega)]
  simp only [Result.andThen]
  congr 5 <;> (unfold s64 c64 Bs; omega)
theorem add64z (a c : Nat) (hc : c ≤ 1) (w : World) : (callFunc 74 #[.int .u64 (a : Int), .int .u64 0, .int .u64 (c : Int)]).run Tryd.prog w =
    .ok (.value (.tuple #[.int .u64 ((s64 a 0 c : Nat) : Int), .int .u64 ((c64 a 0 c : Nat) : Int)])) w := add64 a 0 c hc w
theorem add64c (a b : Nat) (w : World) : (callFunc 74 #[.int .u64 (a : Int), .int .u64 (b : Int), .int .u64 0]).run Tryd.prog w =
    .ok (.value (.tuple #[.int .u64 ((s64 a b 0 : Nat) : Int), .int .u64 ((c64 a b 0 : Nat) : Int)])) w := add64 a b 0 (by omega) w
theorem sub64 (a b c : Nat) (hc : c ≤ 1) (w : World) : (callFunc 93 #[.int .u64 (a : Int), .int .u64 (b : Int), .int .u64 (c : Int)]).run Tryd.prog w =
    .ok (.value (.tuple #[.int .u64 ((d64 a b c : Nat) : Int), .int .u64 ((b64 a b c : Nat) : Int)])) w := by
  rw [run_callFunc_extern Tryd.func93 (by kernel_rfl) (by kernel_rfl) (by kernel_rfl) (e := sub64Entry) (by kernel_rfl), run_sub64 a b c hc]
  rfl
theorem sub64z (a c : Nat) (hc : c ≤ 1) (w : World) : (callFunc 93 #[.int .u64 (a : Int), .int .u64 0, .int .u64 (c : Int)]).run Tryd.prog w =
    .ok (.value (.tuple #[.int .u64 ((d64 a 0 c : Nat) : Int), .int .u64 ((b64 a 0 c : Nat) : Int)])) w := sub64 a 0 c hc w
theorem sub64c (a b : Nat) (w : World) : (callFunc 93 #[.int .u64 (a : Int), .int .u64 (b : Int), .int .u64 0]).run Tryd.prog w =
    .ok (.value (.tuple #[.int .u64 ((d64 a b 0 : Nat) : Int), .int .u64 ((b64 a b 0 : Nat) : Int)])) w := sub64 a b 0 (by omega) w
theorem mul64 (a b : Nat) (ha : a < Bs) (hb : b < Bs) (w : World) :
    Calls Tryd.prog 63 #[.int .u64 (a : Int), .int .u64 (b : Int)] w fun e w' => e = .returned (.tuple #[.int .u64 ((mh a b : Nat) : Int), .int .u64 ((ml a b : Nat) : Int)]) ∧ w = w' :=
  (Tryd.bits_Mul64 a b ha hb w).mono fun _ _ ⟨h1, h2⟩ => ⟨h1, h2.symm⟩
end Go.Proofs.YthehcjfmokabfaaDoor
