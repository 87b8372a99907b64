/-
  Layer 1, walks E: Cmp; Bits.
-/
import Derived.Test.YthehcjfmokabfaaDoorWd
import Derived.WalkLawsBesides
set_option linter.unusedVariables false
set_option linter.unusedSimpArgs false
namespace Go.Proofs.YthehcjfmokabfaaDoor
open Go.RowKit

def cmpI (a b : Nat) : Int := if a < b then -1 else if a = b then 0 else 1
theorem cmpI_lt {a b : Nat} (h : a < b) : cmpI a b = -1 := if_pos h
theorem cmpI_eq (a : Nat) : cmpI a a = 0 := by unfold cmpI; simp
theorem cmpI_gt {a b : Nat} (h : b < a) : cmpI a b = 1 := by unfold cmpI; rw [if_neg (by omega), if_neg (by omega)]
theorem less_eq : ∀ a b : List UInt8, Op.bytesLess a b = bless a b
  | _, [] => by unfold bless; cases ‹List UInt8› <;> rfl
  | [], _ :: _ => rfl
  | a :: x, b :: y => by unfold Op.bytesLess bless; rw [less_eq x y]

theorem nan_u (x : Nat) (w : World) : Calls Tryd.prog 84 #[.int .u64 (x : Int)] w fun e w' => e = .returned (.bool false) ∧ w = w' := by
  go_enter Tryd.func84, Tryd.ntmps84
  go_wp2
  go_ret
  exact ⟨rfl, rfl⟩
theorem compU (x y : Nat) (w : World) : Calls Tryd.prog 65 #[.int .u64 (x : Int), .int .u64 (y : Int)] w fun e w' => e = .returned (.int .i64 (cmpI x y)) ∧ w = w' := by
  rcases Nat.lt_trichotomy x y with h | h | h
  · rw [cmpI_lt h]
    go_enter Tryd.func65, Tryd.ntmps65
    go_wp2_with (go_at_call 84; refine (nan_u _ _).mono ?_; rintro e w1 ⟨rfl, rfl⟩)
    go_ret
    exact ⟨rfl, rfl⟩
  · subst h
    rw [cmpI_eq]
    go_enter Tryd.func65, Tryd.ntmps65
    go_wp2_with (go_at_call 84; refine (nan_u _ _).mono ?_; rintro e w1 ⟨rfl, rfl⟩)
    go_ret
    exact ⟨rfl, rfl⟩
  · rw [cmpI_gt h]
    go_enter Tryd.func65, Tryd.ntmps65
    go_wp2_with (go_at_call 84; refine (nan_u _ _).mono ?_; rintro e w1 ⟨rfl, rfl⟩)
    go_ret
    exact ⟨rfl, rfl⟩

theorem nan_i (x : Int) (w : World) : Calls Tryd.prog 86 #[.int .i64 x] w fun e w' => e = .returned (.bool false) ∧ w = w' := by
  go_enter Tryd.func86, Tryd.ntmps86
  go_wp2
  go_ret
  exact ⟨rfl, rfl⟩
theorem nan_s (s : ByteArray) (w : World) : Calls Tryd.prog 85 #[.string s] w fun e w' => e = .returned (.bool false) ∧ w = w' := by
  go_enter Tryd.func85, Tryd.ntmps85
  go_wp2
  go_ret
  exact ⟨by simp, rfl⟩
theorem compI (x y : Nat) (w : World) : Calls Tryd.prog 67 #[.int .i64 (x : Int), .int .i64 (y : Int)] w fun e w' => e = .returned (.int .i64 (cmpI x y)) ∧ w = w' := by
  rcases Nat.lt_trichotomy x y with h | h | h
  · rw [cmpI_lt h]
    go_enter Tryd.func67, Tryd.ntmps67
    go_wp2_with (go_at_call 86; refine (nan_i _ _).mono ?_; rintro e w1 ⟨rfl, rfl⟩)
    go_ret
    exact ⟨rfl, rfl⟩
  · subst h
    rw [cmpI_eq]
    go_enter Tryd.func67, Tryd.ntmps67
    go_wp2_with (go_at_call 86; refine (nan_i _ _).mono ?_; rintro e w1 ⟨rfl, rfl⟩)
    go_ret
    exact ⟨rfl, rfl⟩
  · rw [cmpI_gt h]
    go_enter Tryd.func67, Tryd.ntmps67
    go_wp2_with (go_at_call 86; refine (nan_i _ _).mono ?_; rintro e w1 ⟨rfl, rfl⟩)
    go_ret
    exact ⟨rfl, rfl⟩
/-- Two strings of one length: as the numbers that their bytes spell. -/
theorem compS (x y : Nat) (h : (digs x).length = (digs y).length) (w : World) : Calls Tryd.prog 66 #[.string (str (hiB x)), .string (str (hiB y))] w fun e w' => e = .returned (.int .i64 (cmpI x y)) ∧ w = w' := by
  have hl : Op.bytesLess (str (hiB x)).toList (str (hiB y)).toList = decide (x < y) := by
    rw [ByteArray.toList_eq, ByteArray.toList_eq, str_toList, str_toList, less_eq, hiB_less h]
  have hl' : Op.bytesLess (str (hiB y)).toList (str (hiB x)).toList = decide (y < x) := by
    rw [ByteArray.toList_eq, ByteArray.toList_eq, str_toList, str_toList, less_eq, hiB_less h.symm]
  have he : ((str (hiB x)).toList == (str (hiB y)).toList) = decide (x = y) := by
    rw [ByteArray.toList_eq, ByteArray.toList_eq, str_toList, str_toList, Bool.eq_iff_iff, beq_iff_eq, decide_eq_true_iff]
    exact ⟨hiB_inj, fun h => by rw [h]⟩
  generalize str (hiB x) = s at *
  generalize str (hiB y) = t at *
  clear h
  rcases Nat.lt_trichotomy x y with h | h | h
  · rw [cmpI_lt h]
    rw [decide_eq_true h] at hl
    rw [decide_eq_false (by omega)] at hl' he
    clear h
    go_enter Tryd.func66, Tryd.ntmps66
    go_wp2_with (go_at_call 85; refine (nan_s _ _).mono ?_; rintro e w1 ⟨rfl, rfl⟩)
    go_ret
    exact ⟨rfl, rfl⟩
  · rw [show cmpI x y = 0 by rw [h]; exact cmpI_eq y]
    rw [decide_eq_false (by omega)] at hl hl'
    rw [decide_eq_true h] at he
    clear h
    go_enter Tryd.func66, Tryd.ntmps66
    go_wp2_with (go_at_call 85; refine (nan_s _ _).mono ?_; rintro e w1 ⟨rfl, rfl⟩)
    go_ret
    exact ⟨rfl, rfl⟩
  · rw [cmpI_gt h]
    rw [decide_eq_true h] at hl'
    rw [decide_eq_false (by omega)] at hl he
    clear h
    go_enter Tryd.func66, Tryd.ntmps66
    go_wp2_with (go_at_call 85; refine (nan_s _ _).mono ?_; rintro e w1 ⟨rfl, rfl⟩)
    go_ret
    exact ⟨rfl, rfl⟩

theorem divmod (a : Nat) : a = Bs * (a / Bs) + lo a := (Nat.div_add_mod a Bs).symm
theorem hs_eq (a b : Nat) : ((hs a).toList == (hs b).toList) = decide (a / Bs = b / Bs) := by
  rw [hs_toList, hs_toList, Bool.eq_iff_iff, beq_iff_eq, decide_eq_true_iff]
  exact ⟨hiB_inj, fun h => by rw [h]⟩
theorem natV_inj {a b : Nat} (h : natV a = natV b) : a = b := by
  have h1 : lo a = lo b := by simp [natV] at h; omega
  have h2 : hs a = hs b := by simp [natV] at h; exact h.2
  have h3 : a / Bs = b / Bs := by
    have := congrArg ByteArray.toList h2
    rw [hs_toList, hs_toList] at this
    exact hiB_inj this
  rw [divmod a, divmod b, h1, h3]
theorem cmpI_div {a b : Nat} (h : a / Bs ≠ b / Bs) : cmpI a b = cmpI (a / Bs) (b / Bs) := by
  rcases Nat.lt_trichotomy (a / Bs) (b / Bs) with h1 | h1 | h1
  · rw [cmpI_lt h1, cmpI_lt (Nat.lt_of_not_le fun hh => by have := Nat.div_le_div_right (c := Bs) hh; omega)]
  · exact absurd h1 h
  · rw [cmpI_gt h1, cmpI_gt (Nat.lt_of_not_le fun hh => by have := Nat.div_le_div_right (c := Bs) hh; omega)]
theorem cmpI_lo {a b : Nat} (h : a / Bs = b / Bs) : cmpI a b = cmpI (lo a) (lo b) := by
  have h1 := divmod a
  have h2 := divmod b
  rw [h] at h1
  unfold cmpI
  by_cases g1 : lo a < lo b
  · rw [if_pos g1, if_pos (by omega)]
  · rw [if_neg g1, if_neg (by omega)]
    by_cases g2 : lo a = lo b
    · rw [if_pos g2, if_pos (by omega)]
    · rw [if_neg g2, if_neg (by omega)]

theorem cmp_any (a b : Nat) (w : World) :
    Calls Tryd.prog 40 #[natV a, natV b] w fun e w' => e = .returned (.int .i64 (cmpI a b)) ∧ Below w.heap.size w w' := by
  have he := hs_eq a b
  have fin : ∀ A B : Obj, Below w.heap.size w ((w.alloc A).alloc B) := fun A B => ((Below.refl _ _).alloc (Nat.le_refl _) _).alloc (by simp) _
  by_cases h : a / Bs = b / Bs
  · rw [decide_eq_true h] at he
    rw [cmpI_lo h]
    clear h
    go_enter Tryd.func40, Tryd.ntmps40
    go_wp2_with (go_at_call 65; refine (compU _ _ _).mono ?_; rintro e w1 ⟨rfl, rfl⟩)
    go_ret
    exact ⟨rfl, fin _ _⟩
  · rw [decide_eq_false h] at he
    rw [cmpI_div h]
    by_cases hl : (digs (a / Bs)).length = (digs (b / Bs)).length
    · have hz : (((hs a).size : Int) == ((hs b).size : Int)) = true := by rw [hs_size, hs_size, hl]; simp
      have hC := fun w => compS (a / Bs) (b / Bs) hl w
      rw [show str (hiB (a / Bs)) = hs a from rfl, show str (hiB (b / Bs)) = hs b from rfl] at hC
      have HC := Lib.hid hC
      clear h hl hC
      go_enter Tryd.func40, Tryd.ntmps40
      go_wp2_with (go_at_call 66; refine (HC.out _).mono ?_; rintro e w1 ⟨rfl, rfl⟩)
      go_ret
      exact ⟨rfl, fin _ _⟩
    · have hz : (((hs a).size : Int) == ((hs b).size : Int)) = false := by rw [hs_size, hs_size]; simp; omega
      have hc : cmpI (a / Bs) (b / Bs) = cmpI (hs a).size (hs b).size := by
        rw [hs_size, hs_size]
        rcases Nat.lt_or_gt_of_ne hl with h1 | h1
        · rw [cmpI_lt (lt_of_digs h1), cmpI_lt (by omega)]
        · rw [cmpI_gt (lt_of_digs h1), cmpI_gt (by omega)]
      rw [hc]
      clear h hl hc
      go_enter Tryd.func40, Tryd.ntmps40
      go_wp2_with (go_at_call 67; refine (compI _ _ _).mono ?_; rintro e w1 ⟨rfl, rfl⟩)
      go_ret
      exact ⟨rfl, fin _ _⟩
end Go.Proofs.YthehcjfmokabfaaDoor
