/-
  The law answers true at every input, and leaves its arguments as they were: a part of the proof. CONDITIONS: the package-level tables start as the program's text lays them (the card ties them).
-/
import Derived.Test.YtdkjckiialnpnaaGreatDoorZrd
set_option linter.unusedVariables false
set_option linter.unusedSimpArgs false
namespace Go.Proofs.YtdkjckiialnpnaaGreatDoor
open Go.RowKit
theorem rtL_lt {x : Rat} (h : 0 ≤ x) : x < (((rtL x : Nat) : Rat) + 1) * (((rtL x : Nat) : Rat) + 1) := by
 have h1 := (isq_spec x.floor.natAbs).2
 have h2 : x.floor + 1 ≤ (((rtL x + 1) * (rtL x + 1) : Nat) : Int) := by have := floor_nn h; unfold rtL; omega
 have h3 := Rat.intCast_le_intCast.2 h2
 have h4 := Rat.lt_floor_add_one x
 have e : (((rtL x + 1) * (rtL x + 1) : Nat) : Rat) = (((rtL x : Nat) : Rat) + 1) * (((rtL x : Nat) : Rat) + 1) := by rw [Rat.natCast_mul, Rat.natCast_add]; rfl
 have h5 : (((((rtL x + 1) * (rtL x + 1) : Nat) : Int) : Int) : Rat) = (((rtL x + 1) * (rtL x + 1) : Nat) : Rat) := rfl
 rw [h5, e] at h3
 grind
theorem rtH_ge {x : Rat} (h : 0 ≤ x) : x ≤ ((rtH x : Nat) : Rat) * ((rtH x : Nat) : Rat) := by
 unfold rtH
 split
 ·rename_i e; rw [e]; exact Rat.le_refl
 ·rw [Rat.natCast_add]; exact Rat.le_of_lt (rtL_lt h)
end Go.Proofs.YtdkjckiialnpnaaGreatDoor
namespace Go.Proofs.YtdkjckiialnpnaaGreatDoor
open Go.RowKit
theorem mul_inj {a b c : Rat} (hc : 0 < c) (h : a * c = b * c) : a = b := by
 have h1 : (a - b) * c = 0 := by grind
 rcases Rat.mul_eq_zero.1 h1 with h2 | h2
 ·grind
 ·rw [h2] at hc; exact absurd hc (by decide)
end Go.Proofs.YtdkjckiialnpnaaGreatDoor
namespace Go.Proofs.YtdkjckiialnpnaaGreatDoor
open Go.RowKit
theorem nsq (k : Nat) : ((k * k : Nat) : Rat) = (k : Rat) * (k : Rat) := Rat.natCast_mul k k
theorem nsucc (k : Nat) : ((k + 1 : Nat) : Rat) = (k : Rat) + 1 := by rw [Rat.natCast_add]; rfl
theorem sq_lt_nat {k m : Nat} (h : (k : Rat) * (k : Rat) < ((m : Rat) + 1) * ((m : Rat) + 1)) : k ≤ m := by
 rw [← nsq, ← nsucc, ← nsq, Rat.natCast_lt_natCast] at h
 rcases Nat.lt_or_ge m k with h1 | h1
 ·have : (m + 1) * (m + 1) ≤ k * k := Nat.mul_le_mul h1 h1
  omega
 ·exact h1
theorem sq_le_nat {k m : Nat} (h : (k : Rat) * (k : Rat) ≤ (m : Rat) * (m : Rat)) : k ≤ m := by
 rw [← nsq, ← nsq, Rat.natCast_le_natCast] at h
 exact Nat.mul_self_le_mul_self_iff.1 h
theorem rtL_max {x : Rat} {k : Nat} (h0 : 0 ≤ x) (h : (k : Rat) * (k : Rat) ≤ x) : k ≤ rtL x := sq_lt_nat (Std.lt_of_le_of_lt h (rtL_lt h0))
theorem rtH_min {x : Rat} {k : Nat} (h0 : 0 ≤ x) (h : x ≤ (k : Rat) * (k : Rat)) : rtH x ≤ k := by
 have h1 := rtL_le h0
 unfold rtH
 split
 ·exact sq_le_nat (Rat.le_trans h1 h)
 ·rename_i e
  have h2 : rtL x ≤ k := sq_le_nat (Rat.le_trans h1 h)
  rcases Nat.lt_or_ge (rtL x) k with h3 | h3
  ·exact h3
  ·have : rtL x = k := Nat.le_antisymm h2 h3
   rw [← this] at h
   exact absurd (Rat.le_antisymm h1 h) e
theorem rtL_mono {x y : Rat} (h0 : 0 ≤ x) (h : x ≤ y) : rtL x ≤ rtL y := rtL_max (Rat.le_trans h0 h) (Rat.le_trans (rtL_le h0) h)
theorem rtH_mono {x y : Rat} (h0 : 0 ≤ x) (h : x ≤ y) : rtH x ≤ rtH y := rtH_min h0 (Rat.le_trans h (rtH_ge (Rat.le_trans h0 h)))
theorem rt_le {x : Rat} : rtL x ≤ rtH x := by unfold rtH; split <;> omega
theorem mul_stepR_le {a b : Rat} (p : Nat) (h : a ≤ b) : a * stepR p ≤ b * stepR p := Rat.mul_le_mul_of_nonneg_right h (Rat.le_of_lt (stepR_pos p))
theorem nat_step_le {a b : Nat} (p : Nat) (h : a ≤ b) : (a : Rat) * stepR p ≤ (b : Rat) * stepR p := mul_stepR_le p (Rat.natCast_le_natCast.2 h)
theorem scale_mono (p : Nat) {a b : Rat} (h : a ≤ b) : scaleR p a ≤ scaleR p b := Rat.mul_le_mul_of_nonneg_right h (Rat.mul_nonneg (Rat.le_of_lt (twoQ_pos p)) (Rat.le_of_lt (twoQ_pos p)))
theorem below_mono (p : Nat) {a b : Rat} (h0 : 0 ≤ a) (h : a ≤ b) : below p a ≤ below p b := nat_step_le p (rtL_mono (scale_nn p h0) (scale_mono p h))
theorem above_mono (p : Nat) {a b : Rat} (h0 : 0 ≤ a) (h : a ≤ b) : above p a ≤ above p b := nat_step_le p (rtH_mono (scale_nn p h0) (scale_mono p h))
theorem below_le_above (p : Nat) (a : Rat) : below p a ≤ above p a := nat_step_le p rt_le
theorem two_split {p r : Nat} (h : p ≤ r) : twoQ r = twoQ p * ((2 ^ (r - p) : Nat) : Rat) := by
 unfold twoQ
 rw [← Rat.natCast_mul, ← Nat.pow_add, Nat.add_sub_cancel' h]
theorem step_split {p r : Nat} (h : p ≤ r) : stepR p = ((2 ^ (r - p) : Nat) : Rat) * stepR r := by
 have h1 := stepR_mul p
 have h2 := stepR_mul r
 rw [two_split h] at h2
 refine mul_inj (twoQ_pos p) ?_
 rw [h1, ← h2]; grind
theorem scale_split {p r : Nat} (a : Rat) (h : p ≤ r) : scaleR r a = scaleR p a * (((2 ^ (r - p) : Nat) : Rat) * ((2 ^ (r - p) : Nat) : Rat)) := by
 unfold scaleR
 rw [two_split h]; grind
theorem sq_nn (k : Nat) : 0 ≤ ((k : Nat) : Rat) * ((k : Nat) : Rat) := Rat.mul_nonneg Rat.natCast_nonneg Rat.natCast_nonneg
theorem below_finer {p r : Nat} {a : Rat} (h0 : 0 ≤ a) (h : p ≤ r) : below p a ≤ below r a := by
 unfold below
 rw [step_split h, ← Rat.mul_assoc, ← Rat.natCast_mul]
 refine nat_step_le r (rtL_max (scale_nn r h0) ?_)
 rw [scale_split a h, Rat.natCast_mul]
 have h1 := Rat.mul_le_mul_of_nonneg_right (rtL_le (scale_nn p h0)) (sq_nn (2 ^ (r - p)))
 generalize ((2 ^ (r - p) : Nat) : Rat) = k at h1 ⊢
 generalize ((rtL (scaleR p a) : Nat) : Rat) = z at h1 ⊢
 grind
theorem above_finer {p r : Nat} {a : Rat} (h0 : 0 ≤ a) (h : p ≤ r) : above r a ≤ above p a := by
 unfold above
 rw [step_split h, ← Rat.mul_assoc, ← Rat.natCast_mul]
 refine nat_step_le r (rtH_min (scale_nn r h0) ?_)
 rw [scale_split a h, Rat.natCast_mul]
 have h1 := Rat.mul_le_mul_of_nonneg_right (rtH_ge (scale_nn p h0)) (sq_nn (2 ^ (r - p)))
 generalize ((2 ^ (r - p) : Nat) : Rat) = k at h1 ⊢
 generalize ((rtH (scaleR p a) : Nat) : Rat) = z at h1 ⊢
 grind
theorem scale_four {q : Nat} (h : 0 < q) (a : Rat) : scaleR (q - 1) (((4 : Int) : Rat) * a) = scaleR q a := by
 rw [scale_split a (show q - 1 ≤ q by omega), show q - (q - 1) = 1 by omega]
 unfold scaleR
 have : ((2 ^ 1 : Nat) : Rat) = 2 := rfl
 have e4 : ((4 : Int) : Rat) = 4 := rfl
 rw [this, e4]; grind
theorem step_two {q : Nat} (h : 0 < q) : stepR (q - 1) = ((2 : Int) : Rat) * stepR q := by
 rw [step_split (show q - 1 ≤ q by omega), show q - (q - 1) = 1 by omega]; rfl
theorem below_four {q : Nat} (h : 0 < q) (a : Rat) : below (q - 1) (((4 : Int) : Rat) * a) = ((2 : Int) : Rat) * below q a := by
 unfold below
 rw [scale_four h, step_two h]; grind
theorem above_four {q : Nat} (h : 0 < q) (a : Rat) : above (q - 1) (((4 : Int) : Rat) * a) = ((2 : Int) : Rat) * above q a := by
 unfold above
 rw [scale_four h, step_two h]; grind
end Go.Proofs.YtdkjckiialnpnaaGreatDoor
namespace Go.Proofs.YtdkjckiialnpnaaGreatDoor
open Go.RowKit
attribute [local irreducible] lo hs sm s64 c64 d64 b64 mh ml pd pc qd qc val hiB str cmpI srD lz isq zl zh zs
/-- A fraction of small data. -/
def qmade (n : Int) (d : Nat) : Rat := mkRat n (if d < 1 then 1 else d)
theorem qmade_parts (n : Int) (d : Nat) : (qmade n d).num.natAbs ≤ n.natAbs ∧ (qmade n d).den ≤ (if d < 1 then 1 else d) := by
 unfold qmade
 obtain ⟨h1, h2⟩ := canc (z := n) (d := if d < 1 then 1 else d) (by split <;> omega)
 rw [h1, h2, Int.natAbs_tdiv]
 exact ⟨Nat.div_le_self _ _, Nat.div_le_self _ _⟩
theorem qmade_sz (n : Int) (d : Nat) (h1 : -9223372036854775808 ≤ n) (h2 : n < 9223372036854775808) (h3 : d < 4294967296) : Sz (qmade n d) 1 := by
 obtain ⟨e1, e2⟩ := qmade_parts n d
 exact szc _ (by omega) (by split at e2 <;> omega)
end Go.Proofs.YtdkjckiialnpnaaGreatDoor
namespace Go.Proofs.YtdkjckiialnpnaaGreatDoor
open Go.RowKit
attribute [local irreducible] lo hs sm s64 c64 d64 b64 mh ml pd pc qd qc val hiB str cmpI srD lz nb isq zl zh zs fe
set_option maxHeartbeats 4000000 in
set_option maxRecDepth 100000 in
theorem rrise_zero (nx dx ny dy m8 e8 m1 n1 p c0 c1 c2 c3 c4 c5 : Int) (u1 v1 a0 b0 l1 l2 h1 h2 l3 h3 : Rat) (G1 : ∀ w, Calls Tryz.prog 16 #[.agg #[.int .i64 nx, .int .u32 dx]] w fun xe w' => xe = .returned (fracV u1) ∧ Below w.heap.size w w') (G2 : ∀ w, Calls Tryz.prog 16 #[.agg #[.int .i64 ny, .int .u32 dy]] w fun xe w' => xe = .returned (fracV v1) ∧ Below w.heap.size w w') (A1 : ∀ w, Calls Tryz.prog 30 #[fracV u1] w fun xe w' => xe = .returned (fracV a0) ∧ Below w.heap.size w w') (A2 : ∀ w, Calls Tryz.prog 30 #[fracV v1] w fun xe w' => xe = .returned (fracV b0) ∧ Below w.heap.size w w') (C0 : ∀ w, Calls Tryz.prog 26 #[fracV a0, fracV b0] w fun xe w' => xe = .returned (.int .i64 c0) ∧ Below w.heap.size w w') (B1 : ∀ w, Calls Tryz.prog 36 #[fracV a0, .int .i64 p] w fun xe w' => xe = .returned (.tuple #[fracV l1, .int .i64 0]) ∧ Below w.heap.size w w') (B2 : ∀ w, Calls Tryz.prog 36 #[fracV a0, .int .i64 0] w fun xe w' => xe = .returned (.tuple #[fracV l2, .int .i64 0]) ∧ Below w.heap.size w w') (B3 : ∀ w, Calls Tryz.prog 37 #[fracV a0, .int .i64 p] w fun xe w' => xe = .returned (.tuple #[fracV h1, .int .i64 0]) ∧ Below w.heap.size w w') (B4 : ∀ w, Calls Tryz.prog 37 #[fracV a0, .int .i64 0] w fun xe w' => xe = .returned (.tuple #[fracV h2, .int .i64 0]) ∧ Below w.heap.size w w') (B5 : ∀ w, Calls Tryz.prog 36 #[fracV b0, .int .i64 p] w fun xe w' => xe = .returned (.tuple #[fracV l3, .int .i64 0]) ∧ Below w.heap.size w w') (B6 : ∀ w, Calls Tryz.prog 37 #[fracV b0, .int .i64 p] w fun xe w' => xe = .returned (.tuple #[fracV h3, .int .i64 0]) ∧ Below w.heap.size w w') (C1 : ∀ w, Calls Tryz.prog 26 #[fracV l1, fracV l2] w fun xe w' => xe = .returned (.int .i64 c1) ∧ Below w.heap.size w w') (C2 : ∀ w, Calls Tryz.prog 26 #[fracV h2, fracV h1] w fun xe w' => xe = .returned (.int .i64 c2) ∧ Below w.heap.size w w') (C3 : ∀ w, Calls Tryz.prog 26 #[fracV l1, fracV l3] w fun xe w' => xe = .returned (.int .i64 c3) ∧ Below w.heap.size w w') (C4 : ∀ w, Calls Tryz.prog 26 #[fracV h1, fracV h3] w fun xe w' => xe = .returned (.int .i64 c4) ∧ Below w.heap.size w w') (C5 : ∀ w, Calls Tryz.prog 26 #[fracV l2, fracV h2] w fun xe w' => xe = .returned (.int .i64 c5) ∧ Below w.heap.size w w') (KT : World → Prop) (hKT : Keeps KT) (HW : ∀ w, KT w → Calls Tryz.prog 35 #[] w fun xe w' => xe = .returned (.bool true) ∧ Below w.heap.size w w') (w1 : IntKind.i64.wrap m8 = m8) (w2 : IntKind.i64.wrap e8 = e8) (e1 : m8.tmod 101 = m1) (e2 : e8.tmod 101 = n1) (s0 : decide (0 < c0) = false) (s1 : decide (0 < c1) = false) (s2 : decide (0 < c2) = false) (s3 : decide (0 < c3) = false) (s4 : decide (0 < c4) = false) (s5 : decide (0 < c5) = false) (hpq : (decide (n1 < m1) = true ∧ m1 = 0 ∧ n1 = p) ∨ (decide (n1 < m1) = false ∧ m1 = p ∧ n1 = 0)) (w : World) (kKT : KT w) :
  Calls Tryz.prog 11 #[.agg #[.int .i64 nx, .int .u32 dx], .agg #[.int .i64 ny, .int .u32 dy], .int .u8 m8, .int .u8 e8] w fun xe w' => xe = .returned (.bool true) ∧ Below w.heap.size w w' := by
 have hL0 : GL w w [] := GL.start w
 replace G1 := Lib.hid G1
 replace G2 := Lib.hid G2
 replace A1 := Lib.hid A1
 replace A2 := Lib.hid A2
 replace C0 := Lib.hid C0
 replace B1 := Lib.hid B1
 replace B2 := Lib.hid B2
 replace B3 := Lib.hid B3
 replace B4 := Lib.hid B4
 replace B5 := Lib.hid B5
 replace B6 := Lib.hid B6
 replace C1 := Lib.hid C1
 replace C2 := Lib.hid C2
 replace C3 := Lib.hid C3
 replace C4 := Lib.hid C4
 replace C5 := Lib.hid C5
 replace hKT := Lib.hid hKT
 replace HW := Lib.hid HW
 have hz := hpq
 clear hpq
 rcases hz with ⟨e0, rfl, rfl⟩ | ⟨e0, rfl, rfl⟩
 all_goals (
  replace hL0 := ((hL0.new rfl [.int .i64 nx, .int .u32 dx] 24).new (K := w.heap.size + 1) (szA _ _) [.int .i64 ny, .int .u32 dy] 24)
  generalize hweq : ((w.alloc (.cells #[.int .i64 nx, .int .u32 dx] 24)).alloc (.cells #[.int .i64 ny, .int .u32 dy] 24)) = x1 at hL0
  go_enter Tryz.func11, Tryz.ntmps11
  go_upto_region 4 with fail
  clear hweq
  refine region_gh (by kernel_rfl) (by kernel_rfl) ?_
  refine lex_seg (gl := []) 6 (by kernel_rfl) ?_
  intro α iα F hF1 hF2
  have hq := GL.seg hF1 hL0
  simp only [fcC, cellsC, and_true, Nat.zero_add, Nat.reduceAdd] at hq
  simp only [List.take_succ_cons, List.take_zero, List.drop_succ_cons, List.drop_zero, List.take_nil, List.drop_nil]
  repeat (go_big_quiet_step (first | fail | (go_at_call 16; with_reducible exact seg_call hF2 G1.out _) | (go_at_call 30; with_reducible exact seg_call hF2 A1.out _) | (go_at_call 16; with_reducible exact seg_call hF2 G2.out _) | (go_at_call 30; with_reducible exact seg_call hF2 A2.out _)))
  refine wpQuiet_nil ?_
  clear hq hF1 hF2 iα F α
  refine lex_new [.int .u64 0, .string ⟨#[]⟩, .bool false, .int .u64 0, .string ⟨#[]⟩] 11 34 34 rfl rfl (of_decide_eq_true (by kernel_rfl)) (by kernel_rfl) rfl new_frac ?_
  simp only [Act.put, List.setIfInBounds_toArray, List.set_cons_succ, List.set_cons_zero]
  refine lex_new [.int .u64 0, .string ⟨#[]⟩, .bool false, .int .u64 0, .string ⟨#[]⟩] 12 34 34 rfl rfl (of_decide_eq_true (by kernel_rfl)) (by kernel_rfl) rfl new_frac ?_
  simp only [Act.put, List.setIfInBounds_toArray, List.set_cons_succ, List.set_cons_zero]
  refine lex_put [.int .u64 ((zl a0.num : Nat) : Int), .string (zh a0.num), .bool (zs a0.num), .int .u64 ((lo (fe a0) : Nat) : Int), .string (hs (fe a0))] [.int .u64 0, .string ⟨#[]⟩, .bool false, .int .u64 0, .string ⟨#[]⟩] 11 34 (.tmp 42) rfl (by kernel_rfl) (by simp [toG, upd]) rfl (fun w k h => put_frac _ _ _ _ _ _ _ _ _ _ w k h) ?_
  simp only [Act.put]
  refine lex_put [.int .u64 ((zl b0.num : Nat) : Int), .string (zh b0.num), .bool (zs b0.num), .int .u64 ((lo (fe b0) : Nat) : Int), .string (hs (fe b0))] [.int .u64 0, .string ⟨#[]⟩, .bool false, .int .u64 0, .string ⟨#[]⟩] 12 34 (.tmp 45) rfl (by kernel_rfl) (by simp [toG, upd]) rfl (fun w k h => put_frac _ _ _ _ _ _ _ _ _ _ w k h) ?_
  simp only [Act.put]
  refine lexG_nil ?_
  intro κ x2 hS
  replace hL0 := hL0.ghs hS [(12, [.int .u64 ((zl b0.num : Nat) : Int), .string (zh b0.num), .bool (zs b0.num), .int .u64 ((lo (fe b0) : Nat) : Int), .string (hs (fe b0))]), (11, [.int .u64 ((zl a0.num : Nat) : Int), .string (zh a0.num), .bool (zs a0.num), .int .u64 ((lo (fe a0) : Nat) : Int), .string (hs (fe a0))])] (by simp) (by intro p hp; simp only [List.mem_cons, List.not_mem_nil, or_false] at hp; rcases hp with rfl | rfl <;> exact ⟨_, by simp only [toG, upd]; rfl⟩)
  simp only [List.map_cons, List.map_nil, List.cons_append, List.nil_append] at hL0
  simp only [over_toG, over_nil, Act.put, List.setIfInBounds_toArray, List.set_cons_succ, List.set_cons_zero]
  clear hS
  generalize κ 12 = k2_12 at *
  generalize κ 11 = k2_11 at *
  have hN0 := cells_of _ 0 [] rfl (hL0.get _ _ List.mem_cons_self)
  simp only [cellsF, and_true, Nat.zero_add, Nat.reduceAdd] at hN0
  have hN1 := cells_of _ 0 [] rfl (hL0.get _ _ (List.mem_cons_of_mem _ List.mem_cons_self))
  simp only [cellsF, and_true, Nat.zero_add, Nat.reduceAdd] at hN1
  go_wp2_with fail
  clear hN0 hN1
  with_reducible refine Calls.mono (C0.out _) ?_
  rintro e x3 ⟨rfl, hb⟩
  replace hL0 := hL0.call hb
  clear hb
  have hN0 := cells_of _ 0 [] rfl (hL0.get _ _ (List.mem_cons_of_mem _ List.mem_cons_self))
  simp only [cellsF, and_true, Nat.zero_add, Nat.reduceAdd] at hN0
  go_wp2_with fail
  clear hN0
  with_reducible refine Calls.mono (B1.out _) ?_
  rintro e x4 ⟨rfl, hb⟩
  replace hL0 := hL0.call hb
  clear hb
  replace hL0 := (hL0.new rfl [.int .u64 ((zl l1.num : Nat) : Int), .string (zh l1.num), .bool (zs l1.num), .int .u64 ((lo (fe l1) : Nat) : Int), .string (hs (fe l1))] 34)
  generalize hweq : (x4.alloc (.cells #[.int .u64 ((zl l1.num : Nat) : Int), .string (zh l1.num), .bool (zs l1.num), .int .u64 ((lo (fe l1) : Nat) : Int), .string (hs (fe l1))] 34)) = x5 at hL0
  have hN0 := cells_of _ 0 [] rfl (hL0.get _ _ (List.mem_cons_of_mem _ (List.mem_cons_of_mem _ List.mem_cons_self)))
  simp only [cellsF, and_true, Nat.zero_add, Nat.reduceAdd] at hN0
  go_wp2_with fail
  clear hN0
  with_reducible refine Calls.mono (B2.out _) ?_
  rintro e x6 ⟨rfl, hb⟩
  replace hL0 := hL0.call hb
  clear hb hweq
  replace hL0 := (hL0.new rfl [.int .u64 ((zl l2.num : Nat) : Int), .string (zh l2.num), .bool (zs l2.num), .int .u64 ((lo (fe l2) : Nat) : Int), .string (hs (fe l2))] 34)
  generalize hweq : (x6.alloc (.cells #[.int .u64 ((zl l2.num : Nat) : Int), .string (zh l2.num), .bool (zs l2.num), .int .u64 ((lo (fe l2) : Nat) : Int), .string (hs (fe l2))] 34)) = x7 at hL0
  have hN0 := cells_of _ 0 [] rfl (hL0.get _ _ (List.mem_cons_of_mem _ (List.mem_cons_of_mem _ (List.mem_cons_of_mem _ List.mem_cons_self))))
  simp only [cellsF, and_true, Nat.zero_add, Nat.reduceAdd] at hN0
  go_wp2_with fail
  clear hN0
  with_reducible refine Calls.mono (B3.out _) ?_
  rintro e x8 ⟨rfl, hb⟩
  replace hL0 := hL0.call hb
  clear hb hweq
  replace hL0 := (hL0.new rfl [.int .u64 ((zl h1.num : Nat) : Int), .string (zh h1.num), .bool (zs h1.num), .int .u64 ((lo (fe h1) : Nat) : Int), .string (hs (fe h1))] 34)
  generalize hweq : (x8.alloc (.cells #[.int .u64 ((zl h1.num : Nat) : Int), .string (zh h1.num), .bool (zs h1.num), .int .u64 ((lo (fe h1) : Nat) : Int), .string (hs (fe h1))] 34)) = x9 at hL0
  have hN0 := cells_of _ 0 [] rfl (hL0.get _ _ (List.mem_cons_of_mem _ (List.mem_cons_of_mem _ (List.mem_cons_of_mem _ (List.mem_cons_of_mem _ List.mem_cons_self)))))
  simp only [cellsF, and_true, Nat.zero_add, Nat.reduceAdd] at hN0
  go_wp2_with fail
  clear hN0
  with_reducible refine Calls.mono (B4.out _) ?_
  rintro e x10 ⟨rfl, hb⟩
  replace hL0 := hL0.call hb
  clear hb hweq
  replace hL0 := (hL0.new rfl [.int .u64 ((zl h2.num : Nat) : Int), .string (zh h2.num), .bool (zs h2.num), .int .u64 ((lo (fe h2) : Nat) : Int), .string (hs (fe h2))] 34)
  generalize hweq : (x10.alloc (.cells #[.int .u64 ((zl h2.num : Nat) : Int), .string (zh h2.num), .bool (zs h2.num), .int .u64 ((lo (fe h2) : Nat) : Int), .string (hs (fe h2))] 34)) = x11 at hL0
  have hN0 := cells_of _ 0 [] rfl (hL0.get _ _ (List.mem_cons_of_mem _ (List.mem_cons_of_mem _ (List.mem_cons_of_mem _ (List.mem_cons_of_mem _ List.mem_cons_self)))))
  simp only [cellsF, and_true, Nat.zero_add, Nat.reduceAdd] at hN0
  go_wp2_with fail
  clear hN0
  with_reducible refine Calls.mono (B5.out _) ?_
  rintro e x12 ⟨rfl, hb⟩
  replace hL0 := hL0.call hb
  clear hb hweq
  replace hL0 := (hL0.new rfl [.int .u64 ((zl l3.num : Nat) : Int), .string (zh l3.num), .bool (zs l3.num), .int .u64 ((lo (fe l3) : Nat) : Int), .string (hs (fe l3))] 34)
  generalize hweq : (x12.alloc (.cells #[.int .u64 ((zl l3.num : Nat) : Int), .string (zh l3.num), .bool (zs l3.num), .int .u64 ((lo (fe l3) : Nat) : Int), .string (hs (fe l3))] 34)) = x13 at hL0
  have hN0 := cells_of _ 0 [] rfl (hL0.get _ _ (List.mem_cons_of_mem _ (List.mem_cons_of_mem _ (List.mem_cons_of_mem _ (List.mem_cons_of_mem _ (List.mem_cons_of_mem _ List.mem_cons_self))))))
  simp only [cellsF, and_true, Nat.zero_add, Nat.reduceAdd] at hN0
  go_wp2_with fail
  clear hN0
  with_reducible refine Calls.mono (B6.out _) ?_
  rintro e x14 ⟨rfl, hb⟩
  replace hL0 := hL0.call hb
  clear hb hweq
  replace hL0 := (hL0.new rfl [.int .u64 ((zl h3.num : Nat) : Int), .string (zh h3.num), .bool (zs h3.num), .int .u64 ((lo (fe h3) : Nat) : Int), .string (hs (fe h3))] 34)
  generalize hweq : (x14.alloc (.cells #[.int .u64 ((zl h3.num : Nat) : Int), .string (zh h3.num), .bool (zs h3.num), .int .u64 ((lo (fe h3) : Nat) : Int), .string (hs (fe h3))] 34)) = x15 at hL0
  have hN0 := cells_of _ 0 [] rfl (hL0.get _ _ (List.mem_cons_of_mem _ (List.mem_cons_of_mem _ (List.mem_cons_of_mem _ (List.mem_cons_of_mem _ List.mem_cons_self)))))
  simp only [cellsF, and_true, Nat.zero_add, Nat.reduceAdd] at hN0
  have hN1 := cells_of _ 0 [] rfl (hL0.get _ _ (List.mem_cons_of_mem _ (List.mem_cons_of_mem _ (List.mem_cons_of_mem _ (List.mem_cons_of_mem _ (List.mem_cons_of_mem _ List.mem_cons_self))))))
  simp only [cellsF, and_true, Nat.zero_add, Nat.reduceAdd] at hN1
  go_wp2_with fail
  clear hN0 hN1
  with_reducible refine Calls.mono (C1.out _) ?_
  rintro e x16 ⟨rfl, hb⟩
  replace hL0 := hL0.call hb
  clear hb hweq
  have hN0 := cells_of _ 0 [] rfl (hL0.get _ _ (List.mem_cons_of_mem _ (List.mem_cons_of_mem _ List.mem_cons_self)))
  simp only [cellsF, and_true, Nat.zero_add, Nat.reduceAdd] at hN0
  have hN1 := cells_of _ 0 [] rfl (hL0.get _ _ (List.mem_cons_of_mem _ (List.mem_cons_of_mem _ (List.mem_cons_of_mem _ List.mem_cons_self))))
  simp only [cellsF, and_true, Nat.zero_add, Nat.reduceAdd] at hN1
  go_wp2_with fail
  clear hN0 hN1
  with_reducible refine Calls.mono (C2.out _) ?_
  rintro e x17 ⟨rfl, hb⟩
  replace hL0 := hL0.call hb
  clear hb
  have hN0 := cells_of _ 0 [] rfl (hL0.get _ _ (List.mem_cons_of_mem _ List.mem_cons_self))
  simp only [cellsF, and_true, Nat.zero_add, Nat.reduceAdd] at hN0
  have hN1 := cells_of _ 0 [] rfl (hL0.get _ _ (List.mem_cons_of_mem _ (List.mem_cons_of_mem _ (List.mem_cons_of_mem _ (List.mem_cons_of_mem _ (List.mem_cons_of_mem _ List.mem_cons_self))))))
  simp only [cellsF, and_true, Nat.zero_add, Nat.reduceAdd] at hN1
  go_wp2_with fail
  clear hN0 hN1
  with_reducible refine Calls.mono (C3.out _) ?_
  rintro e x18 ⟨rfl, hb⟩
  replace hL0 := hL0.call hb
  clear hb
  have hN0 := cells_of _ 0 [] rfl (hL0.get _ _ List.mem_cons_self)
  simp only [cellsF, and_true, Nat.zero_add, Nat.reduceAdd] at hN0
  have hN1 := cells_of _ 0 [] rfl (hL0.get _ _ (List.mem_cons_of_mem _ (List.mem_cons_of_mem _ (List.mem_cons_of_mem _ List.mem_cons_self))))
  simp only [cellsF, and_true, Nat.zero_add, Nat.reduceAdd] at hN1
  go_wp2_with fail
  clear hN0 hN1
  with_reducible refine Calls.mono (C4.out _) ?_
  rintro e x19 ⟨rfl, hb⟩
  replace hL0 := hL0.call hb
  clear hb
  have hN0 := cells_of _ 0 [] rfl (hL0.get _ _ (List.mem_cons_of_mem _ (List.mem_cons_of_mem _ List.mem_cons_self)))
  simp only [cellsF, and_true, Nat.zero_add, Nat.reduceAdd] at hN0
  have hN1 := cells_of _ 0 [] rfl (hL0.get _ _ (List.mem_cons_of_mem _ (List.mem_cons_of_mem _ (List.mem_cons_of_mem _ (List.mem_cons_of_mem _ List.mem_cons_self)))))
  simp only [cellsF, and_true, Nat.zero_add, Nat.reduceAdd] at hN1
  go_wp2_with fail
  clear hN0 hN1
  with_reducible refine Calls.mono (C5.out _) ?_
  rintro e x20 ⟨rfl, hb⟩
  replace hL0 := hL0.call hb
  clear hb
  go_wp2_with fail
  with_reducible refine Calls.mono (HW.out _ (hKT.out.at hL0.bl kKT)) ?_
  rintro e x21 ⟨rfl, hb⟩
  replace hL0 := hL0.call hb
  clear hb
  go_wp2_with fail
  exact bodyPost_ret (v := .bool true) (by simp [results, Tryz.results11, go_sem]) rfl ⟨rfl, hL0.bl⟩)
set_option maxHeartbeats 4000000 in
set_option maxRecDepth 100000 in
theorem rrise_zero_s (nx dx ny dy m8 e8 m1 n1 p c0 c1 c2 c3 c4 c5 : Int) (u1 v1 a0 b0 l1 l2 h1 h2 l3 h3 : Rat) (G1 : ∀ w, Calls Tryz.prog 16 #[.agg #[.int .i64 nx, .int .u32 dx]] w fun xe w' => xe = .returned (fracV u1) ∧ Below w.heap.size w w') (G2 : ∀ w, Calls Tryz.prog 16 #[.agg #[.int .i64 ny, .int .u32 dy]] w fun xe w' => xe = .returned (fracV v1) ∧ Below w.heap.size w w') (A1 : ∀ w, Calls Tryz.prog 30 #[fracV u1] w fun xe w' => xe = .returned (fracV a0) ∧ Below w.heap.size w w') (A2 : ∀ w, Calls Tryz.prog 30 #[fracV v1] w fun xe w' => xe = .returned (fracV b0) ∧ Below w.heap.size w w') (C0 : ∀ w, Calls Tryz.prog 26 #[fracV a0, fracV b0] w fun xe w' => xe = .returned (.int .i64 c0) ∧ Below w.heap.size w w') (B1 : ∀ w, Calls Tryz.prog 36 #[fracV b0, .int .i64 p] w fun xe w' => xe = .returned (.tuple #[fracV l1, .int .i64 0]) ∧ Below w.heap.size w w') (B2 : ∀ w, Calls Tryz.prog 36 #[fracV b0, .int .i64 0] w fun xe w' => xe = .returned (.tuple #[fracV l2, .int .i64 0]) ∧ Below w.heap.size w w') (B3 : ∀ w, Calls Tryz.prog 37 #[fracV b0, .int .i64 p] w fun xe w' => xe = .returned (.tuple #[fracV h1, .int .i64 0]) ∧ Below w.heap.size w w') (B4 : ∀ w, Calls Tryz.prog 37 #[fracV b0, .int .i64 0] w fun xe w' => xe = .returned (.tuple #[fracV h2, .int .i64 0]) ∧ Below w.heap.size w w') (B5 : ∀ w, Calls Tryz.prog 36 #[fracV a0, .int .i64 p] w fun xe w' => xe = .returned (.tuple #[fracV l3, .int .i64 0]) ∧ Below w.heap.size w w') (B6 : ∀ w, Calls Tryz.prog 37 #[fracV a0, .int .i64 p] w fun xe w' => xe = .returned (.tuple #[fracV h3, .int .i64 0]) ∧ Below w.heap.size w w') (C1 : ∀ w, Calls Tryz.prog 26 #[fracV l1, fracV l2] w fun xe w' => xe = .returned (.int .i64 c1) ∧ Below w.heap.size w w') (C2 : ∀ w, Calls Tryz.prog 26 #[fracV h2, fracV h1] w fun xe w' => xe = .returned (.int .i64 c2) ∧ Below w.heap.size w w') (C3 : ∀ w, Calls Tryz.prog 26 #[fracV l1, fracV l3] w fun xe w' => xe = .returned (.int .i64 c3) ∧ Below w.heap.size w w') (C4 : ∀ w, Calls Tryz.prog 26 #[fracV h1, fracV h3] w fun xe w' => xe = .returned (.int .i64 c4) ∧ Below w.heap.size w w') (C5 : ∀ w, Calls Tryz.prog 26 #[fracV l2, fracV h2] w fun xe w' => xe = .returned (.int .i64 c5) ∧ Below w.heap.size w w') (KT : World → Prop) (hKT : Keeps KT) (HW : ∀ w, KT w → Calls Tryz.prog 35 #[] w fun xe w' => xe = .returned (.bool true) ∧ Below w.heap.size w w') (w1 : IntKind.i64.wrap m8 = m8) (w2 : IntKind.i64.wrap e8 = e8) (e1 : m8.tmod 101 = m1) (e2 : e8.tmod 101 = n1) (s0 : decide (0 < c0) = true) (s1 : decide (0 < c1) = false) (s2 : decide (0 < c2) = false) (s3 : decide (0 < c3) = false) (s4 : decide (0 < c4) = false) (s5 : decide (0 < c5) = false) (hpq : (decide (n1 < m1) = true ∧ m1 = 0 ∧ n1 = p) ∨ (decide (n1 < m1) = false ∧ m1 = p ∧ n1 = 0)) (w : World) (kKT : KT w) :
  Calls Tryz.prog 11 #[.agg #[.int .i64 nx, .int .u32 dx], .agg #[.int .i64 ny, .int .u32 dy], .int .u8 m8, .int .u8 e8] w fun xe w' => xe = .returned (.bool true) ∧ Below w.heap.size w w' := by
 have hL0 : GL w w [] := GL.start w
 replace G1 := Lib.hid G1
 replace G2 := Lib.hid G2
 replace A1 := Lib.hid A1
 replace A2 := Lib.hid A2
 replace C0 := Lib.hid C0
 replace B1 := Lib.hid B1
 replace B2 := Lib.hid B2
 replace B3 := Lib.hid B3
 replace B4 := Lib.hid B4
 replace B5 := Lib.hid B5
 replace B6 := Lib.hid B6
 replace C1 := Lib.hid C1
 replace C2 := Lib.hid C2
 replace C3 := Lib.hid C3
 replace C4 := Lib.hid C4
 replace C5 := Lib.hid C5
 replace hKT := Lib.hid hKT
 replace HW := Lib.hid HW
 have hz := hpq
 clear hpq
 rcases hz with ⟨e0, rfl, rfl⟩ | ⟨e0, rfl, rfl⟩
 all_goals (
  replace hL0 := ((hL0.new rfl [.int .i64 nx, .int .u32 dx] 24).new (K := w.heap.size + 1) (szA _ _) [.int .i64 ny, .int .u32 dy] 24)
  generalize hweq : ((w.alloc (.cells #[.int .i64 nx, .int .u32 dx] 24)).alloc (.cells #[.int .i64 ny, .int .u32 dy] 24)) = x1 at hL0
  go_enter Tryz.func11, Tryz.ntmps11
  go_upto_region 4 with fail
  clear hweq
  refine region_gh (by kernel_rfl) (by kernel_rfl) ?_
  refine lex_seg (gl := []) 6 (by kernel_rfl) ?_
  intro α iα F hF1 hF2
  have hq := GL.seg hF1 hL0
  simp only [fcC, cellsC, and_true, Nat.zero_add, Nat.reduceAdd] at hq
  simp only [List.take_succ_cons, List.take_zero, List.drop_succ_cons, List.drop_zero, List.take_nil, List.drop_nil]
  repeat (go_big_quiet_step (first | fail | (go_at_call 16; with_reducible exact seg_call hF2 G1.out _) | (go_at_call 30; with_reducible exact seg_call hF2 A1.out _) | (go_at_call 16; with_reducible exact seg_call hF2 G2.out _) | (go_at_call 30; with_reducible exact seg_call hF2 A2.out _)))
  refine wpQuiet_nil ?_
  clear hq hF1 hF2 iα F α
  refine lex_new [.int .u64 0, .string ⟨#[]⟩, .bool false, .int .u64 0, .string ⟨#[]⟩] 11 34 34 rfl rfl (of_decide_eq_true (by kernel_rfl)) (by kernel_rfl) rfl new_frac ?_
  simp only [Act.put, List.setIfInBounds_toArray, List.set_cons_succ, List.set_cons_zero]
  refine lex_new [.int .u64 0, .string ⟨#[]⟩, .bool false, .int .u64 0, .string ⟨#[]⟩] 12 34 34 rfl rfl (of_decide_eq_true (by kernel_rfl)) (by kernel_rfl) rfl new_frac ?_
  simp only [Act.put, List.setIfInBounds_toArray, List.set_cons_succ, List.set_cons_zero]
  refine lex_put [.int .u64 ((zl a0.num : Nat) : Int), .string (zh a0.num), .bool (zs a0.num), .int .u64 ((lo (fe a0) : Nat) : Int), .string (hs (fe a0))] [.int .u64 0, .string ⟨#[]⟩, .bool false, .int .u64 0, .string ⟨#[]⟩] 11 34 (.tmp 42) rfl (by kernel_rfl) (by simp [toG, upd]) rfl (fun w k h => put_frac _ _ _ _ _ _ _ _ _ _ w k h) ?_
  simp only [Act.put]
  refine lex_put [.int .u64 ((zl b0.num : Nat) : Int), .string (zh b0.num), .bool (zs b0.num), .int .u64 ((lo (fe b0) : Nat) : Int), .string (hs (fe b0))] [.int .u64 0, .string ⟨#[]⟩, .bool false, .int .u64 0, .string ⟨#[]⟩] 12 34 (.tmp 45) rfl (by kernel_rfl) (by simp [toG, upd]) rfl (fun w k h => put_frac _ _ _ _ _ _ _ _ _ _ w k h) ?_
  simp only [Act.put]
  refine lexG_nil ?_
  intro κ x2 hS
  replace hL0 := hL0.ghs hS [(12, [.int .u64 ((zl b0.num : Nat) : Int), .string (zh b0.num), .bool (zs b0.num), .int .u64 ((lo (fe b0) : Nat) : Int), .string (hs (fe b0))]), (11, [.int .u64 ((zl a0.num : Nat) : Int), .string (zh a0.num), .bool (zs a0.num), .int .u64 ((lo (fe a0) : Nat) : Int), .string (hs (fe a0))])] (by simp) (by intro p hp; simp only [List.mem_cons, List.not_mem_nil, or_false] at hp; rcases hp with rfl | rfl <;> exact ⟨_, by simp only [toG, upd]; rfl⟩)
  simp only [List.map_cons, List.map_nil, List.cons_append, List.nil_append] at hL0
  simp only [over_toG, over_nil, Act.put, List.setIfInBounds_toArray, List.set_cons_succ, List.set_cons_zero]
  clear hS
  generalize κ 12 = k2_12 at *
  generalize κ 11 = k2_11 at *
  have hN0 := cells_of _ 0 [] rfl (hL0.get _ _ List.mem_cons_self)
  simp only [cellsF, and_true, Nat.zero_add, Nat.reduceAdd] at hN0
  have hN1 := cells_of _ 0 [] rfl (hL0.get _ _ (List.mem_cons_of_mem _ List.mem_cons_self))
  simp only [cellsF, and_true, Nat.zero_add, Nat.reduceAdd] at hN1
  go_wp2_with fail
  clear hN0 hN1
  with_reducible refine Calls.mono (C0.out _) ?_
  rintro e x3 ⟨rfl, hb⟩
  replace hL0 := hL0.call hb
  clear hb
  have hA := hL0.fc
  simp only [fcG, cellsF, neK, and_true, ne_eq, Nat.zero_add, Nat.reduceAdd] at hA
  have hP := hL0.put 1 (k2_11) _ rfl [.int .u64 ((zl b0.num : Nat) : Int), .string (zh b0.num), .bool (zs b0.num), .int .u64 ((lo (fe b0) : Nat) : Int), .string (hs (fe b0))] rfl
  simp only [setAll, List.set_cons_zero, List.set_cons_succ] at hP
  generalize hput1 : (((((x3.setCell ⟨k2_11, 0, none⟩ (.int .u64 ((zl b0.num : Nat) : Int))).setCell ⟨k2_11, 1, none⟩ (.string (zh b0.num))).setCell ⟨k2_11, 2, none⟩ (.bool (zs b0.num))).setCell ⟨k2_11, 3, none⟩ (.int .u64 ((lo (fe b0) : Nat) : Int))).setCell ⟨k2_11, 4, none⟩ (.string (hs (fe b0)))) = x4 at hP
  have hB1 := hP.fc
  simp only [fcG, cellsF, neK, and_true, ne_eq, Nat.zero_add, Nat.reduceAdd] at hB1
  replace hL0 := hP
  have hP := hL0.put 0 (k2_12) _ rfl [.int .u64 ((zl a0.num : Nat) : Int), .string (zh a0.num), .bool (zs a0.num), .int .u64 ((lo (fe a0) : Nat) : Int), .string (hs (fe a0))] rfl
  simp only [setAll, List.set_cons_zero, List.set_cons_succ] at hP
  generalize hput2 : (((((x4.setCell ⟨k2_12, 0, none⟩ (.int .u64 ((zl a0.num : Nat) : Int))).setCell ⟨k2_12, 1, none⟩ (.string (zh a0.num))).setCell ⟨k2_12, 2, none⟩ (.bool (zs a0.num))).setCell ⟨k2_12, 3, none⟩ (.int .u64 ((lo (fe a0) : Nat) : Int))).setCell ⟨k2_12, 4, none⟩ (.string (hs (fe a0)))) = x5 at hP
  have hB2 := hP.fc
  simp only [fcG, cellsF, neK, and_true, ne_eq, Nat.zero_add, Nat.reduceAdd] at hB2
  replace hL0 := hP
  go_wp2_with fail
  clear hA
  with_reducible refine Calls.mono (B1.out _) ?_
  rintro e x6 ⟨rfl, hb⟩
  replace hL0 := hL0.call hb
  clear hb hput1 hB1 hput2 hB2
  replace hL0 := (hL0.new rfl [.int .u64 ((zl l1.num : Nat) : Int), .string (zh l1.num), .bool (zs l1.num), .int .u64 ((lo (fe l1) : Nat) : Int), .string (hs (fe l1))] 34)
  generalize hweq : (x6.alloc (.cells #[.int .u64 ((zl l1.num : Nat) : Int), .string (zh l1.num), .bool (zs l1.num), .int .u64 ((lo (fe l1) : Nat) : Int), .string (hs (fe l1))] 34)) = x7 at hL0
  have hN0 := cells_of _ 0 [] rfl (hL0.get _ _ (List.mem_cons_of_mem _ (List.mem_cons_of_mem _ List.mem_cons_self)))
  simp only [cellsF, and_true, Nat.zero_add, Nat.reduceAdd] at hN0
  go_wp2_with fail
  clear hN0
  with_reducible refine Calls.mono (B2.out _) ?_
  rintro e x8 ⟨rfl, hb⟩
  replace hL0 := hL0.call hb
  clear hb hweq
  replace hL0 := (hL0.new rfl [.int .u64 ((zl l2.num : Nat) : Int), .string (zh l2.num), .bool (zs l2.num), .int .u64 ((lo (fe l2) : Nat) : Int), .string (hs (fe l2))] 34)
  generalize hweq : (x8.alloc (.cells #[.int .u64 ((zl l2.num : Nat) : Int), .string (zh l2.num), .bool (zs l2.num), .int .u64 ((lo (fe l2) : Nat) : Int), .string (hs (fe l2))] 34)) = x9 at hL0
  have hN0 := cells_of _ 0 [] rfl (hL0.get _ _ (List.mem_cons_of_mem _ (List.mem_cons_of_mem _ (List.mem_cons_of_mem _ List.mem_cons_self))))
  simp only [cellsF, and_true, Nat.zero_add, Nat.reduceAdd] at hN0
  go_wp2_with fail
  clear hN0
  with_reducible refine Calls.mono (B3.out _) ?_
  rintro e x10 ⟨rfl, hb⟩
  replace hL0 := hL0.call hb
  clear hb hweq
  replace hL0 := (hL0.new rfl [.int .u64 ((zl h1.num : Nat) : Int), .string (zh h1.num), .bool (zs h1.num), .int .u64 ((lo (fe h1) : Nat) : Int), .string (hs (fe h1))] 34)
  generalize hweq : (x10.alloc (.cells #[.int .u64 ((zl h1.num : Nat) : Int), .string (zh h1.num), .bool (zs h1.num), .int .u64 ((lo (fe h1) : Nat) : Int), .string (hs (fe h1))] 34)) = x11 at hL0
  have hN0 := cells_of _ 0 [] rfl (hL0.get _ _ (List.mem_cons_of_mem _ (List.mem_cons_of_mem _ (List.mem_cons_of_mem _ (List.mem_cons_of_mem _ List.mem_cons_self)))))
  simp only [cellsF, and_true, Nat.zero_add, Nat.reduceAdd] at hN0
  go_wp2_with fail
  clear hN0
  with_reducible refine Calls.mono (B4.out _) ?_
  rintro e x12 ⟨rfl, hb⟩
  replace hL0 := hL0.call hb
  clear hb hweq
  replace hL0 := (hL0.new rfl [.int .u64 ((zl h2.num : Nat) : Int), .string (zh h2.num), .bool (zs h2.num), .int .u64 ((lo (fe h2) : Nat) : Int), .string (hs (fe h2))] 34)
  generalize hweq : (x12.alloc (.cells #[.int .u64 ((zl h2.num : Nat) : Int), .string (zh h2.num), .bool (zs h2.num), .int .u64 ((lo (fe h2) : Nat) : Int), .string (hs (fe h2))] 34)) = x13 at hL0
  have hN0 := cells_of _ 0 [] rfl (hL0.get _ _ (List.mem_cons_of_mem _ (List.mem_cons_of_mem _ (List.mem_cons_of_mem _ (List.mem_cons_of_mem _ List.mem_cons_self)))))
  simp only [cellsF, and_true, Nat.zero_add, Nat.reduceAdd] at hN0
  go_wp2_with fail
  clear hN0
  with_reducible refine Calls.mono (B5.out _) ?_
  rintro e x14 ⟨rfl, hb⟩
  replace hL0 := hL0.call hb
  clear hb hweq
  replace hL0 := (hL0.new rfl [.int .u64 ((zl l3.num : Nat) : Int), .string (zh l3.num), .bool (zs l3.num), .int .u64 ((lo (fe l3) : Nat) : Int), .string (hs (fe l3))] 34)
  generalize hweq : (x14.alloc (.cells #[.int .u64 ((zl l3.num : Nat) : Int), .string (zh l3.num), .bool (zs l3.num), .int .u64 ((lo (fe l3) : Nat) : Int), .string (hs (fe l3))] 34)) = x15 at hL0
  have hN0 := cells_of _ 0 [] rfl (hL0.get _ _ (List.mem_cons_of_mem _ (List.mem_cons_of_mem _ (List.mem_cons_of_mem _ (List.mem_cons_of_mem _ (List.mem_cons_of_mem _ List.mem_cons_self))))))
  simp only [cellsF, and_true, Nat.zero_add, Nat.reduceAdd] at hN0
  go_wp2_with fail
  clear hN0
  with_reducible refine Calls.mono (B6.out _) ?_
  rintro e x16 ⟨rfl, hb⟩
  replace hL0 := hL0.call hb
  clear hb hweq
  replace hL0 := (hL0.new rfl [.int .u64 ((zl h3.num : Nat) : Int), .string (zh h3.num), .bool (zs h3.num), .int .u64 ((lo (fe h3) : Nat) : Int), .string (hs (fe h3))] 34)
  generalize hweq : (x16.alloc (.cells #[.int .u64 ((zl h3.num : Nat) : Int), .string (zh h3.num), .bool (zs h3.num), .int .u64 ((lo (fe h3) : Nat) : Int), .string (hs (fe h3))] 34)) = x17 at hL0
  have hN0 := cells_of _ 0 [] rfl (hL0.get _ _ (List.mem_cons_of_mem _ (List.mem_cons_of_mem _ (List.mem_cons_of_mem _ (List.mem_cons_of_mem _ List.mem_cons_self)))))
  simp only [cellsF, and_true, Nat.zero_add, Nat.reduceAdd] at hN0
  have hN1 := cells_of _ 0 [] rfl (hL0.get _ _ (List.mem_cons_of_mem _ (List.mem_cons_of_mem _ (List.mem_cons_of_mem _ (List.mem_cons_of_mem _ (List.mem_cons_of_mem _ List.mem_cons_self))))))
  simp only [cellsF, and_true, Nat.zero_add, Nat.reduceAdd] at hN1
  go_wp2_with fail
  clear hN0 hN1
  with_reducible refine Calls.mono (C1.out _) ?_
  rintro e x18 ⟨rfl, hb⟩
  replace hL0 := hL0.call hb
  clear hb hweq
  have hN0 := cells_of _ 0 [] rfl (hL0.get _ _ (List.mem_cons_of_mem _ (List.mem_cons_of_mem _ List.mem_cons_self)))
  simp only [cellsF, and_true, Nat.zero_add, Nat.reduceAdd] at hN0
  have hN1 := cells_of _ 0 [] rfl (hL0.get _ _ (List.mem_cons_of_mem _ (List.mem_cons_of_mem _ (List.mem_cons_of_mem _ List.mem_cons_self))))
  simp only [cellsF, and_true, Nat.zero_add, Nat.reduceAdd] at hN1
  go_wp2_with fail
  clear hN0 hN1
  with_reducible refine Calls.mono (C2.out _) ?_
  rintro e x19 ⟨rfl, hb⟩
  replace hL0 := hL0.call hb
  clear hb
  have hN0 := cells_of _ 0 [] rfl (hL0.get _ _ (List.mem_cons_of_mem _ List.mem_cons_self))
  simp only [cellsF, and_true, Nat.zero_add, Nat.reduceAdd] at hN0
  have hN1 := cells_of _ 0 [] rfl (hL0.get _ _ (List.mem_cons_of_mem _ (List.mem_cons_of_mem _ (List.mem_cons_of_mem _ (List.mem_cons_of_mem _ (List.mem_cons_of_mem _ List.mem_cons_self))))))
  simp only [cellsF, and_true, Nat.zero_add, Nat.reduceAdd] at hN1
  go_wp2_with fail
  clear hN0 hN1
  with_reducible refine Calls.mono (C3.out _) ?_
  rintro e x20 ⟨rfl, hb⟩
  replace hL0 := hL0.call hb
  clear hb
  have hN0 := cells_of _ 0 [] rfl (hL0.get _ _ List.mem_cons_self)
  simp only [cellsF, and_true, Nat.zero_add, Nat.reduceAdd] at hN0
  have hN1 := cells_of _ 0 [] rfl (hL0.get _ _ (List.mem_cons_of_mem _ (List.mem_cons_of_mem _ (List.mem_cons_of_mem _ List.mem_cons_self))))
  simp only [cellsF, and_true, Nat.zero_add, Nat.reduceAdd] at hN1
  go_wp2_with fail
  clear hN0 hN1
  with_reducible refine Calls.mono (C4.out _) ?_
  rintro e x21 ⟨rfl, hb⟩
  replace hL0 := hL0.call hb
  clear hb
  have hN0 := cells_of _ 0 [] rfl (hL0.get _ _ (List.mem_cons_of_mem _ (List.mem_cons_of_mem _ List.mem_cons_self)))
  simp only [cellsF, and_true, Nat.zero_add, Nat.reduceAdd] at hN0
  have hN1 := cells_of _ 0 [] rfl (hL0.get _ _ (List.mem_cons_of_mem _ (List.mem_cons_of_mem _ (List.mem_cons_of_mem _ (List.mem_cons_of_mem _ List.mem_cons_self)))))
  simp only [cellsF, and_true, Nat.zero_add, Nat.reduceAdd] at hN1
  go_wp2_with fail
  clear hN0 hN1
  with_reducible refine Calls.mono (C5.out _) ?_
  rintro e x22 ⟨rfl, hb⟩
  replace hL0 := hL0.call hb
  clear hb
  go_wp2_with fail
  with_reducible refine Calls.mono (HW.out _ (hKT.out.at hL0.bl kKT)) ?_
  rintro e x23 ⟨rfl, hb⟩
  replace hL0 := hL0.call hb
  clear hb
  go_wp2_with fail
  exact bodyPost_ret (v := .bool true) (by simp [results, Tryz.results11, go_sem]) rfl ⟨rfl, hL0.bl⟩)
set_option maxHeartbeats 4000000 in
set_option maxRecDepth 100000 in
theorem rrise_pos (nx dx ny dy m8 e8 m1 n1 p q r c0 c1 c2 c3 c4 c5 : Int) (u1 v1 a0 b0 l1 l2 h1 h2 l3 h3 f x1 y1 z1 tw : Rat) (G1 : ∀ w, Calls Tryz.prog 16 #[.agg #[.int .i64 nx, .int .u32 dx]] w fun xe w' => xe = .returned (fracV u1) ∧ Below w.heap.size w w') (G2 : ∀ w, Calls Tryz.prog 16 #[.agg #[.int .i64 ny, .int .u32 dy]] w fun xe w' => xe = .returned (fracV v1) ∧ Below w.heap.size w w') (A1 : ∀ w, Calls Tryz.prog 30 #[fracV u1] w fun xe w' => xe = .returned (fracV a0) ∧ Below w.heap.size w w') (A2 : ∀ w, Calls Tryz.prog 30 #[fracV v1] w fun xe w' => xe = .returned (fracV b0) ∧ Below w.heap.size w w') (C0 : ∀ w, Calls Tryz.prog 26 #[fracV a0, fracV b0] w fun xe w' => xe = .returned (.int .i64 c0) ∧ Below w.heap.size w w') (B1 : ∀ w, Calls Tryz.prog 36 #[fracV a0, .int .i64 p] w fun xe w' => xe = .returned (.tuple #[fracV l1, .int .i64 0]) ∧ Below w.heap.size w w') (B2 : ∀ w, Calls Tryz.prog 36 #[fracV a0, .int .i64 q] w fun xe w' => xe = .returned (.tuple #[fracV l2, .int .i64 0]) ∧ Below w.heap.size w w') (B3 : ∀ w, Calls Tryz.prog 37 #[fracV a0, .int .i64 p] w fun xe w' => xe = .returned (.tuple #[fracV h1, .int .i64 0]) ∧ Below w.heap.size w w') (B4 : ∀ w, Calls Tryz.prog 37 #[fracV a0, .int .i64 q] w fun xe w' => xe = .returned (.tuple #[fracV h2, .int .i64 0]) ∧ Below w.heap.size w w') (B5 : ∀ w, Calls Tryz.prog 36 #[fracV b0, .int .i64 p] w fun xe w' => xe = .returned (.tuple #[fracV l3, .int .i64 0]) ∧ Below w.heap.size w w') (B6 : ∀ w, Calls Tryz.prog 37 #[fracV b0, .int .i64 p] w fun xe w' => xe = .returned (.tuple #[fracV h3, .int .i64 0]) ∧ Below w.heap.size w w') (C1 : ∀ w, Calls Tryz.prog 26 #[fracV l1, fracV l2] w fun xe w' => xe = .returned (.int .i64 c1) ∧ Below w.heap.size w w') (C2 : ∀ w, Calls Tryz.prog 26 #[fracV h2, fracV h1] w fun xe w' => xe = .returned (.int .i64 c2) ∧ Below w.heap.size w w') (C3 : ∀ w, Calls Tryz.prog 26 #[fracV l1, fracV l3] w fun xe w' => xe = .returned (.int .i64 c3) ∧ Below w.heap.size w w') (C4 : ∀ w, Calls Tryz.prog 26 #[fracV h1, fracV h3] w fun xe w' => xe = .returned (.int .i64 c4) ∧ Below w.heap.size w w') (C5 : ∀ w, Calls Tryz.prog 26 #[fracV l2, fracV h2] w fun xe w' => xe = .returned (.int .i64 c5) ∧ Below w.heap.size w w') (I4 : ∀ w, Calls Tryz.prog 29 #[.int .i64 4] w fun xe w' => xe = .returned (fracV f) ∧ Below w.heap.size w w') (M1 : ∀ w, Calls Tryz.prog 28 #[fracV f, fracV a0] w fun xe w' => xe = .returned (fracV x1) ∧ Below w.heap.size w w') (B7 : ∀ w, Calls Tryz.prog 36 #[fracV x1, .int .i64 r] w fun xe w' => xe = .returned (.tuple #[fracV y1, .int .i64 0]) ∧ Below w.heap.size w w') (B8 : ∀ w, Calls Tryz.prog 37 #[fracV x1, .int .i64 r] w fun xe w' => xe = .returned (.tuple #[fracV z1, .int .i64 0]) ∧ Below w.heap.size w w') (I2 : ∀ w, Calls Tryz.prog 29 #[.int .i64 2] w fun xe w' => xe = .returned (fracV tw) ∧ Below w.heap.size w w') (M2 : ∀ w, Calls Tryz.prog 28 #[fracV tw, fracV l2] w fun xe w' => xe = .returned (fracV y1) ∧ Below w.heap.size w w') (M3 : ∀ w, Calls Tryz.prog 28 #[fracV tw, fracV h2] w fun xe w' => xe = .returned (fracV z1) ∧ Below w.heap.size w w') (KT : World → Prop) (hKT : Keeps KT) (HW : ∀ w, KT w → Calls Tryz.prog 35 #[] w fun xe w' => xe = .returned (.bool true) ∧ Below w.heap.size w w') (w1 : IntKind.i64.wrap m8 = m8) (w2 : IntKind.i64.wrap e8 = e8) (e1 : m8.tmod 101 = m1) (e2 : e8.tmod 101 = n1) (s0 : decide (0 < c0) = false) (s1 : decide (0 < c1) = false) (s2 : decide (0 < c2) = false) (s3 : decide (0 < c3) = false) (s4 : decide (0 < c4) = false) (s5 : decide (0 < c5) = false) (hpq : (decide (n1 < m1) = true ∧ m1 = q ∧ n1 = p) ∨ (decide (n1 < m1) = false ∧ m1 = p ∧ n1 = q)) (g1 : (q == 0) = false) (g2 : q - 1 = r) (g3 : IntKind.i64.wrap r = r) (w : World) (kKT : KT w) :
  Calls Tryz.prog 11 #[.agg #[.int .i64 nx, .int .u32 dx], .agg #[.int .i64 ny, .int .u32 dy], .int .u8 m8, .int .u8 e8] w fun xe w' => xe = .returned (.bool true) ∧ Below w.heap.size w w' := by
 have hL0 : GL w w [] := GL.start w
 replace G1 := Lib.hid G1
 replace G2 := Lib.hid G2
 replace A1 := Lib.hid A1
 replace A2 := Lib.hid A2
 replace C0 := Lib.hid C0
 replace B1 := Lib.hid B1
 replace B2 := Lib.hid B2
 replace B3 := Lib.hid B3
 replace B4 := Lib.hid B4
 replace B5 := Lib.hid B5
 replace B6 := Lib.hid B6
 replace C1 := Lib.hid C1
 replace C2 := Lib.hid C2
 replace C3 := Lib.hid C3
 replace C4 := Lib.hid C4
 replace C5 := Lib.hid C5
 replace I4 := Lib.hid I4
 replace M1 := Lib.hid M1
 replace B7 := Lib.hid B7
 replace B8 := Lib.hid B8
 replace I2 := Lib.hid I2
 replace M2 := Lib.hid M2
 replace M3 := Lib.hid M3
 replace hKT := Lib.hid hKT
 replace HW := Lib.hid HW
 have hz := hpq
 clear hpq
 rcases hz with ⟨e0, rfl, rfl⟩ | ⟨e0, rfl, rfl⟩
 all_goals (
  replace hL0 := ((hL0.new rfl [.int .i64 nx, .int .u32 dx] 24).new (K := w.heap.size + 1) (szA _ _) [.int .i64 ny, .int .u32 dy] 24)
  generalize hweq : ((w.alloc (.cells #[.int .i64 nx, .int .u32 dx] 24)).alloc (.cells #[.int .i64 ny, .int .u32 dy] 24)) = x1 at hL0
  go_enter Tryz.func11, Tryz.ntmps11
  go_upto_region 4 with fail
  clear hweq
  refine region_gh (by kernel_rfl) (by kernel_rfl) ?_
  refine lex_seg (gl := []) 6 (by kernel_rfl) ?_
  intro α iα F hF1 hF2
  have hq := GL.seg hF1 hL0
  simp only [fcC, cellsC, and_true, Nat.zero_add, Nat.reduceAdd] at hq
  simp only [List.take_succ_cons, List.take_zero, List.drop_succ_cons, List.drop_zero, List.take_nil, List.drop_nil]
  repeat (go_big_quiet_step (first | fail | (go_at_call 16; with_reducible exact seg_call hF2 G1.out _) | (go_at_call 30; with_reducible exact seg_call hF2 A1.out _) | (go_at_call 16; with_reducible exact seg_call hF2 G2.out _) | (go_at_call 30; with_reducible exact seg_call hF2 A2.out _)))
  refine wpQuiet_nil ?_
  clear hq hF1 hF2 iα F α
  refine lex_new [.int .u64 0, .string ⟨#[]⟩, .bool false, .int .u64 0, .string ⟨#[]⟩] 11 34 34 rfl rfl (of_decide_eq_true (by kernel_rfl)) (by kernel_rfl) rfl new_frac ?_
  simp only [Act.put, List.setIfInBounds_toArray, List.set_cons_succ, List.set_cons_zero]
  refine lex_new [.int .u64 0, .string ⟨#[]⟩, .bool false, .int .u64 0, .string ⟨#[]⟩] 12 34 34 rfl rfl (of_decide_eq_true (by kernel_rfl)) (by kernel_rfl) rfl new_frac ?_
  simp only [Act.put, List.setIfInBounds_toArray, List.set_cons_succ, List.set_cons_zero]
  refine lex_put [.int .u64 ((zl a0.num : Nat) : Int), .string (zh a0.num), .bool (zs a0.num), .int .u64 ((lo (fe a0) : Nat) : Int), .string (hs (fe a0))] [.int .u64 0, .string ⟨#[]⟩, .bool false, .int .u64 0, .string ⟨#[]⟩] 11 34 (.tmp 42) rfl (by kernel_rfl) (by simp [toG, upd]) rfl (fun w k h => put_frac _ _ _ _ _ _ _ _ _ _ w k h) ?_
  simp only [Act.put]
  refine lex_put [.int .u64 ((zl b0.num : Nat) : Int), .string (zh b0.num), .bool (zs b0.num), .int .u64 ((lo (fe b0) : Nat) : Int), .string (hs (fe b0))] [.int .u64 0, .string ⟨#[]⟩, .bool false, .int .u64 0, .string ⟨#[]⟩] 12 34 (.tmp 45) rfl (by kernel_rfl) (by simp [toG, upd]) rfl (fun w k h => put_frac _ _ _ _ _ _ _ _ _ _ w k h) ?_
  simp only [Act.put]
  refine lexG_nil ?_
  intro κ x2 hS
  replace hL0 := hL0.ghs hS [(12, [.int .u64 ((zl b0.num : Nat) : Int), .string (zh b0.num), .bool (zs b0.num), .int .u64 ((lo (fe b0) : Nat) : Int), .string (hs (fe b0))]), (11, [.int .u64 ((zl a0.num : Nat) : Int), .string (zh a0.num), .bool (zs a0.num), .int .u64 ((lo (fe a0) : Nat) : Int), .string (hs (fe a0))])] (by simp) (by intro p hp; simp only [List.mem_cons, List.not_mem_nil, or_false] at hp; rcases hp with rfl | rfl <;> exact ⟨_, by simp only [toG, upd]; rfl⟩)
  simp only [List.map_cons, List.map_nil, List.cons_append, List.nil_append] at hL0
  simp only [over_toG, over_nil, Act.put, List.setIfInBounds_toArray, List.set_cons_succ, List.set_cons_zero]
  clear hS
  generalize κ 12 = k2_12 at *
  generalize κ 11 = k2_11 at *
  have hN0 := cells_of _ 0 [] rfl (hL0.get _ _ List.mem_cons_self)
  simp only [cellsF, and_true, Nat.zero_add, Nat.reduceAdd] at hN0
  have hN1 := cells_of _ 0 [] rfl (hL0.get _ _ (List.mem_cons_of_mem _ List.mem_cons_self))
  simp only [cellsF, and_true, Nat.zero_add, Nat.reduceAdd] at hN1
  go_wp2_with fail
  clear hN0 hN1
  with_reducible refine Calls.mono (C0.out _) ?_
  rintro e x3 ⟨rfl, hb⟩
  replace hL0 := hL0.call hb
  clear hb
  have hN0 := cells_of _ 0 [] rfl (hL0.get _ _ (List.mem_cons_of_mem _ List.mem_cons_self))
  simp only [cellsF, and_true, Nat.zero_add, Nat.reduceAdd] at hN0
  go_wp2_with fail
  clear hN0
  with_reducible refine Calls.mono (B1.out _) ?_
  rintro e x4 ⟨rfl, hb⟩
  replace hL0 := hL0.call hb
  clear hb
  replace hL0 := (hL0.new rfl [.int .u64 ((zl l1.num : Nat) : Int), .string (zh l1.num), .bool (zs l1.num), .int .u64 ((lo (fe l1) : Nat) : Int), .string (hs (fe l1))] 34)
  generalize hweq : (x4.alloc (.cells #[.int .u64 ((zl l1.num : Nat) : Int), .string (zh l1.num), .bool (zs l1.num), .int .u64 ((lo (fe l1) : Nat) : Int), .string (hs (fe l1))] 34)) = x5 at hL0
  have hN0 := cells_of _ 0 [] rfl (hL0.get _ _ (List.mem_cons_of_mem _ (List.mem_cons_of_mem _ List.mem_cons_self)))
  simp only [cellsF, and_true, Nat.zero_add, Nat.reduceAdd] at hN0
  go_wp2_with fail
  clear hN0
  with_reducible refine Calls.mono (B2.out _) ?_
  rintro e x6 ⟨rfl, hb⟩
  replace hL0 := hL0.call hb
  clear hb hweq
  replace hL0 := (hL0.new rfl [.int .u64 ((zl l2.num : Nat) : Int), .string (zh l2.num), .bool (zs l2.num), .int .u64 ((lo (fe l2) : Nat) : Int), .string (hs (fe l2))] 34)
  generalize hweq : (x6.alloc (.cells #[.int .u64 ((zl l2.num : Nat) : Int), .string (zh l2.num), .bool (zs l2.num), .int .u64 ((lo (fe l2) : Nat) : Int), .string (hs (fe l2))] 34)) = x7 at hL0
  have hN0 := cells_of _ 0 [] rfl (hL0.get _ _ (List.mem_cons_of_mem _ (List.mem_cons_of_mem _ (List.mem_cons_of_mem _ List.mem_cons_self))))
  simp only [cellsF, and_true, Nat.zero_add, Nat.reduceAdd] at hN0
  go_wp2_with fail
  clear hN0
  with_reducible refine Calls.mono (B3.out _) ?_
  rintro e x8 ⟨rfl, hb⟩
  replace hL0 := hL0.call hb
  clear hb hweq
  replace hL0 := (hL0.new rfl [.int .u64 ((zl h1.num : Nat) : Int), .string (zh h1.num), .bool (zs h1.num), .int .u64 ((lo (fe h1) : Nat) : Int), .string (hs (fe h1))] 34)
  generalize hweq : (x8.alloc (.cells #[.int .u64 ((zl h1.num : Nat) : Int), .string (zh h1.num), .bool (zs h1.num), .int .u64 ((lo (fe h1) : Nat) : Int), .string (hs (fe h1))] 34)) = x9 at hL0
  have hN0 := cells_of _ 0 [] rfl (hL0.get _ _ (List.mem_cons_of_mem _ (List.mem_cons_of_mem _ (List.mem_cons_of_mem _ (List.mem_cons_of_mem _ List.mem_cons_self)))))
  simp only [cellsF, and_true, Nat.zero_add, Nat.reduceAdd] at hN0
  go_wp2_with fail
  clear hN0
  with_reducible refine Calls.mono (B4.out _) ?_
  rintro e x10 ⟨rfl, hb⟩
  replace hL0 := hL0.call hb
  clear hb hweq
  replace hL0 := (hL0.new rfl [.int .u64 ((zl h2.num : Nat) : Int), .string (zh h2.num), .bool (zs h2.num), .int .u64 ((lo (fe h2) : Nat) : Int), .string (hs (fe h2))] 34)
  generalize hweq : (x10.alloc (.cells #[.int .u64 ((zl h2.num : Nat) : Int), .string (zh h2.num), .bool (zs h2.num), .int .u64 ((lo (fe h2) : Nat) : Int), .string (hs (fe h2))] 34)) = x11 at hL0
  have hN0 := cells_of _ 0 [] rfl (hL0.get _ _ (List.mem_cons_of_mem _ (List.mem_cons_of_mem _ (List.mem_cons_of_mem _ (List.mem_cons_of_mem _ List.mem_cons_self)))))
  simp only [cellsF, and_true, Nat.zero_add, Nat.reduceAdd] at hN0
  go_wp2_with fail
  clear hN0
  with_reducible refine Calls.mono (B5.out _) ?_
  rintro e x12 ⟨rfl, hb⟩
  replace hL0 := hL0.call hb
  clear hb hweq
  replace hL0 := (hL0.new rfl [.int .u64 ((zl l3.num : Nat) : Int), .string (zh l3.num), .bool (zs l3.num), .int .u64 ((lo (fe l3) : Nat) : Int), .string (hs (fe l3))] 34)
  generalize hweq : (x12.alloc (.cells #[.int .u64 ((zl l3.num : Nat) : Int), .string (zh l3.num), .bool (zs l3.num), .int .u64 ((lo (fe l3) : Nat) : Int), .string (hs (fe l3))] 34)) = x13 at hL0
  have hN0 := cells_of _ 0 [] rfl (hL0.get _ _ (List.mem_cons_of_mem _ (List.mem_cons_of_mem _ (List.mem_cons_of_mem _ (List.mem_cons_of_mem _ (List.mem_cons_of_mem _ List.mem_cons_self))))))
  simp only [cellsF, and_true, Nat.zero_add, Nat.reduceAdd] at hN0
  go_wp2_with fail
  clear hN0
  with_reducible refine Calls.mono (B6.out _) ?_
  rintro e x14 ⟨rfl, hb⟩
  replace hL0 := hL0.call hb
  clear hb hweq
  replace hL0 := (hL0.new rfl [.int .u64 ((zl h3.num : Nat) : Int), .string (zh h3.num), .bool (zs h3.num), .int .u64 ((lo (fe h3) : Nat) : Int), .string (hs (fe h3))] 34)
  generalize hweq : (x14.alloc (.cells #[.int .u64 ((zl h3.num : Nat) : Int), .string (zh h3.num), .bool (zs h3.num), .int .u64 ((lo (fe h3) : Nat) : Int), .string (hs (fe h3))] 34)) = x15 at hL0
  have hN0 := cells_of _ 0 [] rfl (hL0.get _ _ (List.mem_cons_of_mem _ (List.mem_cons_of_mem _ (List.mem_cons_of_mem _ (List.mem_cons_of_mem _ List.mem_cons_self)))))
  simp only [cellsF, and_true, Nat.zero_add, Nat.reduceAdd] at hN0
  have hN1 := cells_of _ 0 [] rfl (hL0.get _ _ (List.mem_cons_of_mem _ (List.mem_cons_of_mem _ (List.mem_cons_of_mem _ (List.mem_cons_of_mem _ (List.mem_cons_of_mem _ List.mem_cons_self))))))
  simp only [cellsF, and_true, Nat.zero_add, Nat.reduceAdd] at hN1
  go_wp2_with fail
  clear hN0 hN1
  with_reducible refine Calls.mono (C1.out _) ?_
  rintro e x16 ⟨rfl, hb⟩
  replace hL0 := hL0.call hb
  clear hb hweq
  have hN0 := cells_of _ 0 [] rfl (hL0.get _ _ (List.mem_cons_of_mem _ (List.mem_cons_of_mem _ List.mem_cons_self)))
  simp only [cellsF, and_true, Nat.zero_add, Nat.reduceAdd] at hN0
  have hN1 := cells_of _ 0 [] rfl (hL0.get _ _ (List.mem_cons_of_mem _ (List.mem_cons_of_mem _ (List.mem_cons_of_mem _ List.mem_cons_self))))
  simp only [cellsF, and_true, Nat.zero_add, Nat.reduceAdd] at hN1
  go_wp2_with fail
  clear hN0 hN1
  with_reducible refine Calls.mono (C2.out _) ?_
  rintro e x17 ⟨rfl, hb⟩
  replace hL0 := hL0.call hb
  clear hb
  have hN0 := cells_of _ 0 [] rfl (hL0.get _ _ (List.mem_cons_of_mem _ List.mem_cons_self))
  simp only [cellsF, and_true, Nat.zero_add, Nat.reduceAdd] at hN0
  have hN1 := cells_of _ 0 [] rfl (hL0.get _ _ (List.mem_cons_of_mem _ (List.mem_cons_of_mem _ (List.mem_cons_of_mem _ (List.mem_cons_of_mem _ (List.mem_cons_of_mem _ List.mem_cons_self))))))
  simp only [cellsF, and_true, Nat.zero_add, Nat.reduceAdd] at hN1
  go_wp2_with fail
  clear hN0 hN1
  with_reducible refine Calls.mono (C3.out _) ?_
  rintro e x18 ⟨rfl, hb⟩
  replace hL0 := hL0.call hb
  clear hb
  have hN0 := cells_of _ 0 [] rfl (hL0.get _ _ List.mem_cons_self)
  simp only [cellsF, and_true, Nat.zero_add, Nat.reduceAdd] at hN0
  have hN1 := cells_of _ 0 [] rfl (hL0.get _ _ (List.mem_cons_of_mem _ (List.mem_cons_of_mem _ (List.mem_cons_of_mem _ List.mem_cons_self))))
  simp only [cellsF, and_true, Nat.zero_add, Nat.reduceAdd] at hN1
  go_wp2_with fail
  clear hN0 hN1
  with_reducible refine Calls.mono (C4.out _) ?_
  rintro e x19 ⟨rfl, hb⟩
  replace hL0 := hL0.call hb
  clear hb
  have hN0 := cells_of _ 0 [] rfl (hL0.get _ _ (List.mem_cons_of_mem _ (List.mem_cons_of_mem _ List.mem_cons_self)))
  simp only [cellsF, and_true, Nat.zero_add, Nat.reduceAdd] at hN0
  have hN1 := cells_of _ 0 [] rfl (hL0.get _ _ (List.mem_cons_of_mem _ (List.mem_cons_of_mem _ (List.mem_cons_of_mem _ (List.mem_cons_of_mem _ List.mem_cons_self)))))
  simp only [cellsF, and_true, Nat.zero_add, Nat.reduceAdd] at hN1
  go_wp2_with fail
  clear hN0 hN1
  with_reducible refine Calls.mono (C5.out _) ?_
  rintro e x20 ⟨rfl, hb⟩
  replace hL0 := hL0.call hb
  clear hb
  go_upto_region 17 with fail
  refine region_gh (by kernel_rfl) (by kernel_rfl) ?_
  refine lex_seg (gl := []) 9 (by kernel_rfl) ?_
  intro α iα F hF1 hF2
  have hq := GL.seg hF1 hL0
  simp only [fcC, cellsC, and_true, Nat.zero_add, Nat.reduceAdd] at hq
  simp only [List.take_succ_cons, List.take_zero, List.drop_succ_cons, List.drop_zero, List.take_nil, List.drop_nil]
  repeat (go_big_quiet_step (first | fail | (go_at_call 29; with_reducible exact seg_call hF2 I4.out _) | (go_at_call 28; with_reducible exact seg_call hF2 M1.out _) | (go_at_call 36; with_reducible exact seg_call hF2 B7.out _)))
  refine wpQuiet_nil ?_
  clear hq hF1 hF2 iα F α
  refine lex_new [.int .u64 0, .string ⟨#[]⟩, .bool false, .int .u64 0, .string ⟨#[]⟩] 25 34 34 rfl rfl (of_decide_eq_true (by kernel_rfl)) (by kernel_rfl) rfl new_frac ?_
  simp only [Act.put, List.setIfInBounds_toArray, List.set_cons_succ, List.set_cons_zero]
  refine lex_put [.int .u64 ((zl y1.num : Nat) : Int), .string (zh y1.num), .bool (zs y1.num), .int .u64 ((lo (fe y1) : Nat) : Int), .string (hs (fe y1))] [.int .u64 0, .string ⟨#[]⟩, .bool false, .int .u64 0, .string ⟨#[]⟩] 25 34 (.tmp 126) rfl (by kernel_rfl) (by simp [toG, upd]) rfl (fun w k h => put_frac _ _ _ _ _ _ _ _ _ _ w k h) ?_
  simp only [Act.put]
  refine lex_seg (gl := [(25, [.int .u64 ((zl y1.num : Nat) : Int), .string (zh y1.num), .bool (zs y1.num), .int .u64 ((lo (fe y1) : Nat) : Int), .string (hs (fe y1))], true), (25, [.int .u64 0, .string ⟨#[]⟩, .bool false, .int .u64 0, .string ⟨#[]⟩], false)]) 1 (by kernel_rfl) ?_
  intro α iα F hF1 hF2
  have hq := GL.seg hF1 hL0
  simp only [fcC, cellsC, and_true, Nat.zero_add, Nat.reduceAdd] at hq
  simp only [List.take_succ_cons, List.take_zero, List.drop_succ_cons, List.drop_zero, List.take_nil, List.drop_nil]
  repeat (go_big_quiet_step (first | fail | (go_at_call 29; with_reducible exact seg_call hF2 I4.out _) | (go_at_call 28; with_reducible exact seg_call hF2 M1.out _) | (go_at_call 36; with_reducible exact seg_call hF2 B7.out _)))
  refine wpQuiet_nil ?_
  clear hq hF1 hF2 iα F α
  refine lexG_nil ?_
  intro κ x21 hS
  replace hL0 := hL0.ghs hS [(25, [.int .u64 ((zl y1.num : Nat) : Int), .string (zh y1.num), .bool (zs y1.num), .int .u64 ((lo (fe y1) : Nat) : Int), .string (hs (fe y1))])] (by simp) (by intro p hp; simp only [List.mem_cons, List.not_mem_nil, or_false] at hp; rcases hp with rfl <;> exact ⟨_, by simp only [toG, upd]; rfl⟩)
  simp only [List.map_cons, List.map_nil, List.cons_append, List.nil_append] at hL0
  simp only [over_toG, over_nil, Act.put, List.setIfInBounds_toArray, List.set_cons_succ, List.set_cons_zero]
  clear hS
  generalize κ 25 = k21_25 at *
  go_upto_region 18 with fail
  refine region_gh (by kernel_rfl) (by kernel_rfl) ?_
  refine lex_seg (gl := []) 9 (by kernel_rfl) ?_
  intro α iα F hF1 hF2
  have hq := GL.seg hF1 hL0
  simp only [fcC, cellsC, and_true, Nat.zero_add, Nat.reduceAdd] at hq
  simp only [List.take_succ_cons, List.take_zero, List.drop_succ_cons, List.drop_zero, List.take_nil, List.drop_nil]
  repeat (go_big_quiet_step (first | fail | (go_at_call 29; with_reducible exact seg_call hF2 I4.out _) | (go_at_call 28; with_reducible exact seg_call hF2 M1.out _) | (go_at_call 37; with_reducible exact seg_call hF2 B8.out _)))
  refine wpQuiet_nil ?_
  clear hq hF1 hF2 iα F α
  refine lex_new [.int .u64 0, .string ⟨#[]⟩, .bool false, .int .u64 0, .string ⟨#[]⟩] 27 34 34 rfl rfl (of_decide_eq_true (by kernel_rfl)) (by kernel_rfl) rfl new_frac ?_
  simp only [Act.put, List.setIfInBounds_toArray, List.set_cons_succ, List.set_cons_zero]
  refine lex_put [.int .u64 ((zl z1.num : Nat) : Int), .string (zh z1.num), .bool (zs z1.num), .int .u64 ((lo (fe z1) : Nat) : Int), .string (hs (fe z1))] [.int .u64 0, .string ⟨#[]⟩, .bool false, .int .u64 0, .string ⟨#[]⟩] 27 34 (.tmp 135) rfl (by kernel_rfl) (by simp [toG, upd]) rfl (fun w k h => put_frac _ _ _ _ _ _ _ _ _ _ w k h) ?_
  simp only [Act.put]
  refine lex_seg (gl := [(27, [.int .u64 ((zl z1.num : Nat) : Int), .string (zh z1.num), .bool (zs z1.num), .int .u64 ((lo (fe z1) : Nat) : Int), .string (hs (fe z1))], true), (27, [.int .u64 0, .string ⟨#[]⟩, .bool false, .int .u64 0, .string ⟨#[]⟩], false)]) 1 (by kernel_rfl) ?_
  intro α iα F hF1 hF2
  have hq := GL.seg hF1 hL0
  simp only [fcC, cellsC, and_true, Nat.zero_add, Nat.reduceAdd] at hq
  simp only [List.take_succ_cons, List.take_zero, List.drop_succ_cons, List.drop_zero, List.take_nil, List.drop_nil]
  repeat (go_big_quiet_step (first | fail | (go_at_call 29; with_reducible exact seg_call hF2 I4.out _) | (go_at_call 28; with_reducible exact seg_call hF2 M1.out _) | (go_at_call 37; with_reducible exact seg_call hF2 B8.out _)))
  refine wpQuiet_nil ?_
  clear hq hF1 hF2 iα F α
  refine lexG_nil ?_
  intro κ x22 hS
  replace hL0 := hL0.ghs hS [(27, [.int .u64 ((zl z1.num : Nat) : Int), .string (zh z1.num), .bool (zs z1.num), .int .u64 ((lo (fe z1) : Nat) : Int), .string (hs (fe z1))])] (by simp) (by intro p hp; simp only [List.mem_cons, List.not_mem_nil, or_false] at hp; rcases hp with rfl <;> exact ⟨_, by simp only [toG, upd]; rfl⟩)
  simp only [List.map_cons, List.map_nil, List.cons_append, List.nil_append] at hL0
  simp only [over_toG, over_nil, Act.put, List.setIfInBounds_toArray, List.set_cons_succ, List.set_cons_zero]
  clear hS
  generalize κ 27 = k22_27 at *
  go_upto_region 19 with fail
  have kKT1 := hKT.out.at hL0.bl kKT
  obtain ⟨α, iα, F, hF1, hF2⟩ := cls x22
  have hq0 := cls_box hF1 hL0 _ _ List.mem_cons_self
  simp only [cellsC, and_true, Nat.zero_add, Nat.reduceAdd] at hq0
  have hq1 := cls_box hF1 hL0 _ _ (List.mem_cons_of_mem _ List.mem_cons_self)
  simp only [cellsC, and_true, Nat.zero_add, Nat.reduceAdd] at hq1
  have hq2 := cls_box hF1 hL0 _ _ (List.mem_cons_of_mem _ (List.mem_cons_of_mem _ (List.mem_cons_of_mem _ (List.mem_cons_of_mem _ List.mem_cons_self))))
  simp only [cellsC, and_true, Nat.zero_add, Nat.reduceAdd] at hq2
  have hq3 := cls_box hF1 hL0 _ _ (List.mem_cons_of_mem _ (List.mem_cons_of_mem _ (List.mem_cons_of_mem _ (List.mem_cons_of_mem _ (List.mem_cons_of_mem _ (List.mem_cons_of_mem _ List.mem_cons_self))))))
  simp only [cellsC, and_true, Nat.zero_add, Nat.reduceAdd] at hq3
  refine region_qs 24 (C := fun w' => ∃ x, w' = F x) (by kernel_rfl) (by kernel_rfl) (cls_drew hF2) ?_
  simp only [List.take_succ_cons, List.take_zero, List.drop_succ_cons, List.drop_zero, List.take_nil, List.drop_nil]
  repeat (go_big_quiet_step (first | fail | (go_at_call 29; with_reducible exact cls_call hF1 hF2 I2.out _) | (go_at_call 28; with_reducible exact cls_call hF1 hF2 M2.out _) | (go_at_call 28; with_reducible exact cls_call hF1 hF2 M3.out _) | (go_at_call 35; with_reducible exact cls_callK hKT.out hF1 hF2 kKT1 HW.out _)))
  refine wpQuiet_nil ?_
  rintro wq ⟨xq, rfl⟩
  replace hL0 := hL0.call (hF1 xq)
  clear  hq0 hq1 hq2 hq3 hF2
  generalize F xq = x23 at hL0 ⊢
  clear hF1 xq iα F α
  clear kKT1
  go_wp2_with fail
  exact bodyPost_ret (v := .bool true) (by simp [results, Tryz.results11, go_sem]) rfl ⟨rfl, hL0.bl⟩)
set_option maxHeartbeats 4000000 in
set_option maxRecDepth 100000 in
theorem rrise_pos_s (nx dx ny dy m8 e8 m1 n1 p q r c0 c1 c2 c3 c4 c5 : Int) (u1 v1 a0 b0 l1 l2 h1 h2 l3 h3 f x1 y1 z1 tw : Rat) (G1 : ∀ w, Calls Tryz.prog 16 #[.agg #[.int .i64 nx, .int .u32 dx]] w fun xe w' => xe = .returned (fracV u1) ∧ Below w.heap.size w w') (G2 : ∀ w, Calls Tryz.prog 16 #[.agg #[.int .i64 ny, .int .u32 dy]] w fun xe w' => xe = .returned (fracV v1) ∧ Below w.heap.size w w') (A1 : ∀ w, Calls Tryz.prog 30 #[fracV u1] w fun xe w' => xe = .returned (fracV a0) ∧ Below w.heap.size w w') (A2 : ∀ w, Calls Tryz.prog 30 #[fracV v1] w fun xe w' => xe = .returned (fracV b0) ∧ Below w.heap.size w w') (C0 : ∀ w, Calls Tryz.prog 26 #[fracV a0, fracV b0] w fun xe w' => xe = .returned (.int .i64 c0) ∧ Below w.heap.size w w') (B1 : ∀ w, Calls Tryz.prog 36 #[fracV b0, .int .i64 p] w fun xe w' => xe = .returned (.tuple #[fracV l1, .int .i64 0]) ∧ Below w.heap.size w w') (B2 : ∀ w, Calls Tryz.prog 36 #[fracV b0, .int .i64 q] w fun xe w' => xe = .returned (.tuple #[fracV l2, .int .i64 0]) ∧ Below w.heap.size w w') (B3 : ∀ w, Calls Tryz.prog 37 #[fracV b0, .int .i64 p] w fun xe w' => xe = .returned (.tuple #[fracV h1, .int .i64 0]) ∧ Below w.heap.size w w') (B4 : ∀ w, Calls Tryz.prog 37 #[fracV b0, .int .i64 q] w fun xe w' => xe = .returned (.tuple #[fracV h2, .int .i64 0]) ∧ Below w.heap.size w w') (B5 : ∀ w, Calls Tryz.prog 36 #[fracV a0, .int .i64 p] w fun xe w' => xe = .returned (.tuple #[fracV l3, .int .i64 0]) ∧ Below w.heap.size w w') (B6 : ∀ w, Calls Tryz.prog 37 #[fracV a0, .int .i64 p] w fun xe w' => xe = .returned (.tuple #[fracV h3, .int .i64 0]) ∧ Below w.heap.size w w') (C1 : ∀ w, Calls Tryz.prog 26 #[fracV l1, fracV l2] w fun xe w' => xe = .returned (.int .i64 c1) ∧ Below w.heap.size w w') (C2 : ∀ w, Calls Tryz.prog 26 #[fracV h2, fracV h1] w fun xe w' => xe = .returned (.int .i64 c2) ∧ Below w.heap.size w w') (C3 : ∀ w, Calls Tryz.prog 26 #[fracV l1, fracV l3] w fun xe w' => xe = .returned (.int .i64 c3) ∧ Below w.heap.size w w') (C4 : ∀ w, Calls Tryz.prog 26 #[fracV h1, fracV h3] w fun xe w' => xe = .returned (.int .i64 c4) ∧ Below w.heap.size w w') (C5 : ∀ w, Calls Tryz.prog 26 #[fracV l2, fracV h2] w fun xe w' => xe = .returned (.int .i64 c5) ∧ Below w.heap.size w w') (I4 : ∀ w, Calls Tryz.prog 29 #[.int .i64 4] w fun xe w' => xe = .returned (fracV f) ∧ Below w.heap.size w w') (M1 : ∀ w, Calls Tryz.prog 28 #[fracV f, fracV b0] w fun xe w' => xe = .returned (fracV x1) ∧ Below w.heap.size w w') (B7 : ∀ w, Calls Tryz.prog 36 #[fracV x1, .int .i64 r] w fun xe w' => xe = .returned (.tuple #[fracV y1, .int .i64 0]) ∧ Below w.heap.size w w') (B8 : ∀ w, Calls Tryz.prog 37 #[fracV x1, .int .i64 r] w fun xe w' => xe = .returned (.tuple #[fracV z1, .int .i64 0]) ∧ Below w.heap.size w w') (I2 : ∀ w, Calls Tryz.prog 29 #[.int .i64 2] w fun xe w' => xe = .returned (fracV tw) ∧ Below w.heap.size w w') (M2 : ∀ w, Calls Tryz.prog 28 #[fracV tw, fracV l2] w fun xe w' => xe = .returned (fracV y1) ∧ Below w.heap.size w w') (M3 : ∀ w, Calls Tryz.prog 28 #[fracV tw, fracV h2] w fun xe w' => xe = .returned (fracV z1) ∧ Below w.heap.size w w') (KT : World → Prop) (hKT : Keeps KT) (HW : ∀ w, KT w → Calls Tryz.prog 35 #[] w fun xe w' => xe = .returned (.bool true) ∧ Below w.heap.size w w') (w1 : IntKind.i64.wrap m8 = m8) (w2 : IntKind.i64.wrap e8 = e8) (e1 : m8.tmod 101 = m1) (e2 : e8.tmod 101 = n1) (s0 : decide (0 < c0) = true) (s1 : decide (0 < c1) = false) (s2 : decide (0 < c2) = false) (s3 : decide (0 < c3) = false) (s4 : decide (0 < c4) = false) (s5 : decide (0 < c5) = false) (hpq : (decide (n1 < m1) = true ∧ m1 = q ∧ n1 = p) ∨ (decide (n1 < m1) = false ∧ m1 = p ∧ n1 = q)) (g1 : (q == 0) = false) (g2 : q - 1 = r) (g3 : IntKind.i64.wrap r = r) (w : World) (kKT : KT w) :
  Calls Tryz.prog 11 #[.agg #[.int .i64 nx, .int .u32 dx], .agg #[.int .i64 ny, .int .u32 dy], .int .u8 m8, .int .u8 e8] w fun xe w' => xe = .returned (.bool true) ∧ Below w.heap.size w w' := by
 have hL0 : GL w w [] := GL.start w
 replace G1 := Lib.hid G1
 replace G2 := Lib.hid G2
 replace A1 := Lib.hid A1
 replace A2 := Lib.hid A2
 replace C0 := Lib.hid C0
 replace B1 := Lib.hid B1
 replace B2 := Lib.hid B2
 replace B3 := Lib.hid B3
 replace B4 := Lib.hid B4
 replace B5 := Lib.hid B5
 replace B6 := Lib.hid B6
 replace C1 := Lib.hid C1
 replace C2 := Lib.hid C2
 replace C3 := Lib.hid C3
 replace C4 := Lib.hid C4
 replace C5 := Lib.hid C5
 replace I4 := Lib.hid I4
 replace M1 := Lib.hid M1
 replace B7 := Lib.hid B7
 replace B8 := Lib.hid B8
 replace I2 := Lib.hid I2
 replace M2 := Lib.hid M2
 replace M3 := Lib.hid M3
 replace hKT := Lib.hid hKT
 replace HW := Lib.hid HW
 have hz := hpq
 clear hpq
 rcases hz with ⟨e0, rfl, rfl⟩ | ⟨e0, rfl, rfl⟩
 all_goals (
  replace hL0 := ((hL0.new rfl [.int .i64 nx, .int .u32 dx] 24).new (K := w.heap.size + 1) (szA _ _) [.int .i64 ny, .int .u32 dy] 24)
  generalize hweq : ((w.alloc (.cells #[.int .i64 nx, .int .u32 dx] 24)).alloc (.cells #[.int .i64 ny, .int .u32 dy] 24)) = x1 at hL0
  go_enter Tryz.func11, Tryz.ntmps11
  go_upto_region 4 with fail
  clear hweq
  refine region_gh (by kernel_rfl) (by kernel_rfl) ?_
  refine lex_seg (gl := []) 6 (by kernel_rfl) ?_
  intro α iα F hF1 hF2
  have hq := GL.seg hF1 hL0
  simp only [fcC, cellsC, and_true, Nat.zero_add, Nat.reduceAdd] at hq
  simp only [List.take_succ_cons, List.take_zero, List.drop_succ_cons, List.drop_zero, List.take_nil, List.drop_nil]
  repeat (go_big_quiet_step (first | fail | (go_at_call 16; with_reducible exact seg_call hF2 G1.out _) | (go_at_call 30; with_reducible exact seg_call hF2 A1.out _) | (go_at_call 16; with_reducible exact seg_call hF2 G2.out _) | (go_at_call 30; with_reducible exact seg_call hF2 A2.out _)))
  refine wpQuiet_nil ?_
  clear hq hF1 hF2 iα F α
  refine lex_new [.int .u64 0, .string ⟨#[]⟩, .bool false, .int .u64 0, .string ⟨#[]⟩] 11 34 34 rfl rfl (of_decide_eq_true (by kernel_rfl)) (by kernel_rfl) rfl new_frac ?_
  simp only [Act.put, List.setIfInBounds_toArray, List.set_cons_succ, List.set_cons_zero]
  refine lex_new [.int .u64 0, .string ⟨#[]⟩, .bool false, .int .u64 0, .string ⟨#[]⟩] 12 34 34 rfl rfl (of_decide_eq_true (by kernel_rfl)) (by kernel_rfl) rfl new_frac ?_
  simp only [Act.put, List.setIfInBounds_toArray, List.set_cons_succ, List.set_cons_zero]
  refine lex_put [.int .u64 ((zl a0.num : Nat) : Int), .string (zh a0.num), .bool (zs a0.num), .int .u64 ((lo (fe a0) : Nat) : Int), .string (hs (fe a0))] [.int .u64 0, .string ⟨#[]⟩, .bool false, .int .u64 0, .string ⟨#[]⟩] 11 34 (.tmp 42) rfl (by kernel_rfl) (by simp [toG, upd]) rfl (fun w k h => put_frac _ _ _ _ _ _ _ _ _ _ w k h) ?_
  simp only [Act.put]
  refine lex_put [.int .u64 ((zl b0.num : Nat) : Int), .string (zh b0.num), .bool (zs b0.num), .int .u64 ((lo (fe b0) : Nat) : Int), .string (hs (fe b0))] [.int .u64 0, .string ⟨#[]⟩, .bool false, .int .u64 0, .string ⟨#[]⟩] 12 34 (.tmp 45) rfl (by kernel_rfl) (by simp [toG, upd]) rfl (fun w k h => put_frac _ _ _ _ _ _ _ _ _ _ w k h) ?_
  simp only [Act.put]
  refine lexG_nil ?_
  intro κ x2 hS
  replace hL0 := hL0.ghs hS [(12, [.int .u64 ((zl b0.num : Nat) : Int), .string (zh b0.num), .bool (zs b0.num), .int .u64 ((lo (fe b0) : Nat) : Int), .string (hs (fe b0))]), (11, [.int .u64 ((zl a0.num : Nat) : Int), .string (zh a0.num), .bool (zs a0.num), .int .u64 ((lo (fe a0) : Nat) : Int), .string (hs (fe a0))])] (by simp) (by intro p hp; simp only [List.mem_cons, List.not_mem_nil, or_false] at hp; rcases hp with rfl | rfl <;> exact ⟨_, by simp only [toG, upd]; rfl⟩)
  simp only [List.map_cons, List.map_nil, List.cons_append, List.nil_append] at hL0
  simp only [over_toG, over_nil, Act.put, List.setIfInBounds_toArray, List.set_cons_succ, List.set_cons_zero]
  clear hS
  generalize κ 12 = k2_12 at *
  generalize κ 11 = k2_11 at *
  have hN0 := cells_of _ 0 [] rfl (hL0.get _ _ List.mem_cons_self)
  simp only [cellsF, and_true, Nat.zero_add, Nat.reduceAdd] at hN0
  have hN1 := cells_of _ 0 [] rfl (hL0.get _ _ (List.mem_cons_of_mem _ List.mem_cons_self))
  simp only [cellsF, and_true, Nat.zero_add, Nat.reduceAdd] at hN1
  go_wp2_with fail
  clear hN0 hN1
  with_reducible refine Calls.mono (C0.out _) ?_
  rintro e x3 ⟨rfl, hb⟩
  replace hL0 := hL0.call hb
  clear hb
  have hA := hL0.fc
  simp only [fcG, cellsF, neK, and_true, ne_eq, Nat.zero_add, Nat.reduceAdd] at hA
  have hP := hL0.put 1 (k2_11) _ rfl [.int .u64 ((zl b0.num : Nat) : Int), .string (zh b0.num), .bool (zs b0.num), .int .u64 ((lo (fe b0) : Nat) : Int), .string (hs (fe b0))] rfl
  simp only [setAll, List.set_cons_zero, List.set_cons_succ] at hP
  generalize hput1 : (((((x3.setCell ⟨k2_11, 0, none⟩ (.int .u64 ((zl b0.num : Nat) : Int))).setCell ⟨k2_11, 1, none⟩ (.string (zh b0.num))).setCell ⟨k2_11, 2, none⟩ (.bool (zs b0.num))).setCell ⟨k2_11, 3, none⟩ (.int .u64 ((lo (fe b0) : Nat) : Int))).setCell ⟨k2_11, 4, none⟩ (.string (hs (fe b0)))) = x4 at hP
  have hB1 := hP.fc
  simp only [fcG, cellsF, neK, and_true, ne_eq, Nat.zero_add, Nat.reduceAdd] at hB1
  replace hL0 := hP
  have hP := hL0.put 0 (k2_12) _ rfl [.int .u64 ((zl a0.num : Nat) : Int), .string (zh a0.num), .bool (zs a0.num), .int .u64 ((lo (fe a0) : Nat) : Int), .string (hs (fe a0))] rfl
  simp only [setAll, List.set_cons_zero, List.set_cons_succ] at hP
  generalize hput2 : (((((x4.setCell ⟨k2_12, 0, none⟩ (.int .u64 ((zl a0.num : Nat) : Int))).setCell ⟨k2_12, 1, none⟩ (.string (zh a0.num))).setCell ⟨k2_12, 2, none⟩ (.bool (zs a0.num))).setCell ⟨k2_12, 3, none⟩ (.int .u64 ((lo (fe a0) : Nat) : Int))).setCell ⟨k2_12, 4, none⟩ (.string (hs (fe a0)))) = x5 at hP
  have hB2 := hP.fc
  simp only [fcG, cellsF, neK, and_true, ne_eq, Nat.zero_add, Nat.reduceAdd] at hB2
  replace hL0 := hP
  go_wp2_with fail
  clear hA
  with_reducible refine Calls.mono (B1.out _) ?_
  rintro e x6 ⟨rfl, hb⟩
  replace hL0 := hL0.call hb
  clear hb hput1 hB1 hput2 hB2
  replace hL0 := (hL0.new rfl [.int .u64 ((zl l1.num : Nat) : Int), .string (zh l1.num), .bool (zs l1.num), .int .u64 ((lo (fe l1) : Nat) : Int), .string (hs (fe l1))] 34)
  generalize hweq : (x6.alloc (.cells #[.int .u64 ((zl l1.num : Nat) : Int), .string (zh l1.num), .bool (zs l1.num), .int .u64 ((lo (fe l1) : Nat) : Int), .string (hs (fe l1))] 34)) = x7 at hL0
  have hN0 := cells_of _ 0 [] rfl (hL0.get _ _ (List.mem_cons_of_mem _ (List.mem_cons_of_mem _ List.mem_cons_self)))
  simp only [cellsF, and_true, Nat.zero_add, Nat.reduceAdd] at hN0
  go_wp2_with fail
  clear hN0
  with_reducible refine Calls.mono (B2.out _) ?_
  rintro e x8 ⟨rfl, hb⟩
  replace hL0 := hL0.call hb
  clear hb hweq
  replace hL0 := (hL0.new rfl [.int .u64 ((zl l2.num : Nat) : Int), .string (zh l2.num), .bool (zs l2.num), .int .u64 ((lo (fe l2) : Nat) : Int), .string (hs (fe l2))] 34)
  generalize hweq : (x8.alloc (.cells #[.int .u64 ((zl l2.num : Nat) : Int), .string (zh l2.num), .bool (zs l2.num), .int .u64 ((lo (fe l2) : Nat) : Int), .string (hs (fe l2))] 34)) = x9 at hL0
  have hN0 := cells_of _ 0 [] rfl (hL0.get _ _ (List.mem_cons_of_mem _ (List.mem_cons_of_mem _ (List.mem_cons_of_mem _ List.mem_cons_self))))
  simp only [cellsF, and_true, Nat.zero_add, Nat.reduceAdd] at hN0
  go_wp2_with fail
  clear hN0
  with_reducible refine Calls.mono (B3.out _) ?_
  rintro e x10 ⟨rfl, hb⟩
  replace hL0 := hL0.call hb
  clear hb hweq
  replace hL0 := (hL0.new rfl [.int .u64 ((zl h1.num : Nat) : Int), .string (zh h1.num), .bool (zs h1.num), .int .u64 ((lo (fe h1) : Nat) : Int), .string (hs (fe h1))] 34)
  generalize hweq : (x10.alloc (.cells #[.int .u64 ((zl h1.num : Nat) : Int), .string (zh h1.num), .bool (zs h1.num), .int .u64 ((lo (fe h1) : Nat) : Int), .string (hs (fe h1))] 34)) = x11 at hL0
  have hN0 := cells_of _ 0 [] rfl (hL0.get _ _ (List.mem_cons_of_mem _ (List.mem_cons_of_mem _ (List.mem_cons_of_mem _ (List.mem_cons_of_mem _ List.mem_cons_self)))))
  simp only [cellsF, and_true, Nat.zero_add, Nat.reduceAdd] at hN0
  go_wp2_with fail
  clear hN0
  with_reducible refine Calls.mono (B4.out _) ?_
  rintro e x12 ⟨rfl, hb⟩
  replace hL0 := hL0.call hb
  clear hb hweq
  replace hL0 := (hL0.new rfl [.int .u64 ((zl h2.num : Nat) : Int), .string (zh h2.num), .bool (zs h2.num), .int .u64 ((lo (fe h2) : Nat) : Int), .string (hs (fe h2))] 34)
  generalize hweq : (x12.alloc (.cells #[.int .u64 ((zl h2.num : Nat) : Int), .string (zh h2.num), .bool (zs h2.num), .int .u64 ((lo (fe h2) : Nat) : Int), .string (hs (fe h2))] 34)) = x13 at hL0
  have hN0 := cells_of _ 0 [] rfl (hL0.get _ _ (List.mem_cons_of_mem _ (List.mem_cons_of_mem _ (List.mem_cons_of_mem _ (List.mem_cons_of_mem _ List.mem_cons_self)))))
  simp only [cellsF, and_true, Nat.zero_add, Nat.reduceAdd] at hN0
  go_wp2_with fail
  clear hN0
  with_reducible refine Calls.mono (B5.out _) ?_
  rintro e x14 ⟨rfl, hb⟩
  replace hL0 := hL0.call hb
  clear hb hweq
  replace hL0 := (hL0.new rfl [.int .u64 ((zl l3.num : Nat) : Int), .string (zh l3.num), .bool (zs l3.num), .int .u64 ((lo (fe l3) : Nat) : Int), .string (hs (fe l3))] 34)
  generalize hweq : (x14.alloc (.cells #[.int .u64 ((zl l3.num : Nat) : Int), .string (zh l3.num), .bool (zs l3.num), .int .u64 ((lo (fe l3) : Nat) : Int), .string (hs (fe l3))] 34)) = x15 at hL0
  have hN0 := cells_of _ 0 [] rfl (hL0.get _ _ (List.mem_cons_of_mem _ (List.mem_cons_of_mem _ (List.mem_cons_of_mem _ (List.mem_cons_of_mem _ (List.mem_cons_of_mem _ List.mem_cons_self))))))
  simp only [cellsF, and_true, Nat.zero_add, Nat.reduceAdd] at hN0
  go_wp2_with fail
  clear hN0
  with_reducible refine Calls.mono (B6.out _) ?_
  rintro e x16 ⟨rfl, hb⟩
  replace hL0 := hL0.call hb
  clear hb hweq
  replace hL0 := (hL0.new rfl [.int .u64 ((zl h3.num : Nat) : Int), .string (zh h3.num), .bool (zs h3.num), .int .u64 ((lo (fe h3) : Nat) : Int), .string (hs (fe h3))] 34)
  generalize hweq : (x16.alloc (.cells #[.int .u64 ((zl h3.num : Nat) : Int), .string (zh h3.num), .bool (zs h3.num), .int .u64 ((lo (fe h3) : Nat) : Int), .string (hs (fe h3))] 34)) = x17 at hL0
  have hN0 := cells_of _ 0 [] rfl (hL0.get _ _ (List.mem_cons_of_mem _ (List.mem_cons_of_mem _ (List.mem_cons_of_mem _ (List.mem_cons_of_mem _ List.mem_cons_self)))))
  simp only [cellsF, and_true, Nat.zero_add, Nat.reduceAdd] at hN0
  have hN1 := cells_of _ 0 [] rfl (hL0.get _ _ (List.mem_cons_of_mem _ (List.mem_cons_of_mem _ (List.mem_cons_of_mem _ (List.mem_cons_of_mem _ (List.mem_cons_of_mem _ List.mem_cons_self))))))
  simp only [cellsF, and_true, Nat.zero_add, Nat.reduceAdd] at hN1
  go_wp2_with fail
  clear hN0 hN1
  with_reducible refine Calls.mono (C1.out _) ?_
  rintro e x18 ⟨rfl, hb⟩
  replace hL0 := hL0.call hb
  clear hb hweq
  have hN0 := cells_of _ 0 [] rfl (hL0.get _ _ (List.mem_cons_of_mem _ (List.mem_cons_of_mem _ List.mem_cons_self)))
  simp only [cellsF, and_true, Nat.zero_add, Nat.reduceAdd] at hN0
  have hN1 := cells_of _ 0 [] rfl (hL0.get _ _ (List.mem_cons_of_mem _ (List.mem_cons_of_mem _ (List.mem_cons_of_mem _ List.mem_cons_self))))
  simp only [cellsF, and_true, Nat.zero_add, Nat.reduceAdd] at hN1
  go_wp2_with fail
  clear hN0 hN1
  with_reducible refine Calls.mono (C2.out _) ?_
  rintro e x19 ⟨rfl, hb⟩
  replace hL0 := hL0.call hb
  clear hb
  have hN0 := cells_of _ 0 [] rfl (hL0.get _ _ (List.mem_cons_of_mem _ List.mem_cons_self))
  simp only [cellsF, and_true, Nat.zero_add, Nat.reduceAdd] at hN0
  have hN1 := cells_of _ 0 [] rfl (hL0.get _ _ (List.mem_cons_of_mem _ (List.mem_cons_of_mem _ (List.mem_cons_of_mem _ (List.mem_cons_of_mem _ (List.mem_cons_of_mem _ List.mem_cons_self))))))
  simp only [cellsF, and_true, Nat.zero_add, Nat.reduceAdd] at hN1
  go_wp2_with fail
  clear hN0 hN1
  with_reducible refine Calls.mono (C3.out _) ?_
  rintro e x20 ⟨rfl, hb⟩
  replace hL0 := hL0.call hb
  clear hb
  have hN0 := cells_of _ 0 [] rfl (hL0.get _ _ List.mem_cons_self)
  simp only [cellsF, and_true, Nat.zero_add, Nat.reduceAdd] at hN0
  have hN1 := cells_of _ 0 [] rfl (hL0.get _ _ (List.mem_cons_of_mem _ (List.mem_cons_of_mem _ (List.mem_cons_of_mem _ List.mem_cons_self))))
  simp only [cellsF, and_true, Nat.zero_add, Nat.reduceAdd] at hN1
  go_wp2_with fail
  clear hN0 hN1
  with_reducible refine Calls.mono (C4.out _) ?_
  rintro e x21 ⟨rfl, hb⟩
  replace hL0 := hL0.call hb
  clear hb
  have hN0 := cells_of _ 0 [] rfl (hL0.get _ _ (List.mem_cons_of_mem _ (List.mem_cons_of_mem _ List.mem_cons_self)))
  simp only [cellsF, and_true, Nat.zero_add, Nat.reduceAdd] at hN0
  have hN1 := cells_of _ 0 [] rfl (hL0.get _ _ (List.mem_cons_of_mem _ (List.mem_cons_of_mem _ (List.mem_cons_of_mem _ (List.mem_cons_of_mem _ List.mem_cons_self)))))
  simp only [cellsF, and_true, Nat.zero_add, Nat.reduceAdd] at hN1
  go_wp2_with fail
  clear hN0 hN1
  with_reducible refine Calls.mono (C5.out _) ?_
  rintro e x22 ⟨rfl, hb⟩
  replace hL0 := hL0.call hb
  clear hb
  go_upto_region 17 with fail
  refine region_gh (by kernel_rfl) (by kernel_rfl) ?_
  refine lex_seg (gl := []) 9 (by kernel_rfl) ?_
  intro α iα F hF1 hF2
  have hq := GL.seg hF1 hL0
  simp only [fcC, cellsC, and_true, Nat.zero_add, Nat.reduceAdd] at hq
  simp only [List.take_succ_cons, List.take_zero, List.drop_succ_cons, List.drop_zero, List.take_nil, List.drop_nil]
  repeat (go_big_quiet_step (first | fail | (go_at_call 29; with_reducible exact seg_call hF2 I4.out _) | (go_at_call 28; with_reducible exact seg_call hF2 M1.out _) | (go_at_call 36; with_reducible exact seg_call hF2 B7.out _)))
  refine wpQuiet_nil ?_
  clear hq hF1 hF2 iα F α
  refine lex_new [.int .u64 0, .string ⟨#[]⟩, .bool false, .int .u64 0, .string ⟨#[]⟩] 25 34 34 rfl rfl (of_decide_eq_true (by kernel_rfl)) (by kernel_rfl) rfl new_frac ?_
  simp only [Act.put, List.setIfInBounds_toArray, List.set_cons_succ, List.set_cons_zero]
  refine lex_put [.int .u64 ((zl y1.num : Nat) : Int), .string (zh y1.num), .bool (zs y1.num), .int .u64 ((lo (fe y1) : Nat) : Int), .string (hs (fe y1))] [.int .u64 0, .string ⟨#[]⟩, .bool false, .int .u64 0, .string ⟨#[]⟩] 25 34 (.tmp 126) rfl (by kernel_rfl) (by simp [toG, upd]) rfl (fun w k h => put_frac _ _ _ _ _ _ _ _ _ _ w k h) ?_
  simp only [Act.put]
  refine lex_seg (gl := [(25, [.int .u64 ((zl y1.num : Nat) : Int), .string (zh y1.num), .bool (zs y1.num), .int .u64 ((lo (fe y1) : Nat) : Int), .string (hs (fe y1))], true), (25, [.int .u64 0, .string ⟨#[]⟩, .bool false, .int .u64 0, .string ⟨#[]⟩], false)]) 1 (by kernel_rfl) ?_
  intro α iα F hF1 hF2
  have hq := GL.seg hF1 hL0
  simp only [fcC, cellsC, and_true, Nat.zero_add, Nat.reduceAdd] at hq
  simp only [List.take_succ_cons, List.take_zero, List.drop_succ_cons, List.drop_zero, List.take_nil, List.drop_nil]
  repeat (go_big_quiet_step (first | fail | (go_at_call 29; with_reducible exact seg_call hF2 I4.out _) | (go_at_call 28; with_reducible exact seg_call hF2 M1.out _) | (go_at_call 36; with_reducible exact seg_call hF2 B7.out _)))
  refine wpQuiet_nil ?_
  clear hq hF1 hF2 iα F α
  refine lexG_nil ?_
  intro κ x23 hS
  replace hL0 := hL0.ghs hS [(25, [.int .u64 ((zl y1.num : Nat) : Int), .string (zh y1.num), .bool (zs y1.num), .int .u64 ((lo (fe y1) : Nat) : Int), .string (hs (fe y1))])] (by simp) (by intro p hp; simp only [List.mem_cons, List.not_mem_nil, or_false] at hp; rcases hp with rfl <;> exact ⟨_, by simp only [toG, upd]; rfl⟩)
  simp only [List.map_cons, List.map_nil, List.cons_append, List.nil_append] at hL0
  simp only [over_toG, over_nil, Act.put, List.setIfInBounds_toArray, List.set_cons_succ, List.set_cons_zero]
  clear hS
  generalize κ 25 = k23_25 at *
  go_upto_region 18 with fail
  refine region_gh (by kernel_rfl) (by kernel_rfl) ?_
  refine lex_seg (gl := []) 9 (by kernel_rfl) ?_
  intro α iα F hF1 hF2
  have hq := GL.seg hF1 hL0
  simp only [fcC, cellsC, and_true, Nat.zero_add, Nat.reduceAdd] at hq
  simp only [List.take_succ_cons, List.take_zero, List.drop_succ_cons, List.drop_zero, List.take_nil, List.drop_nil]
  repeat (go_big_quiet_step (first | fail | (go_at_call 29; with_reducible exact seg_call hF2 I4.out _) | (go_at_call 28; with_reducible exact seg_call hF2 M1.out _) | (go_at_call 37; with_reducible exact seg_call hF2 B8.out _)))
  refine wpQuiet_nil ?_
  clear hq hF1 hF2 iα F α
  refine lex_new [.int .u64 0, .string ⟨#[]⟩, .bool false, .int .u64 0, .string ⟨#[]⟩] 27 34 34 rfl rfl (of_decide_eq_true (by kernel_rfl)) (by kernel_rfl) rfl new_frac ?_
  simp only [Act.put, List.setIfInBounds_toArray, List.set_cons_succ, List.set_cons_zero]
  refine lex_put [.int .u64 ((zl z1.num : Nat) : Int), .string (zh z1.num), .bool (zs z1.num), .int .u64 ((lo (fe z1) : Nat) : Int), .string (hs (fe z1))] [.int .u64 0, .string ⟨#[]⟩, .bool false, .int .u64 0, .string ⟨#[]⟩] 27 34 (.tmp 135) rfl (by kernel_rfl) (by simp [toG, upd]) rfl (fun w k h => put_frac _ _ _ _ _ _ _ _ _ _ w k h) ?_
  simp only [Act.put]
  refine lex_seg (gl := [(27, [.int .u64 ((zl z1.num : Nat) : Int), .string (zh z1.num), .bool (zs z1.num), .int .u64 ((lo (fe z1) : Nat) : Int), .string (hs (fe z1))], true), (27, [.int .u64 0, .string ⟨#[]⟩, .bool false, .int .u64 0, .string ⟨#[]⟩], false)]) 1 (by kernel_rfl) ?_
  intro α iα F hF1 hF2
  have hq := GL.seg hF1 hL0
  simp only [fcC, cellsC, and_true, Nat.zero_add, Nat.reduceAdd] at hq
  simp only [List.take_succ_cons, List.take_zero, List.drop_succ_cons, List.drop_zero, List.take_nil, List.drop_nil]
  repeat (go_big_quiet_step (first | fail | (go_at_call 29; with_reducible exact seg_call hF2 I4.out _) | (go_at_call 28; with_reducible exact seg_call hF2 M1.out _) | (go_at_call 37; with_reducible exact seg_call hF2 B8.out _)))
  refine wpQuiet_nil ?_
  clear hq hF1 hF2 iα F α
  refine lexG_nil ?_
  intro κ x24 hS
  replace hL0 := hL0.ghs hS [(27, [.int .u64 ((zl z1.num : Nat) : Int), .string (zh z1.num), .bool (zs z1.num), .int .u64 ((lo (fe z1) : Nat) : Int), .string (hs (fe z1))])] (by simp) (by intro p hp; simp only [List.mem_cons, List.not_mem_nil, or_false] at hp; rcases hp with rfl <;> exact ⟨_, by simp only [toG, upd]; rfl⟩)
  simp only [List.map_cons, List.map_nil, List.cons_append, List.nil_append] at hL0
  simp only [over_toG, over_nil, Act.put, List.setIfInBounds_toArray, List.set_cons_succ, List.set_cons_zero]
  clear hS
  generalize κ 27 = k24_27 at *
  go_upto_region 19 with fail
  have kKT1 := hKT.out.at hL0.bl kKT
  obtain ⟨α, iα, F, hF1, hF2⟩ := cls x24
  have hq0 := cls_box hF1 hL0 _ _ List.mem_cons_self
  simp only [cellsC, and_true, Nat.zero_add, Nat.reduceAdd] at hq0
  have hq1 := cls_box hF1 hL0 _ _ (List.mem_cons_of_mem _ List.mem_cons_self)
  simp only [cellsC, and_true, Nat.zero_add, Nat.reduceAdd] at hq1
  have hq2 := cls_box hF1 hL0 _ _ (List.mem_cons_of_mem _ (List.mem_cons_of_mem _ (List.mem_cons_of_mem _ (List.mem_cons_of_mem _ List.mem_cons_self))))
  simp only [cellsC, and_true, Nat.zero_add, Nat.reduceAdd] at hq2
  have hq3 := cls_box hF1 hL0 _ _ (List.mem_cons_of_mem _ (List.mem_cons_of_mem _ (List.mem_cons_of_mem _ (List.mem_cons_of_mem _ (List.mem_cons_of_mem _ (List.mem_cons_of_mem _ List.mem_cons_self))))))
  simp only [cellsC, and_true, Nat.zero_add, Nat.reduceAdd] at hq3
  refine region_qs 24 (C := fun w' => ∃ x, w' = F x) (by kernel_rfl) (by kernel_rfl) (cls_drew hF2) ?_
  simp only [List.take_succ_cons, List.take_zero, List.drop_succ_cons, List.drop_zero, List.take_nil, List.drop_nil]
  repeat (go_big_quiet_step (first | fail | (go_at_call 29; with_reducible exact cls_call hF1 hF2 I2.out _) | (go_at_call 28; with_reducible exact cls_call hF1 hF2 M2.out _) | (go_at_call 28; with_reducible exact cls_call hF1 hF2 M3.out _) | (go_at_call 35; with_reducible exact cls_callK hKT.out hF1 hF2 kKT1 HW.out _)))
  refine wpQuiet_nil ?_
  rintro wq ⟨xq, rfl⟩
  replace hL0 := hL0.call (hF1 xq)
  clear  hq0 hq1 hq2 hq3 hF2
  generalize F xq = x25 at hL0 ⊢
  clear hF1 xq iα F α
  clear kKT1
  go_wp2_with fail
  exact bodyPost_ret (v := .bool true) (by simp [results, Tryz.results11, go_sem]) rfl ⟨rfl, hL0.bl⟩)
end Go.Proofs.YtdkjckiialnpnaaGreatDoor
namespace Go.Proofs.YtdkjckiialnpnaaGreatDoor
open Go.RowKit
attribute [local irreducible] lo hs sm s64 c64 d64 b64 mh ml pd pc qd qc val hiB str cmpI srD lz nb isq zl zh zs
set_option maxHeartbeats 4000000 in
set_option maxRecDepth 100000 in
theorem qof_zero (n x c : Int) (f : Nat) (HF : RT 32 #[.int .i64 n, .int .i64 1] (.tuple #[frV x f, .int .i64 c])) (hmx : max (0 : Int) 1 = 1) (w : World) :
  Calls Tryz.prog 16 #[.agg #[.int .i64 n, .int .u32 0]] w fun xe w' => xe = .returned (frV x f) ∧ Below w.heap.size w w' := by
 have hL0 : GL w w [] := GL.start w
 replace HF := Lib.hid HF
 replace hL0 := ((hL0.new rfl [.int .i64 n, .int .u32 0] 24).new (K := w.heap.size + 1) (szA _ _) [.int .u64 0, .string ⟨#[]⟩, .bool false, .int .u64 0, .string ⟨#[]⟩] 34)
 generalize hweq : ((w.alloc (.cells #[.int .i64 n, .int .u32 0] 24)).alloc (.cells #[.int .u64 0, .string ⟨#[]⟩, .bool false, .int .u64 0, .string ⟨#[]⟩] 34)) = x1 at hL0
 go_enter Tryz.func16, Tryz.ntmps16
 have hN0 := cells_of _ 0 [] rfl (hL0.get _ _ (List.mem_cons_of_mem _ List.mem_cons_self))
 simp only [cellsF, and_true, Nat.zero_add, Nat.reduceAdd] at hN0
 go_wp2_with fail
 clear hN0
 with_reducible refine Calls.mono (HF.out _) ?_
 rintro e x2 ⟨rfl, hb⟩
 replace hL0 := hL0.call hb
 clear hb hweq
 replace hL0 := (hL0.new rfl [.int .u64 ((zl x : Nat) : Int), .string (zh x), .bool (zs x), .int .u64 ((lo f : Nat) : Int), .string (hs f)] 34)
 generalize hweq : (x2.alloc (.cells #[.int .u64 ((zl x : Nat) : Int), .string (zh x), .bool (zs x), .int .u64 ((lo f : Nat) : Int), .string (hs f)] 34)) = x3 at hL0
 have hA := hL0.fc
 simp only [fcG, cellsF, neK, and_true, ne_eq, Nat.zero_add, Nat.reduceAdd] at hA
 have hP := hL0.put 1 (w.heap.size + 1) _ rfl [.int .u64 ((zl x : Nat) : Int), .string (zh x), .bool (zs x), .int .u64 ((lo f : Nat) : Int), .string (hs f)] rfl
 simp only [setAll, List.set_cons_zero, List.set_cons_succ] at hP
 generalize hput1 : (((((x3.setCell ⟨w.heap.size + 1, 0, none⟩ (.int .u64 ((zl x : Nat) : Int))).setCell ⟨w.heap.size + 1, 1, none⟩ (.string (zh x))).setCell ⟨w.heap.size + 1, 2, none⟩ (.bool (zs x))).setCell ⟨w.heap.size + 1, 3, none⟩ (.int .u64 ((lo f : Nat) : Int))).setCell ⟨w.heap.size + 1, 4, none⟩ (.string (hs f))) = x4 at hP
 have hB1 := hP.fc
 simp only [fcG, cellsF, neK, and_true, ne_eq, Nat.zero_add, Nat.reduceAdd] at hB1
 replace hL0 := hP
 go_wp2_with fail
 exact bodyPost_ret (v := frV x f) (by simp [results, Tryz.results16, go_sem, hB1]) rfl ⟨rfl, hL0.bl⟩
set_option maxHeartbeats 4000000 in
set_option maxRecDepth 100000 in
theorem qof_pos (n d x c : Int) (f : Nat) (HF : RT 32 #[.int .i64 n, .int .i64 d] (.tuple #[frV x f, .int .i64 c])) (h1 : max d 1 = d) (hw : IntKind.i64.wrap d = d) (w : World) :
  Calls Tryz.prog 16 #[.agg #[.int .i64 n, .int .u32 d]] w fun xe w' => xe = .returned (frV x f) ∧ Below w.heap.size w w' := by
 have hL0 : GL w w [] := GL.start w
 replace HF := Lib.hid HF
 replace hL0 := ((hL0.new rfl [.int .i64 n, .int .u32 d] 24).new (K := w.heap.size + 1) (szA _ _) [.int .u64 0, .string ⟨#[]⟩, .bool false, .int .u64 0, .string ⟨#[]⟩] 34)
 generalize hweq : ((w.alloc (.cells #[.int .i64 n, .int .u32 d] 24)).alloc (.cells #[.int .u64 0, .string ⟨#[]⟩, .bool false, .int .u64 0, .string ⟨#[]⟩] 34)) = x1 at hL0
 go_enter Tryz.func16, Tryz.ntmps16
 have hN0 := cells_of _ 0 [] rfl (hL0.get _ _ (List.mem_cons_of_mem _ List.mem_cons_self))
 simp only [cellsF, and_true, Nat.zero_add, Nat.reduceAdd] at hN0
 go_wp2_with fail
 clear hN0
 with_reducible refine Calls.mono (HF.out _) ?_
 rintro e x2 ⟨rfl, hb⟩
 replace hL0 := hL0.call hb
 clear hb hweq
 replace hL0 := (hL0.new rfl [.int .u64 ((zl x : Nat) : Int), .string (zh x), .bool (zs x), .int .u64 ((lo f : Nat) : Int), .string (hs f)] 34)
 generalize hweq : (x2.alloc (.cells #[.int .u64 ((zl x : Nat) : Int), .string (zh x), .bool (zs x), .int .u64 ((lo f : Nat) : Int), .string (hs f)] 34)) = x3 at hL0
 have hA := hL0.fc
 simp only [fcG, cellsF, neK, and_true, ne_eq, Nat.zero_add, Nat.reduceAdd] at hA
 have hP := hL0.put 1 (w.heap.size + 1) _ rfl [.int .u64 ((zl x : Nat) : Int), .string (zh x), .bool (zs x), .int .u64 ((lo f : Nat) : Int), .string (hs f)] rfl
 simp only [setAll, List.set_cons_zero, List.set_cons_succ] at hP
 generalize hput1 : (((((x3.setCell ⟨w.heap.size + 1, 0, none⟩ (.int .u64 ((zl x : Nat) : Int))).setCell ⟨w.heap.size + 1, 1, none⟩ (.string (zh x))).setCell ⟨w.heap.size + 1, 2, none⟩ (.bool (zs x))).setCell ⟨w.heap.size + 1, 3, none⟩ (.int .u64 ((lo f : Nat) : Int))).setCell ⟨w.heap.size + 1, 4, none⟩ (.string (hs f))) = x4 at hP
 have hB1 := hP.fc
 simp only [fcG, cellsF, neK, and_true, ne_eq, Nat.zero_add, Nat.reduceAdd] at hB1
 replace hL0 := hP
 go_wp2_with fail
 exact bodyPost_ret (v := frV x f) (by simp [results, Tryz.results16, go_sem, hB1]) rfl ⟨rfl, hL0.bl⟩
theorem qof_any (n d : Int) (a1 : -9223372036854775808 ≤ n) (a2 : n < 9223372036854775808) (b1 : 0 ≤ d) (b2 : d < 4294967296) (w : World) :
  Calls Tryz.prog 16 #[.agg #[.int .i64 n, .int .u32 d]] w fun xe w' => xe = .returned (fracV (qmade n d.toNat)) ∧ Below w.heap.size w w' := by
 by_cases h : d = 0
 ·subst h
  have e : (n : Rat) / ((1 : Int) : Rat) = qmade n 0 := by rw [← of_val_q n 1 (by decide)]; rfl
  have hF := fun w => ofF n 1 a1 a2 (by decide) (by decide) (by decide) w
  rw [e] at hF
  exact qof_zero n _ _ _ hF (by decide) w
 ·have e : (n : Rat) / (d : Rat) = qmade n d.toNat := by
   rw [← of_val_q n d h]
   unfold qmade
   rw [if_neg (by omega), if_neg (by omega), show d.natAbs = d.toNat by omega]
  have hF := fun w => ofF n d a1 a2 (by omega) (by omega) h w
  rw [e] at hF
  exact qof_pos n d _ _ _ hF (by omega) (IntWalk.i64_in _ (by omega)) w
end Go.Proofs.YtdkjckiialnpnaaGreatDoor
namespace Go.Proofs.YtdkjckiialnpnaaGreatDoor
open Go.RowKit
theorem wrap8' {n : Nat} (h : n < 256) : IntKind.i64.wrap (n : Int) = (n : Int) := by simp [IntKind.wrap, IntKind.signed, IntKind.bits]; omega
theorem tmod_nat' (n m : Nat) : (n : Int).tmod (m : Int) = ((n % m : Nat) : Int) := by rw [Int.tmod_eq_emod_of_nonneg (by omega)]; push_cast; rfl
theorem rrise_any (nx dx ny dy : Int) (m8 e8 : Nat) (ax : -9223372036854775808 ≤ nx ∧ nx < 9223372036854775808) (bx : 0 ≤ dx ∧ dx < 4294967296) (ay : -9223372036854775808 ≤ ny ∧ ny < 9223372036854775808) (by_ : 0 ≤ dy ∧ dy < 4294967296) (hm : m8 < 256) (he : e8 < 256) (w : World) (htab : Tab w) :
  Calls Tryz.prog 11 #[.agg #[.int .i64 nx, .int .u32 dx], .agg #[.int .i64 ny, .int .u32 dy], .int .u8 (m8 : Int), .int .u8 (e8 : Int)] w fun xe w' => xe = .returned (.bool true) ∧ Below w.heap.size w w' := by
 have G1 := fun w => qof_any nx dx ax.1 ax.2 bx.1 bx.2 w
 have G2 := fun w => qof_any ny dy ay.1 ay.2 by_.1 by_.2 w
 have s1 := qmade_sz nx dx.toNat ax.1 ax.2 (by omega)
 have s2 := qmade_sz ny dy.toNat ay.1 ay.2 (by omega)
 generalize qmade nx dx.toNat = u at *
 generalize qmade ny dy.toNat = v at *
 have w1 := wrap8' hm
 have w2 := wrap8' he
 have t1 := tmod_nat' m8 101
 have t2 := tmod_nat' e8 101
 have l1 : m8 % 101 ≤ 100 := by omega
 have l2 : e8 % 101 ≤ 100 := by omega
 generalize m8 % 101 = m1 at *
 generalize e8 % 101 = n1 at *
 obtain ⟨p, r, hp, hr, hpr, hz⟩ : ∃ p r : Nat, p ≤ 100 ∧ r ≤ 100 ∧ p ≤ r ∧ ((decide ((n1 : Int) < (m1 : Int)) = true ∧ (m1 : Int) = (r : Int) ∧ (n1 : Int) = (p : Int)) ∨ (decide ((n1 : Int) < (m1 : Int)) = false ∧ (m1 : Int) = (p : Int) ∧ (n1 : Int) = (r : Int))) := by
  rcases Nat.lt_or_ge n1 m1 with h | h
  ·exact ⟨n1, m1, l2, l1, by omega, .inl ⟨decide_eq_true (by omega), rfl, rfl⟩⟩
  ·exact ⟨m1, n1, l1, l2, by omega, .inr ⟨decide_eq_false (by omega), rfl, rfl⟩⟩
 have A1 := absF u
 have A2 := absF v
 have na := absQ_nn u
 have nb := absQ_nn v
 have sa := absR_sz s1
 have sb := absR_sz s2
 generalize absQ u = a at *
 generalize absQ v = b at *
 have C0 := fun w => cmpF a b 1 sa sb (by omega) w
 have KEY : ∀ (x y : Rat), 0 ≤ x → 0 ≤ y → x ≤ y → Sz x 1 → Sz y 1 →
   (∀ w, Calls Tryz.prog 36 #[fracV x, .int .i64 (p : Int)] w fun xe w' => xe = .returned (.tuple #[fracV (below p x), .int .i64 0]) ∧ Below w.heap.size w w') ∧
   (∀ w, Calls Tryz.prog 36 #[fracV x, .int .i64 (r : Int)] w fun xe w' => xe = .returned (.tuple #[fracV (below r x), .int .i64 0]) ∧ Below w.heap.size w w') ∧
   (∀ w, Calls Tryz.prog 37 #[fracV x, .int .i64 (p : Int)] w fun xe w' => xe = .returned (.tuple #[fracV (above p x), .int .i64 0]) ∧ Below w.heap.size w w') ∧
   (∀ w, Calls Tryz.prog 37 #[fracV x, .int .i64 (r : Int)] w fun xe w' => xe = .returned (.tuple #[fracV (above r x), .int .i64 0]) ∧ Below w.heap.size w w') ∧
   (∀ w, Calls Tryz.prog 36 #[fracV y, .int .i64 (p : Int)] w fun xe w' => xe = .returned (.tuple #[fracV (below p y), .int .i64 0]) ∧ Below w.heap.size w w') ∧
   (∀ w, Calls Tryz.prog 37 #[fracV y, .int .i64 (p : Int)] w fun xe w' => xe = .returned (.tuple #[fracV (above p y), .int .i64 0]) ∧ Below w.heap.size w w') := by
  intro x y hx hy _ sx sy
  have B {q : Rat} {n : Nat} (hq : 0 ≤ q) (sq : Sz q 1) (hn : n ≤ 100) (w : World) := belowR q n 1 sq (by omega) w
  have A' {q : Rat} {n : Nat} (hq : 0 ≤ q) (sq : Sz q 1) (hn : n ≤ 100) (w : World) := aboveR q n 1 sq (by omega) w
  refine ⟨fun w => ?_, fun w => ?_, fun w => ?_, fun w => ?_, fun w => ?_, fun w => ?_⟩
  ·have := B hx sx hp w; rwa [(rtV_ok below hp hx).1, (rtV_ok below hp hx).2] at this
  ·have := B hx sx hr w; rwa [(rtV_ok below hr hx).1, (rtV_ok below hr hx).2] at this
  ·have := A' hx sx hp w; rwa [(rtV_ok above hp hx).1, (rtV_ok above hp hx).2] at this
  ·have := A' hx sx hr w; rwa [(rtV_ok above hr hx).1, (rtV_ok above hr hx).2] at this
  ·have := B hy sy hp w; rwa [(rtV_ok below hp hy).1, (rtV_ok below hp hy).2] at this
  ·have := A' hy sy hp w; rwa [(rtV_ok above hp hy).1, (rtV_ok above hp hy).2] at this
 have CM : ∀ (x y : Rat), Sz x 1 → Sz y 1 → (∀ w, Calls Tryz.prog 26 #[fracV (below p x), fracV (below r x)] w fun xe w' => xe = .returned (.int .i64 (cmpQ (below p x) (below r x))) ∧ Below w.heap.size w w') ∧
   (∀ w, Calls Tryz.prog 26 #[fracV (above r x), fracV (above p x)] w fun xe w' => xe = .returned (.int .i64 (cmpQ (above r x) (above p x))) ∧ Below w.heap.size w w') ∧
   (∀ w, Calls Tryz.prog 26 #[fracV (below p x), fracV (below p y)] w fun xe w' => xe = .returned (.int .i64 (cmpQ (below p x) (below p y))) ∧ Below w.heap.size w w') ∧
   (∀ w, Calls Tryz.prog 26 #[fracV (above p x), fracV (above p y)] w fun xe w' => xe = .returned (.int .i64 (cmpQ (above p x) (above p y))) ∧ Below w.heap.size w w') ∧
   (∀ w, Calls Tryz.prog 26 #[fracV (below r x), fracV (above r x)] w fun xe w' => xe = .returned (.int .i64 (cmpQ (below r x) (above r x))) ∧ Below w.heap.size w w') := by
  intro x y sx sy
  exact ⟨fun w => cmpF _ _ 8 ((below_sz sx hp).mono (by omega)) ((below_sz sx hr).mono (by omega)) (by omega) w, fun w => cmpF _ _ 8 (above_sz sx hr) (above_sz sx hp) (by omega) w,
   fun w => cmpF _ _ 8 ((below_sz sx hp).mono (by omega)) ((below_sz sy hp).mono (by omega)) (by omega) w, fun w => cmpF _ _ 8 (above_sz sx hp) (above_sz sy hp) (by omega) w, fun w => cmpF _ _ 8 ((below_sz sx hr).mono (by omega)) (above_sz sx hr) (by omega) w⟩
 have I4 := int_ex 4 (by decide) (by decide)
 have I2 := int_ex 2 (by decide) (by decide)
 have z4 : Sz ((4 : Int) : Rat) 1 := four_sz
 have z2 : Sz ((2 : Int) : Rat) 1 := szc _ (by decide) (by decide)
 have FOUR : 0 < r → ∀ x : Rat, 0 ≤ x → Sz x 1 →
   (∀ w, Calls Tryz.prog 28 #[fracV ((4 : Int) : Rat), fracV x] w fun xe w' => xe = .returned (fracV (((4 : Int) : Rat) * x)) ∧ Below w.heap.size w w') ∧
   (∀ w, Calls Tryz.prog 36 #[fracV (((4 : Int) : Rat) * x), .int .i64 ((r - 1 : Nat) : Int)] w fun xe w' => xe = .returned (.tuple #[fracV (((2 : Int) : Rat) * below r x), .int .i64 0]) ∧ Below w.heap.size w w') ∧
   (∀ w, Calls Tryz.prog 37 #[fracV (((4 : Int) : Rat) * x), .int .i64 ((r - 1 : Nat) : Int)] w fun xe w' => xe = .returned (.tuple #[fracV (((2 : Int) : Rat) * above r x), .int .i64 0]) ∧ Below w.heap.size w w') ∧
   (∀ w, Calls Tryz.prog 28 #[fracV ((2 : Int) : Rat), fracV (below r x)] w fun xe w' => xe = .returned (fracV (((2 : Int) : Rat) * below r x)) ∧ Below w.heap.size w w') ∧
   (∀ w, Calls Tryz.prog 28 #[fracV ((2 : Int) : Rat), fracV (above r x)] w fun xe w' => xe = .returned (fracV (((2 : Int) : Rat) * above r x)) ∧ Below w.heap.size w w') := by
  intro h0 x hx sx
  have nn : 0 ≤ ((4 : Int) : Rat) * x := Rat.mul_nonneg (by decide) hx
  have sm : Sz (((4 : Int) : Rat) * x) 2 := z4.mul sx
  have hr1 : r - 1 ≤ 100 := by omega
  refine ⟨fun w => mulF _ x 1 z4 sx (by omega) w, fun w => ?_, fun w => ?_, fun w => mulF _ _ 7 (z2.mono (by omega)) (below_sz sx hr) (by omega) w, fun w => mulF _ _ 8 (z2.mono (by omega)) (above_sz sx hr) (by omega) w⟩
  ·have := belowR (((4 : Int) : Rat) * x) ((r - 1 : Nat) : Int) 2 sm (by omega) w
   rwa [(rtV_ok below hr1 nn).1, (rtV_ok below hr1 nn).2, below_four h0] at this
  ·have := aboveR (((4 : Int) : Rat) * x) ((r - 1 : Nat) : Int) 2 sm (by omega) w
   rwa [(rtV_ok above hr1 nn).1, (rtV_ok above hr1 nn).2, above_four h0] at this
 by_cases hs : b < a
 ·have g0 : decide (0 < cmpQ a b) = true := by rw [cmpQ_gt]; exact decide_eq_true hs
  have hab : b ≤ a := by grind
  obtain ⟨K1, K2, K3, K4, K5, K6⟩ := KEY b a nb na hab sb sa
  obtain ⟨M1, M2, M3, M4, M5⟩ := CM b a sb sa
  have y1 := cm_le (below_finer nb hpr)
  have y2 := cm_le (above_finer nb hpr)
  have y3 := cm_le (below_mono p nb hab)
  have y4 := cm_le (above_mono p nb hab)
  have y5 := cm_le (below_le_above r b)
  by_cases h0 : r = 0
  ·subst h0
   exact rrise_zero_s nx dx ny dy m8 e8 m1 n1 p _ _ _ _ _ _ u v a b _ _ _ _ _ _ G1 G2 A1 A2 C0 K1 K2 K3 K4 K5 K6 M1 M2 M3 M4 M5 Tab Keeps.tab rworksR w1 w2 t1 t2 g0 y1 y2 y3 y4 y5 hz w htab
  ·obtain ⟨F1, F2, F3, F4, F5⟩ := FOUR (by omega) b nb sb
   exact rrise_pos_s nx dx ny dy m8 e8 m1 n1 p r ((r - 1 : Nat) : Int) _ _ _ _ _ _ u v a b _ _ _ _ _ _ _ _ _ _ _ G1 G2 A1 A2 C0 K1 K2 K3 K4 K5 K6 M1 M2 M3 M4 M5 I4 F1 F2 F3 I2 F4 F5 Tab Keeps.tab rworksR w1 w2 t1 t2 g0 y1 y2 y3 y4 y5 hz (by simp; omega) (by omega) (wrap8' (by omega)) w htab
 ·have g0 : decide (0 < cmpQ a b) = false := by rw [cmpQ_gt]; exact decide_eq_false hs
  have hab : a ≤ b := by grind
  obtain ⟨K1, K2, K3, K4, K5, K6⟩ := KEY a b na nb hab sa sb
  obtain ⟨M1, M2, M3, M4, M5⟩ := CM a b sa sb
  have y1 := cm_le (below_finer na hpr)
  have y2 := cm_le (above_finer na hpr)
  have y3 := cm_le (below_mono p na hab)
  have y4 := cm_le (above_mono p na hab)
  have y5 := cm_le (below_le_above r a)
  by_cases h0 : r = 0
  ·subst h0
   exact rrise_zero nx dx ny dy m8 e8 m1 n1 p _ _ _ _ _ _ u v a b _ _ _ _ _ _ G1 G2 A1 A2 C0 K1 K2 K3 K4 K5 K6 M1 M2 M3 M4 M5 Tab Keeps.tab rworksR w1 w2 t1 t2 g0 y1 y2 y3 y4 y5 hz w htab
  ·obtain ⟨F1, F2, F3, F4, F5⟩ := FOUR (by omega) a na sa
   exact rrise_pos nx dx ny dy m8 e8 m1 n1 p r ((r - 1 : Nat) : Int) _ _ _ _ _ _ u v a b _ _ _ _ _ _ _ _ _ _ _ G1 G2 A1 A2 C0 K1 K2 K3 K4 K5 K6 M1 M2 M3 M4 M5 I4 F1 F2 F3 I2 F4 F5 Tab Keeps.tab rworksR w1 w2 t1 t2 g0 y1 y2 y3 y4 y5 hz (by simp; omega) (by omega) (wrap8' (by omega)) w htab
end Go.Proofs.YtdkjckiialnpnaaGreatDoor
namespace Go.Proofs.YtdkjckiialnpnaaGreatDoor
open Go.ChangeShapes Go.WideShapes Go.ChangeAt Go.RowKit Go.Joins
set_option maxRecDepth 100000 in
theorem cellsQ : Tryz.prog.cellsOf 24 = 2 := by kernel_rfl
set_option maxRecDepth 100000 in
theorem q_of {H : Type} {enc : TypeId × Value → H} {W : World} {base : Nat} {v : Value} {d : DataW H} {p : List MemPlace} (hv : Value.okWide Tryz.prog W .any base 24 v)
  (h : DataW.Trod enc Tryz.prog W 0 (fun _ => true) true 24 v d p) : ∃ n e : Int, v = .agg #[.int .i64 n, .int .u32 e] ∧ (-9223372036854775808 ≤ n ∧ n < 9223372036854775808) ∧ (0 ≤ e ∧ e < 4294967296) := by
 obtain ⟨v0, v1, y0, y1, m, rfl, rfl, rfl, h0, h1⟩ := open_agg2 Tryz.underlying24 (by kernel_rfl) cellsQ hv h
 obtain ⟨n, e0, -, f0⟩ := DataW.trod_int Tryz.underlying2 h0
 obtain ⟨e, e1, -, f1⟩ := DataW.trod_int Tryz.underlying22 h1
 simp only [List.cons.injEq, and_true] at e0 e1
 subst e0 e1
 have b0 := bounds_i64 f0
 have b1 := bounds_u32 f1
 exact ⟨n, e, rfl, by omega, by omega⟩
end Go.Proofs.YtdkjckiialnpnaaGreatDoor
