/-
  The law answers true at every input, and leaves its arguments as they were: a part of the proof. CONDITIONS: the package-level tables start as the program's text lays them (the card ties them).
-/
import Derived.Test.YtdkjckiialnpnaaGreatDoorZrd
import Derived.Test.YtdkjckiialnpnaaGreatDoorRows
set_option linter.unusedVariables false
set_option linter.unusedSimpArgs false
namespace Go.Proofs.YtdkjckiialnpnaaGreatDoor
open Go.RowKit
section
variable {w w' : World} {g : Nat} {l : List UInt8}
end
theorem trim_nil (w : World) :
  Calls Tryz.prog 207 #[.slice none 0 0] w fun e w' => e = .returned (.slice none 0 0) ∧ w = w' := by
 go_enter Tryz.func207, Tryz.ntmps207
 go_wp2
 refine wp_loop_rounds 1 ?_
 rw [rounds_succ]
 go_wp2
 go_ret
 exact ⟨rfl, rfl⟩
end Go.Proofs.YtdkjckiialnpnaaGreatDoor
namespace Go.Proofs.YtdkjckiialnpnaaGreatDoor
open Go.Lib (decDigits nDigits)
theorem snoc_ind {α : Type} {p : List α → Prop} (l : List α) (nil : p []) (append_singleton : ∀ m c, p m → p (m ++ [c])) : p l := by
 have h : ∀ r : List α, p r.reverse := by
  intro r
  induction r with
  | nil => exact nil
  | cons c r ih => rw [List.reverse_cons]; exact append_singleton _ _ ih
 have := h l.reverse
 rwa [List.reverse_reverse] at this
/-- The number that decimal digits spell. -/
def dval (l : List UInt8) : Nat := l.foldl (fun n c => n * 10 + (c.toNat - 48)) 0
theorem dval_nil : dval [] = 0 := rfl
theorem dval_snoc (l : List UInt8) (c : UInt8) : dval (l ++ [c]) = dval l * 10 + (c.toNat - 48) := by
 unfold dval; rw [List.foldl_append]; rfl
theorem dval_append (l m : List UInt8) : dval (l ++ m) = dval l * 10 ^ m.length + dval m := by
 induction m using snoc_ind with
 | nil => simp [dval_nil]
 | append_singleton m c ih =>
  rw [← List.append_assoc, dval_snoc, ih, dval_snoc, List.length_append, show [c].length = 1 from rfl, Nat.pow_succ, Nat.add_mul, Nat.mul_assoc]
  omega
def isDig (c : UInt8) : Prop := 48 ≤ c.toNat ∧ c.toNat ≤ 57
theorem dval_lt {l : List UInt8} (h : ∀ c ∈ l, isDig c) : dval l < 10 ^ l.length := by
 induction l using snoc_ind with
 | nil => exact Nat.one_pos
 | append_singleton m c ih =>
  have h1 := ih fun x hx => h x (List.mem_append_left _ hx)
  have h2 := h c (List.mem_append_right _ (List.mem_singleton.2 rfl))
  unfold isDig at h2
  rw [dval_snoc, List.length_append, show [c].length = 1 from rfl, Nat.pow_succ]
  omega
end Go.Proofs.YtdkjckiialnpnaaGreatDoor
namespace Go.Proofs.YtdkjckiialnpnaaGreatDoor
open Go.RowKit
/-- No int lies in a box that holds none. -/
theorem Hd.no_int {w : World} {k : Nat} {c : List Value} (h : Hd w k c) (hc : ∀ v ∈ c, ∀ n, v ≠ .int .i64 n) {a : Addr} {n : Int} (hx : w.cell? a = some (.int .i64 n)) : a.block ≠ k := by
 intro e
 obtain ⟨arr, t, h1, h2⟩ := h.row
 unfold World.cell? at hx
 rw [e, h1] at hx
 simp only at hx
 split at hx
 ·cases hx
 ·rename_i hs
  have ho : a.off < c.length := by
   have := (Array.getElem?_eq_some_iff.1 hx).1
   omega
  have h3 := h.cell a.off ho
  unfold World.cell? at h3
  simp only [h1] at h3
  rw [if_neg (by simp)] at h3
  rw [hx] at h3
  exact hc c[a.off] (List.getElem_mem ho) n (Option.some.inj h3).symm
end Go.Proofs.YtdkjckiialnpnaaGreatDoor
namespace Go.Proofs.YtdkjckiialnpnaaGreatDoor
open Go.RowKit
theorem cmpQ_add (a b c : Rat) : cmpQ (a + c) (b + c) = cmpQ a b := by unfold cmpQ; grind
end Go.Proofs.YtdkjckiialnpnaaGreatDoor
namespace Go.Proofs.YtdkjckiialnpnaaGreatDoor
open Go.RowKit
theorem rtL_lt {x : Rat} (h : 0 ≤ x) : x < (((rtL x : Nat) : Rat) + 1) * (((rtL x : Nat) : Rat) + 1) := by
 have h1 := (isq_spec x.floor.natAbs).2
 have h2 : x.floor + 1 ≤ (((rtL x + 1) * (rtL x + 1) : Nat) : Int) := by have := floor_nn h; unfold rtL; omega
 have h3 := Rat.intCast_le_intCast.2 h2
 have h4 := Rat.lt_floor_add_one x
 have e : (((rtL x + 1) * (rtL x + 1) : Nat) : Rat) = (((rtL x : Nat) : Rat) + 1) * (((rtL x : Nat) : Rat) + 1) := by rw [Rat.natCast_mul, Rat.natCast_add]; rfl
 have h5 : (((((rtL x + 1) * (rtL x + 1) : Nat) : Int) : Int) : Rat) = (((rtL x + 1) * (rtL x + 1) : Nat) : Rat) := rfl
 rw [h5, e] at h3
 grind
theorem rtH_ge {x : Rat} (h : 0 ≤ x) : x ≤ ((rtH x : Nat) : Rat) * ((rtH x : Nat) : Rat) := by
 unfold rtH
 split
 ·rename_i e; rw [e]; exact Rat.le_refl
 ·rw [Rat.natCast_add]; exact Rat.le_of_lt (rtL_lt h)
end Go.Proofs.YtdkjckiialnpnaaGreatDoor
namespace Go.Proofs.YtdkjckiialnpnaaGreatDoor
open Go.RowKit
theorem scale_back (p : Nat) (a : Rat) : a = scaleR p a * (stepR p * stepR p) := by
 have h := stepR_mul p
 unfold scaleR
 have e : a * (twoQ p * twoQ p) * (stepR p * stepR p) = a * ((stepR p * twoQ p) * (stepR p * twoQ p)) := by grind
 rw [e, h]; grind
theorem vv_pos (p : Nat) : 0 < stepR p * stepR p := Rat.mul_pos (stepR_pos p) (stepR_pos p)
theorem sq_mul (z v : Rat) : z * v * (z * v) = z * z * (v * v) := by grind
theorem below_nn (p : Nat) (a : Rat) : 0 ≤ below p a := Rat.mul_nonneg (Rat.natCast_nonneg) (Rat.le_of_lt (stepR_pos p))
theorem above_nn (p : Nat) (a : Rat) : 0 ≤ above p a := Rat.mul_nonneg (Rat.natCast_nonneg) (Rat.le_of_lt (stepR_pos p))
theorem below_le (p : Nat) {a : Rat} (h : 0 ≤ a) : below p a * below p a ≤ a := by
 unfold below
 rw [sq_mul]
 conv => rhs; rw [scale_back p a]
 exact Rat.mul_le_mul_of_nonneg_right (rtL_le (scale_nn p h)) (Rat.le_of_lt (vv_pos p))
theorem above_ge (p : Nat) {a : Rat} (h : 0 ≤ a) : a ≤ above p a * above p a := by
 unfold above
 rw [sq_mul]
 conv => lhs; rw [scale_back p a]
 exact Rat.mul_le_mul_of_nonneg_right (rtH_ge (scale_nn p h)) (Rat.le_of_lt (vv_pos p))
end Go.Proofs.YtdkjckiialnpnaaGreatDoor
namespace Go.Proofs.YtdkjckiialnpnaaGreatDoor
open Go.RowKit
attribute [local irreducible] lo hs sm s64 c64 d64 b64 mh ml pd pc qd qc val hiB str cmpI srD lz isq zl zh zs dval
/-- A fraction of small data. -/
def qmade (n : Int) (d : Nat) : Rat := mkRat n (if d < 1 then 1 else d)
theorem qmade_parts (n : Int) (d : Nat) : (qmade n d).num.natAbs ≤ n.natAbs ∧ (qmade n d).den ≤ (if d < 1 then 1 else d) := by
 unfold qmade
 obtain ⟨h1, h2⟩ := canc (z := n) (d := if d < 1 then 1 else d) (by split <;> omega)
 rw [h1, h2, Int.natAbs_tdiv]
 exact ⟨Nat.div_le_self _ _, Nat.div_le_self _ _⟩
theorem qmade_sz (n : Int) (d : Nat) (h1 : -9223372036854775808 ≤ n) (h2 : n < 9223372036854775808) (h3 : d < 4294967296) : Sz (qmade n d) 1 := by
 obtain ⟨e1, e2⟩ := qmade_parts n d
 exact szc _ (by omega) (by split at e2 <;> omega)
end Go.Proofs.YtdkjckiialnpnaaGreatDoor
namespace Go.Proofs.YtdkjckiialnpnaaGreatDoor
open Go.RowKit
attribute [local irreducible] lo hs sm s64 c64 d64 b64 mh ml pd pc qd qc val hiB str cmpI srD lz nb isq zl zh zs dval
theorem frCs_append (l m : List Rat) : frCs (l ++ m) = frCs l ++ frCs m := by unfold frCs; rw [List.flatMap_append]
theorem frCs_snoc (l : List Rat) (q : Rat) : frCs (l ++ [q]) = frCs l ++ frC q := by rw [frCs_append]; simp [frCs]
end Go.Proofs.YtdkjckiialnpnaaGreatDoor
namespace Go.Proofs.YtdkjckiialnpnaaGreatDoor
open Go.RowKit
attribute [local irreducible] lo hs sm s64 c64 d64 b64 mh ml pd pc qd qc val hiB str cmpI srD lz nb isq zl zh zs fe
theorem slq_one {w : World} {g : Nat} {q : Rat} (h : Hd w g [.int .u64 ((zl q.num : Nat) : Int), .string (zh q.num), .bool (zs q.num), .int .u64 ((lo (fe q) : Nat) : Int), .string (hs (fe q))]) : SlQ w (.slice (some ⟨g, 0, none⟩) 1 1) [q] := by
 refine .inr ⟨g, 1, rfl, fun i hi => ?_, h.lt⟩
 obtain rfl : i = 0 := by simpa using hi
 exact ⟨h.cell 0 (show 0 < 5 by decide), h.cell 1 (show 1 < 5 by decide), h.cell 2 (show 2 < 5 by decide), h.cell 3 (show 3 < 5 by decide), h.cell 4 (show 4 < 5 by decide)⟩
end Go.Proofs.YtdkjckiialnpnaaGreatDoor
namespace Go.Proofs.YtdkjckiialnpnaaGreatDoor
open Go.RowKit
theorem four_rat : ((4 : Int) : Rat) = 4 := rfl
theorem sq_le_sq {x y : Rat} (hx : 0 ≤ x) (h : x ≤ y) : x * x ≤ y * y := by
 have h1 := Rat.mul_le_mul_of_nonneg_right h hx
 have h2 := Rat.mul_le_mul_of_nonneg_left h (Rat.le_trans hx h)
 exact Rat.le_trans h1 h2
theorem le_of_sq {x y : Rat} (hy : 0 ≤ y) (h : x * x ≤ y * y) : x ≤ y := by
 rcases Std.le_total (a := x) (b := y) with h1 | h1
 ·exact h1
 ·rcases Rat.le_iff_lt_or_eq.1 h1 with h2 | h2
  ·have h3 : 0 < (x - y) * (x + y) := Rat.mul_pos (by grind) (by grind)
   grind
  ·rw [h2]; exact Rat.le_refl
theorem lt_of_sq {x y : Rat} (hy : 0 ≤ y) (h : x * x < y * y) : x < y := by
 rcases Std.le_total (a := y) (b := x) with h1 | h1
 ·have := sq_le_sq hy h1
  grind
 ·rcases Rat.le_iff_lt_or_eq.1 h1 with h2 | h2
  ·exact h2
  ·rw [h2] at h; grind
theorem prod_le {a b c d : Rat} (ha : 0 ≤ a) (hd : 0 ≤ d) (h1 : a ≤ c) (h2 : b ≤ d) : a * b ≤ c * d :=
 Rat.le_trans (Rat.mul_le_mul_of_nonneg_left h2 ha) (Rat.mul_le_mul_of_nonneg_right h1 hd)
/-- Where the roots' sum is at most the root of the sum, numbers below are at most one above. -/
theorem sum_under {a b s x y z : Rat} (hx : 0 ≤ x) (hy : 0 ≤ y) (hz : 0 ≤ z) (ha : 0 ≤ a) (hb : 0 ≤ b) (h1 : x * x ≤ a) (h2 : y * y ≤ b) (h3 : s ≤ z * z) (hr : 0 ≤ s - (a + b)) (h : 4 * (a * b) ≤ (s - (a + b)) * (s - (a + b))) : x + y ≤ z := by
 have hxy := Rat.mul_nonneg hx hy
 have h4 : (x * x) * (y * y) ≤ a * b := prod_le (Rat.mul_nonneg hx hx) hb h1 h2
 have h5 : 2 * (x * y) ≤ s - (a + b) := le_of_sq hr (by grind)
 exact le_of_sq hz (by grind)
theorem sum_over {a b s x y z : Rat} (hx : 0 ≤ x) (hy : 0 ≤ y) (ha : 0 ≤ a) (hb : 0 ≤ b) (h1 : a ≤ x * x) (h2 : b ≤ y * y) (h3 : z * z ≤ s) (h : s - (a + b) < 0 ∨ (s - (a + b)) * (s - (a + b)) ≤ 4 * (a * b)) : z ≤ x + y := by
 have hxy := Rat.mul_nonneg hx hy
 have h4 : a * b ≤ (x * x) * (y * y) := prod_le ha (Rat.mul_nonneg hy hy) h1 h2
 refine le_of_sq (by grind) ?_
 rcases h with h | h
 ·grind
 ·have h5 : s - (a + b) ≤ 2 * (x * y) := le_of_sq (by grind) (by grind)
  grind
theorem ordQ_neg {a b s : Rat} (h : ordQ a b s < 0) : 0 ≤ s - (a + b) ∧ 4 * (a * b) ≤ (s - (a + b)) * (s - (a + b)) := by
 unfold ordQ cmpQ at h
 rw [four_rat] at h
 split at h
 ·omega
 ·split at h
  ·constructor <;> grind
  ·split at h <;> omega
theorem ordQ_zero {a b s : Rat} (h : ordQ a b s = 0) : 0 ≤ s - (a + b) ∧ 4 * (a * b) = (s - (a + b)) * (s - (a + b)) := by
 unfold ordQ cmpQ at h
 rw [four_rat] at h
 split at h
 ·omega
 ·split at h
  ·omega
  ·split at h
   ·constructor <;> grind
   ·omega
theorem ordQ_pos {a b s : Rat} (h : 0 < ordQ a b s) : s - (a + b) < 0 ∨ (s - (a + b)) * (s - (a + b)) ≤ 4 * (a * b) := by
 unfold ordQ cmpQ at h
 rw [four_rat] at h
 split at h
 ·left; assumption
 ·right
  split at h
  ·omega
  ·grind
/-- The sum of two roots against the root of the sum. -/
theorem ordQ_two {a b : Rat} (ha : 0 ≤ a) (hb : 0 ≤ b) : 0 ≤ ordQ a b (a + b) ∧ (ordQ a b (a + b) = 0 ↔ a = 0 ∨ b = 0) := by
 have e : a + b - (a + b) = 0 := by grind
 have hab := Rat.mul_nonneg ha hb
 unfold ordQ cmpQ
 rw [four_rat, e, if_neg (by grind), Rat.zero_mul, if_neg (by grind)]
 have h4 : (4 : Rat) * (a * b) = 0 ↔ a = 0 ∨ b = 0 := by
  constructor
  ·intro h
   have : a * b = 0 := by grind
   exact Rat.mul_eq_zero.1 this
  ·rintro (h | h) <;> rw [h] <;> grind
 split
 ·rename_i h; exact ⟨by omega, fun _ => h4.1 h, fun _ => rfl⟩
 ·rename_i h; exact ⟨by omega, fun e => by omega, fun g => absurd (h4.2 g) h⟩
theorem cmp_sq {x y : Rat} (hx : 0 ≤ x) (hy : 0 ≤ y) : cmpQ (x * x) (y * y) = cmpQ x y := by
 unfold cmpQ
 by_cases h : x < y
 ·have : x * x < y * y := by
   have := sq_le_sq hx (Rat.le_of_lt h)
   rcases Rat.le_iff_lt_or_eq.1 this with h1 | h1
   ·exact h1
   ·have h2 : 0 < (y - x) * (y + x) := Rat.mul_pos (by grind) (by grind)
    grind
  rw [if_pos h, if_pos this]
 ·by_cases h1 : x = y
  ·subst h1; rw [if_neg h, if_neg (by grind)]; simp
  ·have h2 : y < x := by grind
   have h3 : ¬ x * x < y * y := fun g => h (lt_of_sq hy g)
   have h4 : x * x ≠ y * y := fun g => h1 (Rat.le_antisymm (le_of_sq hy (by rw [g]; exact Rat.le_refl)) (le_of_sq hx (by rw [g]; exact Rat.le_refl)))
   rw [if_neg h, if_neg h1, if_neg h3, if_neg h4]
/-- For squares the order is that of the numbers. -/
theorem ordQ_squares {a b s : Rat} (ha : 0 ≤ a) (hb : 0 ≤ b) (hs : 0 ≤ s) : ordQ (a * a) (b * b) (s * s) = cmpQ (a + b) s := by
 have hab := Rat.mul_nonneg ha hb
 unfold ordQ
 rw [four_rat]
 split
 ·rename_i h
  have h1 : s < a + b := lt_of_sq (by grind) (by grind)
  unfold cmpQ
  rw [if_neg (by grind), if_neg (by grind)]
 ·rename_i h
  have e : 4 * (a * a * (b * b)) = (2 * (a * b)) * (2 * (a * b)) := by grind
  rw [e, cmp_sq (by grind) (by grind), ← cmp_sq (x := a + b) (y := s) (by grind) hs]
  have e1 : (a + b) * (a + b) = 2 * (a * b) + (a * a + b * b) := by grind
  have e2 : s * s = (s * s - (a * a + b * b)) + (a * a + b * b) := by grind
  rw [e1]
  conv => rhs; rw [e2]
  rw [cmpQ_add]
end Go.Proofs.YtdkjckiialnpnaaGreatDoor
namespace Go.Proofs.YtdkjckiialnpnaaGreatDoor
open Go.RowKit
section
variable {P : Program} {ops : Array Oper} {C : World → Prop}
/-- What an operation does: its value has the property in the world that it leaves. -/
def tyUpon (P : Program) (w : World) (T : Value → World → Prop) : Result Next → Prop
 | .ok (.value u) w' => Below w.heap.size w w' ∧ T u w'
 | .ok .skip w' => Below w.heap.size w w' ∧ T undef w'
 | .ok (.enter f args) w' => w' = w ∧ Calls P f args w (fun e w'' => ∃ u, e = .returned u ∧ T u w'' ∧ Below w.heap.size w w'')
 | _ => False
def TyAt (P : Program) (ops : Array Oper) (o : Oper) (a : Act) (w : World) (T : Value → World → Prop) : Prop :=
 if Region.wanted o (yielded ops a.tmps) then tyUpon P w T ((execOp a.eval o).run P w) else T undef w
theorem tyAt_none {o : Oper} {a : Act} {w : World} {T : Value → World → Prop} (hg : o.guard = none) (h : tyUpon P w T ((execOp a.eval o).run P w)) : TyAt P ops o a w T := by
 unfold TyAt
 rw [if_pos (by unfold Region.wanted; rw [hg])]
 exact h
/-- A call whose contract gives the property. -/
theorem ty_call {o : Oper} {a : Act} {w : World} {T : Value → World → Prop} {f : FuncId} {args : Array Value} (hr : (execOp a.eval o).run P w = .ok (.enter f args) w) (h : Calls P f args w fun e w'' => ∃ u, e = .returned u ∧ T u w'' ∧ Below w.heap.size w w'') : tyUpon P w T ((execOp a.eval o).run P w) := by
 rw [hr]; exact ⟨rfl, h⟩
/-- The frame with the values of the operations that have come up. -/
def putsIf : List Oper → Nat → (Nat → Bool) → (Nat → Value) → Act → Act
 | [], _, _, _, a => a
 | o :: l, k, b, v, a => putsIf l (k + 1) b v (if b k then a.put o.dst (v k) else a)
def putsV : List Oper → Nat → (Nat → Value) → Act → Act
 | [], _, _, a => a
 | o :: l, k, v, a => putsV l (k + 1) v (a.put o.dst (v k))
theorem putsIf_all {v : Nat → Value} {b : Nat → Bool} : ∀ (l : List Oper) (k : Nat) (a : Act), (∀ i, k ≤ i → i < k + l.length → b i = true) → putsIf l k b v a = putsV l k v a
 | [], _, _, _ => rfl
 | o :: l, k, a, h => by
  rw [putsIf, putsV, if_pos (h k (Nat.le_refl k) (by rw [List.length_cons]; omega))]
  exact putsIf_all l (k + 1) _ fun i h1 h2 => h i (by omega) (by rw [List.length_cons]; omega)
theorem putsIf_none {v : Nat → Value} {b : Nat → Bool} : ∀ (l : List Oper) (k : Nat) (a : Act), (∀ i, k ≤ i → i < k + l.length → b i = false) → putsIf l k b v a = a
 | [], _, _, _ => rfl
 | o :: l, k, a, h => by
  rw [putsIf, if_neg (by rw [h k (Nat.le_refl k) (by rw [List.length_cons]; omega)]; exact Bool.false_ne_true)]
  exact putsIf_none l (k + 1) _ fun i h1 h2 => h i (by omega) (by rw [List.length_cons]; omega)
theorem putsIf_congr {v v' : Nat → Value} {b b' : Nat → Bool} : ∀ (l : List Oper) (k : Nat) (a : Act), (∀ i, k ≤ i → i < k + l.length → b i = b' i ∧ (b i = true → v i = v' i)) → putsIf l k b v a = putsIf l k b' v' a
 | [], _, _, _ => rfl
 | o :: l, k, a, h => by
  obtain ⟨h1, h2⟩ := h k (Nat.le_refl k) (by rw [List.length_cons]; omega)
  rw [putsIf, putsIf]
  have e : (if b k = true then a.put o.dst (v k) else a) = (if b' k = true then a.put o.dst (v' k) else a) := by
   rw [← h1]
   by_cases hb : b k = true
   ·rw [if_pos hb, if_pos hb, h2 hb]
   ·rw [if_neg hb, if_neg hb]
  rw [e]
  exact putsIf_congr l (k + 1) _ fun i h1 h2 => h i (by omega) (by rw [List.length_cons]; omega)
/-- No two of them write one slot. -/
def apartD (d : Option Tmp) (l : List Oper) : Bool := l.all fun o => match d, o.dst with
 | some x, some y => !(x == y)
 | _, _ => true
def nodupD : List Oper → Bool
 | [] => true
 | o :: l => apartD o.dst l && nodupD l
theorem apartD_spec {d : Option Tmp} {l : List Oper} (h : apartD d l = true) {o : Oper} (ho : o ∈ l) {x : Tmp} (hx : d = some x) : o.dst ≠ some x := by
 intro e
 have := (List.all_eq_true.1 h) o ho
 subst hx
 simp only [e] at this
 simp at this
theorem put_late {v : Nat → Value} {b : Nat → Bool} {d : Option Tmp} {u : Value} : ∀ (l : List Oper) (k : Nat) (a : Act), apartD d l = true → putsIf l k b v (a.put d u) = (putsIf l k b v a).put d u
 | [], _, _, _ => rfl
 | o :: l, k, a, h => by
  have h0 := h
  simp only [apartD, List.all_cons, Bool.and_eq_true] at h
  rw [putsIf, putsIf]
  by_cases hb : b k = true
  ·rw [if_pos hb, if_pos hb]
   have : (a.put d u).put o.dst (v k) = (a.put o.dst (v k)).put d u := by
    cases d with
    | none => rfl
    | some x =>
     cases ho : o.dst with
     | none => rfl
     | some y =>
      have hne : y ≠ x := fun e => apartD_spec h0 List.mem_cons_self rfl (by rw [ho, e])
      exact Act.put_comm a u (v k) (fun d hd e => hne (Option.some.inj (e.trans hd.symm)))
   rw [this]
   exact put_late l (k + 1) _ h.2
  ·rw [if_neg hb, if_neg hb]; exact put_late l (k + 1) _ h.2
theorem put_at {v v' : Nat → Value} {b b' : Nat → Bool} {j : Nat} {u : Value} (hb : b j = false) (hb' : b' j = true) (hv : v' j = u) (hbb : ∀ i, i ≠ j → b' i = b i ∧ v' i = v i) :
  ∀ (l : List Oper) (k : Nat) (a : Act) (o : Oper), nodupD l = true → k ≤ j → l[j - k]? = some o → (putsIf l k b v a).put o.dst u = putsIf l k b' v' a
 | [], _, _, _, _, _, h => by simp at h
 | o1 :: l, k, a, o, hn, hk, h => by
  simp only [nodupD, Bool.and_eq_true] at hn
  rw [putsIf, putsIf]
  by_cases e : j = k
  ·subst e
   simp only [Nat.sub_self, List.getElem?_cons_zero, Option.some.injEq] at h
   subst h
   rw [if_neg (by rw [hb]; exact Bool.false_ne_true), if_pos hb', hv, ← put_late l (j + 1) a hn.1]
   exact putsIf_congr l (j + 1) _ fun i h1 h2 => ⟨(hbb i (by omega)).1.symm, fun _ => (hbb i (by omega)).2.symm⟩
  ·have hk' : k + 1 ≤ j := by omega
   rw [show j - k = (j - (k + 1)) + 1 by omega, List.getElem?_cons_succ] at h
   obtain ⟨h1, h2⟩ := hbb k (fun e' => e e'.symm)
   rw [h1, h2]
   exact put_at hb hb' hv hbb l (k + 1) _ o hn.2 hk' h
theorem put_get (a : Act) (d : Option Tmp) (u : Value) (t : Nat) : (a.put d u).tmps[t]? = if d = some t then (if t < a.tmps.size then some u else none) else a.tmps[t]? := by
 cases d with
 | none => simp [Act.put]
 | some x =>
  simp only [Act.put, Array.getElem?_setIfInBounds, Option.some.injEq]
  by_cases h : x = t
  ·subst h; simp
  ·simp [h]
theorem get_puts {v : Nat → Value} {b : Nat → Bool} {t : Nat} : ∀ (l : List Oper) (k : Nat) (a a' : Act), a.tmps[t]? = a'.tmps[t]? → (∀ i o, l[i]? = some o → o.dst = some t → b (k + i) = true) → (putsIf l k b v a).tmps[t]? = (putsV l k v a').tmps[t]?
 | [], _, _, _, h, _ => h
 | o :: l, k, a, a', h, hd => by
  rw [putsIf, putsV]
  refine get_puts l (k + 1) _ _ ?_ fun i o' ho' hd' => by have := hd (i + 1) o' (by simpa using ho') hd'; rwa [show k + (i + 1) = k + 1 + i by omega] at this
  have hsz : t < a.tmps.size ↔ t < a'.tmps.size := by
   constructor <;> intro h1
   ·rw [Array.getElem?_eq_getElem h1] at h; exact (Array.getElem?_eq_some_iff.1 h.symm).1
   ·rw [Array.getElem?_eq_getElem h1] at h; exact (Array.getElem?_eq_some_iff.1 h).1
  by_cases e : o.dst = some t
  ·have hb := hd 0 o (by simp) e
   rw [Nat.add_zero] at hb
   rw [if_pos hb, put_get, put_get, if_pos e, if_pos e]
   by_cases h2 : t < a.tmps.size
   ·rw [if_pos h2, if_pos (hsz.1 h2)]
   ·rw [if_neg h2, if_neg fun h3 => h2 (hsz.2 h3)]
  ·by_cases hb : b k = true
   ·rw [if_pos hb, put_get, put_get, if_neg e, if_neg e]; exact h
   ·rw [if_neg hb, put_get, if_neg e]; exact h
theorem wanted_same {a a' : Act} {o : Oper} (h : ∀ t ∈ o.looksAt ops, a.tmps[t]? = a'.tmps[t]?) : Region.wanted o (yielded ops a.tmps) = Region.wanted o (yielded ops a'.tmps) := by
 unfold Region.wanted
 cases hg : o.guard with
 | none => rfl
 | some gw =>
  obtain ⟨gg, want⟩ := gw
  have hy : yielded ops a.tmps gg = yielded ops a'.tmps gg := by
   unfold yielded
   cases ht : (ops[gg]?).bind (·.dst) with
   | none => rfl
   | some t =>
    have := h t (List.mem_append_right _ (by simp [hg, ht]))
    simp [this]
  simp only [hy]
theorem exec_same {a a' : Act} {o : Oper} (hs : ∀ cs b, o.op ≠ .select cs b) (h : ∀ t ∈ o.looksAt ops, a.tmps[t]? = a'.tmps[t]?) : execOp a.eval o = execOp a'.eval o :=
 execOp_congr o hs fun x hx => by
  cases x with
  | tmp t =>
   have ht : t ∈ o.looksAt ops := List.mem_append_left _ (List.mem_filterMap.2 ⟨_, by simpa using hx, rfl⟩)
   simp only [Act.eval, Array.getD_eq_getD_getElem?, h t ht]
  | _ => rfl
/-- Each of the first n waits for earlier ones alone, and for each of them that writes a slot that it looks at. -/
def depB (ops : Array Oper) (n : Nat) : Bool :=
 (List.range n).all fun j => (predsOf .any ops j).all (fun i => decide (i < j)) && match ops[j]? with
  | some o => (o.looksAt ops).all fun t => (List.range n).all fun i => match (ops[i]?).bind (·.dst) with
    | some d => !(d == t) || (predsOf .any ops j).contains i
    | none => true
  | none => true
theorem depB_pred {n j i : Nat} (h : depB ops n = true) (hj : j < n) (hi : i ∈ predsOf .any ops j) : i < j := by
 simp only [depB, List.all_eq_true, List.mem_range, Bool.and_eq_true, decide_eq_true_eq] at h
 exact (h j hj).1 i hi
theorem depB_looks {n j i : Nat} (h : depB ops n = true) (hj : j < n) (hi : i < n) {o o' : Oper} (ho : ops[j]? = some o) (ho' : ops[i]? = some o') {t : Tmp} (ht : t ∈ o.looksAt ops) (hd : o'.dst = some t) : i ∈ predsOf .any ops j := by
 simp only [depB, List.all_eq_true, List.mem_range, Bool.and_eq_true, decide_eq_true_eq] at h
 have h1 := (h j hj).2
 rw [ho] at h1
 simp only [List.all_eq_true, List.mem_range] at h1
 have h2 := h1 t ht i hi
 rw [ho'] at h2
 simp only [Option.bind_some, hd, beq_self_eq_true, Bool.not_true, Bool.false_or] at h2
 exact List.contains_iff_mem.1 h2
/-- A property that later worlds keep. -/
def Stays (T : Value → World → Prop) : Prop := ∀ v w w', Below w.heap.size w w' → T v w → T v w'
theorem left_zero {n : Nat} {listed : Array Bool} (h : left n listed = 0) : doneN n listed = true := by
 refine doneN_iff.2 fun i hi => ?_
 have := (List.countP_eq_zero.1 h) i (List.mem_range.2 hi)
 simpa using this
theorem left_some {n m : Nat} {listed : Array Bool} (h : left n listed = m + 1) : doneN n listed = false := by
 refine Bool.eq_false_iff.2 fun hd => ?_
 have : left n listed = 0 := List.countP_eq_zero.2 fun i hi => by simp [doneN_iff.1 hd i (List.mem_range.1 hi)]
 omega
theorem countP_drop {p q : Nat → Bool} {j : Nat} (hpq : ∀ i, i ≠ j → q i = p i) (hp : p j = true) (hq : q j = false) : ∀ (r : List Nat), r.Nodup → j ∈ r → r.countP p = r.countP q + 1
 | [], _, h => by cases h
 | x :: r, hn, h => by
  rw [List.nodup_cons] at hn
  rcases List.mem_cons.1 h with rfl | h
  ·rw [List.countP_cons_of_pos hp, List.countP_cons_of_neg (by rw [hq]; exact Bool.false_ne_true)]
   congr 1
   refine List.countP_congr fun i hi => ?_
   rw [hpq i (fun e => hn.1 (e ▸ hi))]
  ·have hx : x ≠ j := fun e => hn.1 (e ▸ h)
   have ih := countP_drop hpq hp hq r hn.2 h
   by_cases hpx : p x = true
   ·rw [List.countP_cons_of_pos hpx, List.countP_cons_of_pos (by rw [hpq x hx]; exact hpx), ih]
   ·rw [List.countP_cons_of_neg hpx, List.countP_cons_of_neg (by rw [hpq x hx]; exact hpx), ih]
theorem left_set {n j m : Nat} {listed : Array Bool} (hs : listed.size = ops.size) (hj : j < n) (hjs : j < ops.size) (hu : listed.getD j false = false) (h : left n listed = m + 1) : left n (listed.setIfInBounds j true) = m := by
 have := countP_drop (p := fun i => !listed.getD i false) (q := fun i => !(listed.setIfInBounds j true).getD i false) (j := j) (fun i hi => by simp only [getD_set_ne false (fun e => hi e.symm)]) (by simp [hu]) (by simp [hs, hjs]) (List.range n) List.nodup_range (List.mem_range.2 hj)
 unfold left at h ⊢
 omega
theorem ready_some {n m : Nat} {listed : Array Bool} (hs : listed.size = ops.size) (hn : n ≤ ops.size) (hD : depB ops n = true) (h : left n listed = m + 1) : Region.ready .any ops listed ≠ [] := by
  have hnd := left_some h
  have ex : ∃ i, i < n ∧ listed.getD i false = false := Classical.byContradiction fun hc => by
    have : doneN n listed = true := doneN_iff.2 fun i hi => by
      cases hv : listed.getD i false with
      | true => rfl
      | false => exact absurd ⟨i, hi, hv⟩ hc
    rw [this] at hnd; cases hnd
  have key : ∀ k i, i ≤ k → i < n → listed.getD i false = false → ∃ i, i ∈ Region.ready .any ops listed := by
    intro k
    induction k with
    | zero =>
      intro i hi h1 h2
      obtain rfl : i = 0 := by omega
      have ho : 0 < ops.size := by omega
      refine ⟨0, mem_ready.2 ⟨by have h3 : 0 < listed.size := by omega
                                 simpa [h3] using h2, ops[0], Array.getElem?_eq_getElem ho, fun e he hb => ?_⟩⟩
      have : e.on ∈ predsOf .any ops 0 := by
        unfold predsOf; rw [Array.getElem?_eq_getElem ho]
        exact List.mem_map.2 ⟨e, List.mem_filter.2 ⟨by simpa using he, hb⟩, rfl⟩
      have := depB_pred hD h1 this
      omega
    | succ k ih =>
      intro i hi h1 h2
      have ho : i < ops.size := by omega
      by_cases hall : ∀ p ∈ predsOf .any ops i, listed.getD p false = true
      · refine ⟨i, mem_ready.2 ⟨by have h3 : i < listed.size := by omega
                                   simpa [h3] using h2, ops[i], Array.getElem?_eq_getElem ho, fun e he hb => hall _ ?_⟩⟩
        unfold predsOf; rw [Array.getElem?_eq_getElem ho]
        exact List.mem_map.2 ⟨e, List.mem_filter.2 ⟨by simpa using he, hb⟩, rfl⟩
      · have : ∃ p, p ∈ predsOf .any ops i ∧ listed.getD p false = false := Classical.byContradiction fun hc => hall fun p hp => by
          cases hv : listed.getD p false with
          | true => rfl
          | false => exact absurd ⟨p, hp, hv⟩ hc
        obtain ⟨p, hp, hv⟩ := this
        have := depB_pred hD h1 hp
        exact ih p (by omega) (by omega) hv
  obtain ⟨i, h1, h2⟩ := ex
  obtain ⟨i, hi⟩ := key i i (Nat.le_refl _) h1 h2
  exact List.ne_nil_of_mem hi
theorem preds_of_ready {j : Nat} {listed : Array Bool} (hj : j ∈ Region.ready .any ops listed) : ∀ p ∈ predsOf .any ops j, listed.getD p false = true := by
 obtain ⟨-, o, ho, hall⟩ := mem_ready.1 hj
 intro p hp
 unfold predsOf at hp
 simp only [ho, List.mem_map, List.mem_filter] at hp
 obtain ⟨e, ⟨he, hb⟩, rfl⟩ := hp
 exact hall e (by simpa using he) hb
theorem wpAny_ty {n s : Nat} {l : List Oper} {T : Nat → Value → World → Prop} {w0 : World} {a0 : Act} {Q : Exit → Act → World → Prop} (hT : ∀ i, Stays (T i)) (hsel : Region.noSelect l.toArray = true) (hn : n ≤ l.length)
  (hB : barB .any l.toArray n = true) (hN : nodupD (l.take n) = true) (hD : depB l.toArray n = true)
  (hops : ∀ j o, j < n → l[j]? = some o → ∀ v w, Below w0.heap.size w0 w → (∀ p ∈ predsOf .any l.toArray j, T p (v p) w) → TyAt P l.toArray o (putsV (l.take n) 0 v a0) w (T j))
  (hend : ∀ v w, Below w0.heap.size w0 w → (∀ i, i < n → T i (v i) w) → wpAny P .any l.toArray Q s (canonL l.length n) (putsV (l.take n) 0 v a0) w) :
  ∀ (m : Nat) (listed : Array Bool) (v : Nat → Value) (w : World), left n listed = m → closedL .any l.toArray listed → sufL n l.toArray listed → Below w0.heap.size w0 w →
   (∀ i, i < n → listed.getD i false = true → T i (v i) w) → wpAny P .any l.toArray Q (s + m) listed (putsIf (l.take n) 0 (fun i => listed.getD i false) v a0) w := by
 intro m
 have hlen : (l.take n).length = n := by rw [List.length_take]; omega
 induction m with
 | zero =>
  intro listed v w hl hc hu hb ht
  have hd := left_zero hl
  rw [putsIf_all (l.take n) 0 a0 fun i _ h2 => doneN_iff.1 hd i (by omega)]
  have e := canon_of hu hd
  rw [show l.toArray.size = l.length by simp] at e
  rw [e]
  exact hend v w hb fun i hi => ht i hi (doneN_iff.1 hd i hi)
 | succ m ih =>
  intro listed v w hl hc hu hb ht
  have hnd := left_some hl
  refine ⟨fun h0 => absurd h0 (ready_some hu.1 (by simpa using hn) hD hl), fun j hj => ?_⟩
  have hjn := bar hB hc hj hnd
  obtain ⟨hju, o, ho, -⟩ := mem_ready.1 hj
  have hpre := preds_of_ready hj
  have hol : l[j]? = some o := by simpa using ho
  have hjs : j < l.toArray.size := (Array.getElem?_eq_some_iff.1 ho).1
  have hty := hops j o hjn hol v w hb fun p hp => ht p (by have := depB_pred hD hjn hp; omega) (hpre p hp)
  have hag : ∀ t ∈ o.looksAt l.toArray, (putsIf (l.take n) 0 (fun i => listed.getD i false) v a0).tmps[t]? = (putsV (l.take n) 0 v a0).tmps[t]? := fun t ht' =>
   get_puts (l.take n) 0 a0 a0 rfl fun i o' ho' hd' => by
    have hin : i < n := by rw [← hlen]; exact (List.getElem?_eq_some_iff.1 ho').1
    have ho2 : l.toArray[i]? = some o' := by rw [List.getElem?_take, if_pos hin] at ho'; simpa using ho'
    rw [Nat.zero_add]
    exact hpre i (depB_looks hD hjn hin ho ho2 ht' hd')
  have step : ∀ u w', Below w.heap.size w w' → T j u w' → wpAny P .any l.toArray Q (s + m) (listed.setIfInBounds j true) ((putsIf (l.take n) 0 (fun i => listed.getD i false) v a0).put o.dst u) w' := by
   intro u w' hw' hu'
   have e := put_at (v := v) (v' := fun i => if i = j then u else v i) (b := fun i => listed.getD i false) (b' := fun i => (listed.setIfInBounds j true).getD i false) (j := j) (u := u) (unl hju) (by simp [hu.1]; simpa using hjs) (by simp)
    (fun i hi => ⟨getD_set_ne false fun e => hi e.symm, by simp [hi]⟩) (l.take n) 0 a0 o hN (Nat.zero_le _) (by rw [Nat.sub_zero, List.getElem?_take, if_pos hjn]; exact hol)
   rw [e]
   refine ih _ _ w' (left_set (ops := l.toArray) hu.1 hjn hjs (unl hju) hl) (hc.set hj) ⟨by simpa using hu.1, fun k hk hks => by rw [getD_set_ne true (by omega)]; exact hu.2 k hk hks⟩ (hb.trans (hw'.mono hb.size)) fun i hi hli => ?_
   by_cases e : i = j
   ·subst e; simpa using hu'
   ·rw [getD_set_ne false fun e' => e e'.symm] at hli
    simp only [if_neg e]
    exact hT i _ _ _ hw' (ht i hi hli)
  unfold wpOp
  simp only [ho]
  unfold TyAt at hty
  rw [← wanted_same hag] at hty
  by_cases hw : Region.wanted o (yielded l.toArray (putsIf (l.take n) 0 (fun i => listed.getD i false) v a0).tmps) = true
  ·simp only [hw, if_true] at hty ⊢
   refine .inl ?_
   unfold Oper.wp
   rw [exec_same (fun cs b => Region.noSelect_spec hsel j o cs b ho) hag]
   generalize (execOp (putsV (l.take n) 0 v a0).eval o).run P w = r at *
   cases r with
   | ok nx w' =>
    cases nx <;> simp only [tyUpon] at hty <;> simp only [Oper.upon]
    case value u => exact step u w' hty.1 hty.2
    case skip => exact step undef w' hty.1 hty.2
    case enter f args =>
     obtain ⟨rfl, hcall⟩ := hty
     exact hcall.mono fun e w'' ⟨u, he, h1, h2⟩ => by subst he; exact step u w'' h2 h1
   | halt x w' => simp only [tyUpon] at hty
  ·simp only [hw] at hty ⊢
   exact step undef w (Below.refl _ _) hty
def tyB (n : Nat) (l : List Oper) : Bool :=
 Region.noSelect l.toArray && decide (n ≤ l.length) && barB .any l.toArray n && nodupD (l.take n) && depB l.toArray n && seqB .any l.toArray (l.length - n) n (canonL l.length n)
/-- **A region whose first n operations each give a value of a property; then the others, in their order.** -/
theorem region_ty (n : Nat) (T : Nat → Value → World → Prop) {id : Nat} {Q : Exit → Act → World → Prop} {a : Act} {w : World} {l : List Oper} (hm : P.follows .mixedOrders = true) (hB : tyB n l = true) (hT : ∀ i, Stays (T i))
  (hops : ∀ j o, j < n → l[j]? = some o → ∀ v w1, Below w.drew.heap.size w.drew w1 → (∀ p ∈ predsOf .any l.toArray j, T p (v p) w1) → TyAt P l.toArray o (putsV (l.take n) 0 v a) w1 (T j))
  (hend : ∀ v w1, Below w.drew.heap.size w.drew w1 → (∀ i, i < n → T i (v i) w1) → wpList P l.toArray Q (l.drop n) (putsV (l.take n) 0 v a) w1) : (Code.region id l.toArray true).wp P Q a w := by
 simp only [tyB, Bool.and_eq_true, decide_eq_true_eq] at hB
 obtain ⟨⟨⟨⟨⟨hs, hn⟩, hb⟩, hN⟩, hD⟩, hq⟩ := hB
 refine wp_region_any hm ?_
 have hrep : ∀ i, (Array.replicate l.length false).getD i false = false := fun i => by
  rcases Nat.lt_or_ge i l.length with h' | h' <;> simp [h']
 have h0 : closedL .any l.toArray (Array.replicate l.length false) := fun j o _ hl => by rw [hrep] at hl; cases hl
 have hleft : left n (Array.replicate l.length false) = n := by
  unfold left
  rw [List.countP_eq_length.2 fun i _ => by rw [hrep]; rfl, List.length_range]
 have h2 := wpAny_ty (P := P) (s := l.length - n) (Q := Q) (a0 := a) hT hs hn hb hN hD hops (fun v w1 h1 h2 => by
   have h3 := wpAny_of_seq (md := .any) (P := P) (Q' := Q) (l.drop n) n (canonL l.length n) (putsV (l.take n) 0 v a) w1 (fun j hj => by simp [List.getElem?_drop]) (by rw [List.length_drop]; exact hq) (hend v w1 h1 h2)
   rw [List.length_drop] at h3
   exact h3) n (Array.replicate l.length false) (fun _ => undef) w.drew hleft h0 ⟨by simp, fun j _ hj => by simp at hj; simp [hj]⟩ (Below.refl _ _) (fun i _ hl => by rw [hrep] at hl; cases hl)
 rw [putsIf_none (l.take n) 0 a fun i _ _ => hrep i, Nat.sub_add_cancel hn] at h2
 simpa using h2
theorem stays_nil : ∀ i : Nat, Stays (([] : List (Value → World → Prop)).getD i (fun _ _ => True)) := fun i => by simp [Stays]
theorem stays_cons {T : Value → World → Prop} {L : List (Value → World → Prop)} (h : Stays T) (hL : ∀ i : Nat, Stays (L.getD i (fun _ _ => True))) : ∀ i : Nat, Stays ((T :: L).getD i (fun _ _ => True))
 | 0 => h
 | i + 1 => by simpa using hL i
theorem stays_eq (c : Value) : Stays (fun u _ => u = c) := fun _ _ _ _ h => h
/-- The operations, one obligation each. -/
def hopsR (P : Program) (ops : Array Oper) (T : Nat → Value → World → Prop) (w0 : World) (F : (Nat → Value) → Act) : List Oper → Nat → Prop
 | [], _ => True
 | o :: l, k => (∀ v w1, Below w0.heap.size w0 w1 → (∀ p ∈ predsOf .any ops k, T p (v p) w1) → TyAt P ops o (F v) w1 (T k)) ∧ hopsR P ops T w0 F l (k + 1)
theorem hops_of {T : Nat → Value → World → Prop} {w0 : World} {F : (Nat → Value) → Act} : ∀ (l : List Oper) (k : Nat), hopsR P ops T w0 F l k → ∀ j o, l[j]? = some o → ∀ v w1, Below w0.heap.size w0 w1 → (∀ p ∈ predsOf .any ops (k + j), T p (v p) w1) → TyAt P ops o (F v) w1 (T (k + j))
 | [], _, _, j, o, h => by simp at h
 | o' :: l, k, hh, 0, o, h => by
  simp only [List.getElem?_cons_zero, Option.some.injEq] at h
  subst h; exact hh.1
 | o' :: l, k, hh, j + 1, o, h => by
  have := hops_of l (k + 1) hh.2 j o (by simpa using h)
  rwa [show k + 1 + j = k + (j + 1) by omega] at this
/-- region_ty, with its properties as a list. -/
theorem region_tl (n : Nat) (L : List (Value → World → Prop)) {id : Nat} {Q : Exit → Act → World → Prop} {a : Act} {w : World} {l : List Oper} (hm : P.follows .mixedOrders = true) (hB : tyB n l = true) (hT : ∀ i, Stays (L.getD i (fun _ _ => True)))
  (hops : hopsR P l.toArray (fun i => L.getD i (fun _ _ => True)) w.drew (fun v => putsV (l.take n) 0 v a) (l.take n) 0)
  (hend : ∀ v w1, Below w.drew.heap.size w.drew w1 → (∀ i, i < n → L.getD i (fun _ _ => True) (v i) w1) → wpList P l.toArray Q (l.drop n) (putsV (l.take n) 0 v a) w1) : (Code.region id l.toArray true).wp P Q a w :=
 region_ty n (fun i => L.getD i (fun _ _ => True)) hm hB hT (fun j o hj ho v w1 hb hp => by
  have := hops_of (l.take n) 0 hops j o (by rw [List.getElem?_take, if_pos hj]; exact ho) v w1 hb (by rw [Nat.zero_add]; exact hp)
  rwa [Nat.zero_add] at this) hend
end
end Go.Proofs.YtdkjckiialnpnaaGreatDoor
namespace Go.Proofs.YtdkjckiialnpnaaGreatDoor
open Go.RowKit
attribute [local irreducible] lo hs sm s64 c64 d64 b64 mh ml pd pc qd qc val hiB str cmpI srD lz nb isq zl zh zs
set_option maxHeartbeats 4000000 in
set_option maxRecDepth 100000 in
theorem qof_zero (n x c : Int) (f : Nat) (HF : RT 32 #[.int .i64 n, .int .i64 1] (.tuple #[frV x f, .int .i64 c])) (hmx : max (0 : Int) 1 = 1) (w : World) :
  Calls Tryz.prog 16 #[.agg #[.int .i64 n, .int .u32 0]] w fun xe w' => xe = .returned (frV x f) ∧ Below w.heap.size w w' := by
 have hL0 : GL w w [] := GL.start w
 replace HF := Lib.hid HF
 replace hL0 := ((hL0.new rfl [.int .i64 n, .int .u32 0] 24).new (K := w.heap.size + 1) (szA _ _) [.int .u64 0, .string ⟨#[]⟩, .bool false, .int .u64 0, .string ⟨#[]⟩] 34)
 generalize hweq : ((w.alloc (.cells #[.int .i64 n, .int .u32 0] 24)).alloc (.cells #[.int .u64 0, .string ⟨#[]⟩, .bool false, .int .u64 0, .string ⟨#[]⟩] 34)) = x1 at hL0
 go_enter Tryz.func16, Tryz.ntmps16
 have hN0 := cells_of _ 0 [] rfl (hL0.get _ _ (List.mem_cons_of_mem _ List.mem_cons_self))
 simp only [cellsF, and_true, Nat.zero_add, Nat.reduceAdd] at hN0
 go_wp2_with fail
 clear hN0
 with_reducible refine Calls.mono (HF.out _) ?_
 rintro e x2 ⟨rfl, hb⟩
 replace hL0 := hL0.call hb
 clear hb hweq
 replace hL0 := (hL0.new rfl [.int .u64 ((zl x : Nat) : Int), .string (zh x), .bool (zs x), .int .u64 ((lo f : Nat) : Int), .string (hs f)] 34)
 generalize hweq : (x2.alloc (.cells #[.int .u64 ((zl x : Nat) : Int), .string (zh x), .bool (zs x), .int .u64 ((lo f : Nat) : Int), .string (hs f)] 34)) = x3 at hL0
 have hA := hL0.fc
 simp only [fcG, cellsF, neK, and_true, ne_eq, Nat.zero_add, Nat.reduceAdd] at hA
 have hP := hL0.put 1 (w.heap.size + 1) _ rfl [.int .u64 ((zl x : Nat) : Int), .string (zh x), .bool (zs x), .int .u64 ((lo f : Nat) : Int), .string (hs f)] rfl
 simp only [setAll, List.set_cons_zero, List.set_cons_succ] at hP
 generalize hput1 : (((((x3.setCell ⟨w.heap.size + 1, 0, none⟩ (.int .u64 ((zl x : Nat) : Int))).setCell ⟨w.heap.size + 1, 1, none⟩ (.string (zh x))).setCell ⟨w.heap.size + 1, 2, none⟩ (.bool (zs x))).setCell ⟨w.heap.size + 1, 3, none⟩ (.int .u64 ((lo f : Nat) : Int))).setCell ⟨w.heap.size + 1, 4, none⟩ (.string (hs f))) = x4 at hP
 have hB1 := hP.fc
 simp only [fcG, cellsF, neK, and_true, ne_eq, Nat.zero_add, Nat.reduceAdd] at hB1
 replace hL0 := hP
 go_wp2_with fail
 exact bodyPost_ret (v := frV x f) (by simp [results, Tryz.results16, go_sem, hB1]) rfl ⟨rfl, hL0.bl⟩
set_option maxHeartbeats 4000000 in
set_option maxRecDepth 100000 in
theorem qof_pos (n d x c : Int) (f : Nat) (HF : RT 32 #[.int .i64 n, .int .i64 d] (.tuple #[frV x f, .int .i64 c])) (h1 : max d 1 = d) (hw : IntKind.i64.wrap d = d) (w : World) :
  Calls Tryz.prog 16 #[.agg #[.int .i64 n, .int .u32 d]] w fun xe w' => xe = .returned (frV x f) ∧ Below w.heap.size w w' := by
 have hL0 : GL w w [] := GL.start w
 replace HF := Lib.hid HF
 replace hL0 := ((hL0.new rfl [.int .i64 n, .int .u32 d] 24).new (K := w.heap.size + 1) (szA _ _) [.int .u64 0, .string ⟨#[]⟩, .bool false, .int .u64 0, .string ⟨#[]⟩] 34)
 generalize hweq : ((w.alloc (.cells #[.int .i64 n, .int .u32 d] 24)).alloc (.cells #[.int .u64 0, .string ⟨#[]⟩, .bool false, .int .u64 0, .string ⟨#[]⟩] 34)) = x1 at hL0
 go_enter Tryz.func16, Tryz.ntmps16
 have hN0 := cells_of _ 0 [] rfl (hL0.get _ _ (List.mem_cons_of_mem _ List.mem_cons_self))
 simp only [cellsF, and_true, Nat.zero_add, Nat.reduceAdd] at hN0
 go_wp2_with fail
 clear hN0
 with_reducible refine Calls.mono (HF.out _) ?_
 rintro e x2 ⟨rfl, hb⟩
 replace hL0 := hL0.call hb
 clear hb hweq
 replace hL0 := (hL0.new rfl [.int .u64 ((zl x : Nat) : Int), .string (zh x), .bool (zs x), .int .u64 ((lo f : Nat) : Int), .string (hs f)] 34)
 generalize hweq : (x2.alloc (.cells #[.int .u64 ((zl x : Nat) : Int), .string (zh x), .bool (zs x), .int .u64 ((lo f : Nat) : Int), .string (hs f)] 34)) = x3 at hL0
 have hA := hL0.fc
 simp only [fcG, cellsF, neK, and_true, ne_eq, Nat.zero_add, Nat.reduceAdd] at hA
 have hP := hL0.put 1 (w.heap.size + 1) _ rfl [.int .u64 ((zl x : Nat) : Int), .string (zh x), .bool (zs x), .int .u64 ((lo f : Nat) : Int), .string (hs f)] rfl
 simp only [setAll, List.set_cons_zero, List.set_cons_succ] at hP
 generalize hput1 : (((((x3.setCell ⟨w.heap.size + 1, 0, none⟩ (.int .u64 ((zl x : Nat) : Int))).setCell ⟨w.heap.size + 1, 1, none⟩ (.string (zh x))).setCell ⟨w.heap.size + 1, 2, none⟩ (.bool (zs x))).setCell ⟨w.heap.size + 1, 3, none⟩ (.int .u64 ((lo f : Nat) : Int))).setCell ⟨w.heap.size + 1, 4, none⟩ (.string (hs f))) = x4 at hP
 have hB1 := hP.fc
 simp only [fcG, cellsF, neK, and_true, ne_eq, Nat.zero_add, Nat.reduceAdd] at hB1
 replace hL0 := hP
 go_wp2_with fail
 exact bodyPost_ret (v := frV x f) (by simp [results, Tryz.results16, go_sem, hB1]) rfl ⟨rfl, hL0.bl⟩
theorem qof_any (n d : Int) (a1 : -9223372036854775808 ≤ n) (a2 : n < 9223372036854775808) (b1 : 0 ≤ d) (b2 : d < 4294967296) (w : World) :
  Calls Tryz.prog 16 #[.agg #[.int .i64 n, .int .u32 d]] w fun xe w' => xe = .returned (fracV (qmade n d.toNat)) ∧ Below w.heap.size w w' := by
 by_cases h : d = 0
 ·subst h
  have e : (n : Rat) / ((1 : Int) : Rat) = qmade n 0 := by rw [← of_val_q n 1 (by decide)]; rfl
  have hF := fun w => ofF n 1 a1 a2 (by decide) (by decide) (by decide) w
  rw [e] at hF
  exact qof_zero n _ _ _ hF (by decide) w
 ·have e : (n : Rat) / (d : Rat) = qmade n d.toNat := by
   rw [← of_val_q n d h]
   unfold qmade
   rw [if_neg (by omega), if_neg (by omega), show d.natAbs = d.toNat by omega]
  have hF := fun w => ofF n d a1 a2 (by omega) (by omega) h w
  rw [e] at hF
  exact qof_pos n d _ _ _ hF (by omega) (IntWalk.i64_in _ (by omega)) w
end Go.Proofs.YtdkjckiialnpnaaGreatDoor
namespace Go.Proofs.YtdkjckiialnpnaaGreatDoor
open Go.ChangeShapes Go.WideShapes Go.ChangeAt Go.RowKit Go.Joins
set_option maxRecDepth 100000 in
theorem cellsQ : Tryz.prog.cellsOf 24 = 2 := by kernel_rfl
theorem cellsI : Tryz.prog.cellsOf 2 = 1 := by kernel_rfl
theorem cellsU : Tryz.prog.cellsOf 22 = 1 := by kernel_rfl
set_option maxRecDepth 100000 in
theorem q_of {H : Type} {enc : TypeId × Value → H} {W : World} {base : Nat} {v : Value} {d : DataW H} {p : List MemPlace} (hv : Value.okWide Tryz.prog W .any base 24 v)
  (h : DataW.Trod enc Tryz.prog W 0 (fun _ => true) true 24 v d p) : ∃ n e : Int, v = .agg #[.int .i64 n, .int .u32 e] ∧ (-9223372036854775808 ≤ n ∧ n < 9223372036854775808) ∧ (0 ≤ e ∧ e < 4294967296) := by
 obtain ⟨v0, v1, y0, y1, m, rfl, rfl, rfl, h0, h1⟩ := open_agg2 Tryz.underlying24 (by kernel_rfl) cellsQ hv h
 obtain ⟨n, e0, -, f0⟩ := DataW.trod_int Tryz.underlying2 h0
 obtain ⟨e, e1, -, f1⟩ := DataW.trod_int Tryz.underlying22 h1
 simp only [List.cons.injEq, and_true] at e0 e1
 subst e0 e1
 have b0 := bounds_i64 f0
 have b1 := bounds_u32 f1
 exact ⟨n, e, rfl, by omega, by omega⟩
end Go.Proofs.YtdkjckiialnpnaaGreatDoor
namespace Go.Proofs.YtdkjckiialnpnaaGreatDoor.Rx
open Go.RowKit
/-- The number that digits spell. -/
def tv : List Nat → Nat
 | [] => 0
 | d :: l => d + 10000 * tv l
theorem tv_nil : tv [] = 0 := rfl
/-- The digits of a number. -/
def td (n : Nat) : List Nat := if h : n = 0 then [] else n % 10000 :: td (n / 10000)
theorem td_zero : td 0 = [] := by rw [td, dif_pos rfl]
theorem td_pos {n : Nat} (h : n ≠ 0) : td n = n % 10000 :: td (n / 10000) := by rw [td, dif_neg h]
theorem td_lt (n : Nat) : ∀ d ∈ td n, d < 10000 := by
 induction n using Nat.strongRecOn with
 | _ n ih =>
  by_cases h : n = 0
  ·rw [h, td_zero]; intro d hd; cases hd
  ·rw [td_pos h]
   intro d hd
   rcases List.mem_cons.1 hd with rfl | hd
   ·omega
   ·exact ih (n / 10000) (by omega) d hd
theorem td_nil {n : Nat} : td n = [] ↔ n = 0 := by
 by_cases h : n = 0
 ·rw [h, td_zero]; simp
 ·rw [td_pos h]; simp [h]
theorem tv_append (l m : List Nat) : tv (l ++ m) = tv l + 10000 ^ l.length * tv m := by
 induction l with
 | nil => simp [tv]
 | cons d l ih => rw [List.cons_append, tv, ih, tv, List.length_cons, Nat.pow_succ, Nat.mul_add, Nat.mul_comm _ 10000, Nat.mul_assoc]; omega
theorem tv_lt {l : List Nat} (h : ∀ d ∈ l, d < 10000) : tv l < 10000 ^ l.length := by
 induction l with
 | nil => exact Nat.one_pos
 | cons d l ih =>
  have h1 := ih fun x hx => h x (List.mem_cons_of_mem _ hx)
  have h2 := h d List.mem_cons_self
  rw [tv, List.length_cons, Nat.pow_succ]
  omega
theorem tv_zeros (k : Nat) : tv (List.replicate k 0) = 0 := by
 induction k with
 | zero => rfl
 | succ k ih => rw [List.replicate_succ, tv, ih]
/-- Digits are those of their number, and zeros behind them. -/
theorem td_tv {l : List Nat} (h : ∀ d ∈ l, d < 10000) : ∃ z, l = td (tv l) ++ List.replicate z 0 := by
 induction l with
 | nil => exact ⟨0, by rw [tv, td_zero]; rfl⟩
 | cons d l ih =>
  obtain ⟨z, hz⟩ := ih fun x hx => h x (List.mem_cons_of_mem _ hx)
  have hd := h d List.mem_cons_self
  rw [tv]
  by_cases h0 : d + 10000 * tv l = 0
  ·have h1 : tv l = 0 := by omega
   rw [h1, td_zero, List.nil_append] at hz
   refine ⟨z + 1, ?_⟩
   rw [h0, td_zero, List.nil_append, List.replicate_succ, ← hz, show d = 0 by omega]
  ·refine ⟨z, ?_⟩
   rw [td_pos h0, show (d + 10000 * tv l) % 10000 = d by omega, show (d + 10000 * tv l) / 10000 = tv l by omega, List.cons_append, ← hz]
theorem td_length {n k : Nat} : (td n).length ≤ k ↔ n < 10000 ^ k := by
 induction k generalizing n with
 | zero =>
  rw [Nat.pow_zero]
  constructor
  ·intro h; have := td_nil.1 (List.eq_nil_of_length_eq_zero (l := td n) (by omega)); omega
  ·intro h; rw [show n = 0 by omega, td_zero]; exact Nat.le_refl _
 | succ k ih =>
  by_cases h : n = 0
  ·rw [h, td_zero]; exact ⟨fun _ => Nat.pow_pos (by omega), fun _ => Nat.zero_le _⟩
  ·rw [td_pos h, List.length_cons, Nat.pow_succ]
   have := ih (n := n / 10000)
   constructor
   ·intro h1; have := this.1 (by omega); omega
   ·intro h1; have := this.2 (by omega); omega
theorem tv_snoc (l : List Nat) (d : Nat) : tv (l ++ [d]) = tv l + 10000 ^ l.length * d := by rw [tv_append]; simp [tv]
theorem tv_take_getElem {l : List Nat} {k : Nat} (h : k < l.length) : tv (l.take (k + 1)) = tv (l.take k) + 10000 ^ k * l[k] := by
 rw [List.take_succ_eq_append_getElem h, tv_snoc, List.length_take, Nat.min_eq_left (Nat.le_of_lt h)]
theorem td_last {n : Nat} (h : td n ≠ []) : (td n).getLast h ≠ 0 := by
 induction n using Nat.strongRecOn with
 | _ n ih =>
  have h0 : n ≠ 0 := fun e => h (td_nil.2 e)
  by_cases h1 : n / 10000 = 0
  ·simp only [td_pos h0, h1, td_zero, List.getLast_singleton]; omega
  ·have h2 : td (n / 10000) ≠ [] := fun e => h1 (td_nil.1 e)
   have := ih (n / 10000) (by omega) h2
   simp only [td_pos h0]
   rwa [List.getLast_cons h2]
/-- A digit, or 0 behind the last one. -/
def dg (l : List Nat) (i : Nat) : Nat := l.getD i 0
theorem dg_lt {l : List Nat} (h : ∀ d ∈ l, d < 10000) (i : Nat) : dg l i < 10000 := by
 unfold dg
 rcases Nat.lt_or_ge i l.length with hi | hi
 ·simp [hi]; exact h _ (List.getElem_mem hi)
 ·simp [hi]
theorem dg_in {l : List Nat} {i : Nat} (h : i < l.length) : dg l i = l[i] := by unfold dg; simp [h]
theorem dg_out {l : List Nat} {i : Nat} (h : l.length ≤ i) : dg l i = 0 := by unfold dg; simp [h]
theorem tv_take (l : List Nat) (k : Nat) : tv (l.take (k + 1)) = tv (l.take k) + 10000 ^ k * dg l k := by
 rcases Nat.lt_or_ge k l.length with h | h
 ·rw [tv_take_getElem h, dg_in h]
 ·rw [dg_out h, List.take_of_length_le (by omega), List.take_of_length_le h]; omega
/-- A slice of ints that can be read. -/
structure Sd (w : World) (a : Addr) (l : List Nat) : Prop where
 cell : ∀ (i : Nat) (h : i < l.length), w.cell? (a.add i) = some (.int .i64 ((l[i] : Nat) : Int))
 blk : a.block < w.heap.size
theorem addB (a : Addr) (i : Nat) : (a.add i).block = a.block := by unfold Addr.add; split <;> rfl
theorem Sd.below {w w' : World} {a : Addr} {l : List Nat} (h : Sd w a l) (hb : Below w.heap.size w w') : Sd w' a l :=
 ⟨fun i hi => (hb.cell (p := a.add i) (by rw [addB]; exact h.blk)).trans (h.cell i hi), Nat.lt_of_lt_of_le h.blk hb.size⟩
theorem Sd.left {w : World} {a : Addr} {l m : List Nat} (h : Sd w a (l ++ m)) : Sd w a l :=
 ⟨fun i hi => by rw [h.cell i (by rw [List.length_append]; omega), List.getElem_append_left hi], h.blk⟩
def Sl (w : World) (v : Value) (l : List Nat) : Prop := (∃ ao c, v = .slice ao 0 c ∧ l = [] ∧ (ao = none → c = 0)) ∨ ∃ a c, v = .slice (some a) l.length c ∧ l.length ≤ c ∧ Sd w a l
theorem Sl.below {w w' : World} {v : Value} {l : List Nat} (h : Sl w v l) (hb : Below w.heap.size w w') : Sl w' v l := by
 rcases h with h | ⟨a, c, h1, h2, h3⟩
 ·exact .inl h
 ·exact .inr ⟨a, c, h1, h2, h3.below hb⟩
theorem Sl.form {w : World} {v : Value} {l : List Nat} (h : Sl w v l) : ∃ ao c, v = .slice ao l.length c := by
 rcases h with ⟨ao, c, rfl, rfl, -⟩ | ⟨a, c, rfl, _⟩
 ·exact ⟨_, _, rfl⟩
 ·exact ⟨_, _, rfl⟩
theorem Sl.nil (w : World) : Sl w (.slice none 0 0) [] := .inl ⟨_, _, rfl, rfl, fun _ => rfl⟩
theorem Sl.drew {w : World} {v : Value} {l : List Nat} (h : Sl w v l) : Sl w.drew v l := by
 rcases h with h | ⟨a, c, h1, h2, h3⟩
 ·exact .inl h
 ·exact .inr ⟨a, c, h1, h2, h3.cell, h3.blk⟩
abbrev iv (d : Nat) : Value := .int .i64 (d : Int)
end Go.Proofs.YtdkjckiialnpnaaGreatDoor.Rx
namespace Go.Proofs.YtdkjckiialnpnaaGreatDoor.Rx
open Go.RowKit
attribute [local irreducible] tv dg
def lenOf : Value → Nat | .slice _ n _ => n | _ => 0
theorem trim_nil (ao : Option Addr) (c : Nat) (w : World) :
  Calls Tryz.prog 147 #[.slice ao 0 c] w fun e w' => e = .returned (.slice ao 0 c) ∧ w = w' := by
 go_enter Tryz.func147, Tryz.ntmps147
 go_wp2_with fail
 go_loopw [0] (fun v wr => v = .slice ao 0 c ∧ wr = w) (fun v _ => lenOf v)
 case atStart => exact ⟨rfl, rfl⟩
 case round =>
  obtain ⟨rfl, rfl⟩ := hrel
  go_wp2_with fail
  go_ret
  exact ⟨rfl, rfl⟩
theorem trim_row (a : Addr) (c m z : Nat) (l : List Nat) (hm : l.length = m) (hc : m + z ≤ c) (hB : m + z < 9223372036854775807) (hlast : ∀ h : l ≠ [], l.getLast h ≠ 0) (w : World) (h : Sd w a (l ++ List.replicate z 0)) :
  Calls Tryz.prog 147 #[.slice (some a) (m + z) c] w fun e w' => e = .returned (.slice (some a) m c) ∧ w = w' := by
 have hz : ∀ k, k < z → w.cell? (a.add (m + k)) = some (.int .i64 0) := fun k hk => by
  rw [h.cell (m + k) (by simp; omega), List.getElem_append_right (by omega)]; simp
 have hl : ∀ p, m = p + 1 → ∃ d : Nat, d ≠ 0 ∧ w.cell? (a.add p) = some (.int .i64 (d : Int)) := fun p hp => by
  have hne : l ≠ [] := fun e => by rw [e] at hm; simp at hm; omega
  refine ⟨l.getLast hne, hlast hne, ?_⟩
  rw [h.cell p (by simp; omega), List.getElem_append_left (by omega), List.getLast_eq_getElem hne]
  simp [hm, hp]
 clear h hlast hm
 replace hz := Lib.hid hz
 replace hl := Lib.hid hl
 go_enter Tryz.func147, Tryz.ntmps147
 go_wp2_with fail
 go_loopw [0] (fun v wr => ∃ k, k ≤ z ∧ v = .slice (some a) (m + k) c ∧ wr = w) (fun v _ => lenOf v)
 case atStart => exact ⟨z, Nat.le_refl _, rfl, rfl⟩
 case round =>
  obtain ⟨k, hk, rfl, rfl⟩ := hrel
  cases k with
  | zero =>
   rw [Nat.add_zero]
   cases m with
   | zero =>
    go_wp2_with fail
    go_ret
    exact ⟨rfl, rfl⟩
   | succ p =>
    obtain ⟨d, hd, hcell⟩ := hl.out p rfl
    have hd1 : ((d : Int) == 0) = false := beq_eq_false_iff_ne.2 (by omega)
    go_wp2_with fail
    go_ret
    exact ⟨rfl, rfl⟩
  | succ j =>
   have hcell := hz.out j (by omega)
   rw [show m + (j + 1) = (m + j) + 1 from by omega]
   obtain ⟨q, hq⟩ : ∃ q, q = m + j := ⟨_, rfl⟩
   rw [← hq] at hcell ⊢
   have hqc : q + 1 ≤ c := by omega
   have hqB : q + 1 < 9223372036854775807 := by omega
   replace hq := Lib.hid hq
   go_wp2_with fail
   go_roundw
   case rel => exact ⟨j, by omega, by rw [hq.out], trivial⟩
   case measure => simp [lenOf]
/-- trim: the digits of a number. -/
theorem trim_any (v : Value) (l : List Nat) (hd : ∀ d ∈ l, d < 10000) (hB : l.length < 9223372036854775807) (w : World) (h : Sl w v l) :
  Calls Tryz.prog 147 #[v] w fun e w' => ∃ v', e = .returned v' ∧ Sl w v' (td (tv l)) ∧ w = w' := by
 obtain ⟨z, hz⟩ := td_tv hd
 rcases h with ⟨ao, c, rfl, rfl, hc0⟩ | ⟨a, c, rfl, h2, h3⟩
 ·refine (trim_nil ao c w).mono ?_
  rintro e w' ⟨rfl, rfl⟩
  exact ⟨_, rfl, .inl ⟨ao, c, rfl, by rw [tv_nil, td_zero], hc0⟩, rfl⟩
 ·have hlen : l.length = (td (tv l)).length + z := by
   have := congrArg List.length hz
   rwa [List.length_append, List.length_replicate] at this
  rw [hz] at h3
  rw [hlen] at h2 hB ⊢
  refine (trim_row a c _ z (td (tv l)) rfl h2 hB (fun h => td_last h) w h3).mono ?_
  rintro e w' ⟨rfl, rfl⟩
  exact ⟨_, rfl, .inr ⟨a, c, rfl, by omega, h3.left⟩, rfl⟩
end Go.Proofs.YtdkjckiialnpnaaGreatDoor.Rx
namespace Go.Proofs.YtdkjckiialnpnaaGreatDoor.Rx
open Go.RowKit
attribute [local irreducible] tv dg
/-- What the digits so far spell, with what is left. -/
theorem td_step {n k : Nat} (hk : k < (td n).length) : n / 10000 ^ k ≠ 0 ∧ (td n)[k] = n / 10000 ^ k % 10000 := by
 induction k generalizing n with
 | zero =>
  have h0 : n ≠ 0 := fun e => by rw [e, td_zero] at hk; exact absurd hk (by simp)
  simp only [Nat.pow_zero, Nat.div_one]
  refine ⟨h0, ?_⟩
  simp only [td_pos h0, List.getElem_cons_zero]
 | succ k ih =>
  have h0 : n ≠ 0 := fun e => by rw [e, td_zero] at hk; exact absurd hk (by simp)
  have hk' : k < (td (n / 10000)).length := by rw [td_pos h0, List.length_cons] at hk; omega
  have := ih hk'
  rw [Nat.div_div_eq_div_mul, Nat.mul_comm, ← Nat.pow_succ] at this
  refine ⟨this.1, ?_⟩
  simp only [td_pos h0, List.getElem_cons_succ]
  exact this.2
theorem td_end {n k : Nat} (hk : (td n).length ≤ k) : n / 10000 ^ k = 0 := Nat.div_eq_of_lt (td_length.1 hk)
end Go.Proofs.YtdkjckiialnpnaaGreatDoor.Rx
namespace Go.Proofs.YtdkjckiialnpnaaGreatDoor.Rx
open Go.RowKit
attribute [local irreducible] tv dg
/-- What Add's rounds keep. -/
structure AddS (A B S : List Nat) (i c : Nat) : Prop where
 len : S.length = i
 lt : ∀ d ∈ S, d < 10000
 car : c ≤ 1
 eq : tv S + 10000 ^ i * c = tv (A.take i) + tv (B.take i)
theorem AddS.step {A B S : List Nat} {i c : Nat} (h : AddS A B S i c) (hA : ∀ d ∈ A, d < 10000) (hB : ∀ d ∈ B, d < 10000) :
  AddS A B (S ++ [(dg A i + dg B i + c) % 10000]) (i + 1) ((dg A i + dg B i + c) / 10000) := by
 have h1 := dg_lt hA i
 have h2 := dg_lt hB i
 have h3 := h.car
 refine ⟨by rw [List.length_append, h.len]; rfl, fun d hd => ?_, by omega, ?_⟩
 ·rcases List.mem_append.1 hd with hd | hd
  ·exact h.lt d hd
  ·rw [List.mem_singleton.1 hd]; omega
 ·rw [tv_snoc, h.len, tv_take, tv_take, Nat.pow_succ]
  have h4 := h.eq
  generalize dg A i = x at *
  generalize dg B i = y at *
  have h5 : (x + y + c) % 10000 + 10000 * ((x + y + c) / 10000) = x + y + c := by omega
  have h6 : 10000 ^ i * ((x + y + c) % 10000) + 10000 ^ i * 10000 * ((x + y + c) / 10000) = 10000 ^ i * x + 10000 ^ i * y + 10000 ^ i * c := by
   rw [Nat.mul_assoc, ← Nat.mul_add, h5, Nat.mul_add, Nat.mul_add]
  generalize 10000 ^ i * ((x + y + c) % 10000) = p at *
  generalize 10000 ^ i * 10000 * ((x + y + c) / 10000) = q at *
  omega
end Go.Proofs.YtdkjckiialnpnaaGreatDoor.Rx
namespace Go.Proofs.YtdkjckiialnpnaaGreatDoor.Rx
open Go.RowKit
attribute [local irreducible] tv dg
theorem add0 (g i : Nat) : (⟨g, 0, none⟩ : Addr).add i = ⟨g, i, none⟩ := by
 unfold Addr.add
 split <;> simp_all
/-- Block g holds just these ints. -/
def IB (w : World) (g : Nat) (l : List Nat) : Prop := w.heap[g]? = some (.cells (l.map iv).toArray 3 (0, 0))
section
variable {w w' : World} {g : Nat} {l : List Nat}
theorem IB.lt (h : IB w g l) : g < w.heap.size := (Array.getElem?_eq_some_iff.1 h).1
theorem IB.cell (h : IB w g l) (i : Nat) (hi : i < l.length) : w.cell? ⟨g, i, none⟩ = some (.int .i64 ((l[i] : Nat) : Int)) := by
 rw [cell_of_row w g i _ _ _ h]; simp [hi]
theorem IB.frozen (h : IB w g l) (i : Nat) : w.frozen? ⟨g, i, none⟩ = false := frozen_of_row w g i _ _ h
theorem IB.set (h : IB w g l) (i : Nat) (d : Nat) : IB (w.setCell ⟨g, i, none⟩ (.int .i64 (d : Int))) g (l.set i d) := by
 unfold IB at *
 rw [heap_setCell_same w g i _ _ _ h]
 congr 2
 rw [List.map_set]; simp
theorem IB.keep (h : IB w g l) (hk : w'.heap[g]? = w.heap[g]?) : IB w' g l := hk.trans h
theorem IB.below {B : Nat} (h : IB w g l) (hb : Below B w w') (hg : g < B) : IB w' g l := h.keep (hb.block g hg)
theorem IB.drewN (h : IB w g l) (n : Nat) : IB (w.drewN n) g l := h
theorem IB.sl (h : IB w g l) (c : Nat) (hc : l.length ≤ c) : Sl w (.slice (some ⟨g, 0, none⟩) l.length c) l :=
 .inr ⟨⟨g, 0, none⟩, c, rfl, hc, fun i hi => by rw [add0]; exact h.cell i hi, h.lt⟩
end
/-- Zeros, as make lays them. -/
def zobjI (n : Nat) : Obj := .cells ((List.replicate n 0).map iv).toArray 3
theorem IB.zeros (w : World) (n : Nat) : IB (w.alloc (zobjI n)) w.heap.size (List.replicate n 0) := heap_alloc_new w _
theorem tv_set {l : List Nat} {j : Nat} (h : j < l.length) (d : Nat) : tv (l.set j d) + 10000 ^ j * l[j] = tv l + 10000 ^ j * d := by
 induction l generalizing j with
 | nil => exact absurd h (by simp)
 | cons x l ih =>
  cases j with
  | zero => simp only [List.set_cons_zero, List.getElem_cons_zero, tv, Nat.pow_zero, Nat.one_mul]; omega
  | succ j =>
   have hj : j < l.length := by simpa using h
   have := ih (j := j) hj
   simp only [List.set_cons_succ, List.getElem_cons_succ, tv, Nat.pow_succ]
   rw [Nat.mul_comm (10000 ^ j) 10000, Nat.mul_assoc, Nat.mul_assoc]
   generalize 10000 ^ j * l[j] = p at *
   generalize 10000 ^ j * d = q at *
   omega
/-- What Mul's inner rounds keep. -/
structure MulS (A B X : List Nat) (i k c : Nat) : Prop where
 len : X.length = A.length + B.length
 lt : ∀ d ∈ X, d < 10000
 car : c < 10000
 eq : tv X + 10000 ^ (i + k) * c = tv (A.take i) * tv B + 10000 ^ i * (dg A i * tv (B.take k))
theorem MulS.step {A B X : List Nat} {i k c : Nat} (h : MulS A B X i k c) (hA : ∀ d ∈ A, d < 10000) (hB : ∀ d ∈ B, d < 10000) (hj : i + k < X.length) {s : Nat} (hs : s = X[i + k] + dg A i * dg B k + c) :
  s < 100000000 ∧ MulS A B (X.set (i + k) (s % 10000)) i (k + 1) (s / 10000) := by
 have h1 := dg_lt hA i
 have h2 := dg_lt hB k
 have h3 := h.car
 have hx := h.lt _ (List.getElem_mem hj)
 have hp : dg A i * dg B k ≤ 9999 * 9999 := Nat.mul_le_mul (by omega) (by omega)
 have hs1 : s < 100000000 := by omega
 refine ⟨hs1, by rw [List.length_set]; exact h.len, fun d hd => ?_, by omega, ?_⟩
 ·rcases List.mem_or_eq_of_mem_set hd with hd | hd
  ·exact h.lt d hd
  ·omega
 ·have e1 := tv_set hj (s % 10000)
  have e2 := h.eq
  rw [tv_take, ← Nat.add_assoc, Nat.pow_succ]
  have e3 : s % 10000 + 10000 * (s / 10000) = X[i + k] + dg A i * dg B k + c := by omega
  have e4 : 10000 ^ (i + k) * (s % 10000) + 10000 ^ (i + k) * 10000 * (s / 10000) = 10000 ^ (i + k) * X[i + k] + 10000 ^ (i + k) * (dg A i * dg B k) + 10000 ^ (i + k) * c := by
   rw [Nat.mul_assoc, ← Nat.mul_add, e3, Nat.mul_add, Nat.mul_add]
  have e5 : 10000 ^ i * (dg A i * (tv (B.take k) + 10000 ^ k * dg B k)) = 10000 ^ i * (dg A i * tv (B.take k)) + 10000 ^ (i + k) * (dg A i * dg B k) := by
   rw [Nat.mul_add, Nat.mul_add, Nat.pow_add, Nat.mul_left_comm (dg A i), Nat.mul_assoc (10000 ^ i)]
  rw [e5]
  generalize 10000 ^ (i + k) * (s % 10000) = p1 at *
  generalize 10000 ^ (i + k) * 10000 * (s / 10000) = p2 at *
  generalize 10000 ^ (i + k) * X[i + k] = p3 at *
  generalize 10000 ^ (i + k) * (dg A i * dg B k) = p4 at *
  generalize 10000 ^ (i + k) * c = p5 at *
  generalize 10000 ^ i * (dg A i * tv (B.take k)) = p6 at *
  generalize tv (A.take i) * tv B = p7 at *
  generalize tv (X.set (i + k) (s % 10000)) = p8 at *
  generalize tv X = p9 at *
  omega
/-- Behind b's digits one carry may be left, and no more. -/
theorem MulS.carry {A B X : List Nat} {i k c : Nat} (h : MulS A B X i k c) (hA : ∀ d ∈ A, d < 10000) (hB : ∀ d ∈ B, d < 10000) (hi : i < A.length) (hk : B.length + 1 ≤ k) : c = 0 := by
 rcases Nat.eq_zero_or_pos c with h0 | h0
 ·exact h0
 ·have e := h.eq
  have e2 : tv (A.take i) * tv B + 10000 ^ i * (dg A i * tv (B.take k)) = tv (A.take (i + 1)) * tv B := by
   rw [List.take_of_length_le (l := B) (by omega), tv_take, Nat.add_mul, Nat.mul_assoc]
  have e3 : tv (A.take (i + 1)) < 10000 ^ (i + 1) := by
   have := tv_lt (l := A.take (i + 1)) fun d hd => hA d (List.mem_of_mem_take hd)
   rwa [List.length_take, Nat.min_eq_left (by omega)] at this
  have e4 := tv_lt hB
  have e5 : tv (A.take (i + 1)) * tv B < 10000 ^ (i + 1) * 10000 ^ B.length := Nat.lt_of_le_of_lt (Nat.mul_le_mul_left _ (Nat.le_of_lt e4)) (Nat.mul_lt_mul_of_pos_right e3 (Nat.pow_pos (by omega)))
  rw [← Nat.pow_add] at e5
  have e6 : 10000 ^ (i + 1 + B.length) ≤ 10000 ^ (i + k) := Nat.pow_le_pow_right (by omega) (by omega)
  have e7 : 10000 ^ (i + k) ≤ 10000 ^ (i + k) * c := Nat.le_mul_of_pos_right _ h0
  omega
theorem MulS.done {A B X : List Nat} {i k : Nat} (h : MulS A B X i k 0) (hk : B.length ≤ k) : MulS A B X (i + 1) 0 0 := by
 refine ⟨h.len, h.lt, by omega, ?_⟩
 have e := h.eq
 rw [List.take_of_length_le hk] at e
 rw [List.take_zero, tv_take, Nat.add_mul, Nat.mul_assoc]
 rw [Nat.mul_zero, Nat.add_zero] at e ⊢
 rw [e]
 have : tv [] = 0 := by unfold tv; rfl
 rw [this, Nat.mul_zero, Nat.mul_zero, Nat.add_zero]
theorem MulS.start (A B : List Nat) : MulS A B (List.replicate (A.length + B.length) 0) 0 0 0 := by
 refine ⟨List.length_replicate, fun d hd => by rw [(List.mem_replicate.1 hd).2]; omega, by omega, ?_⟩
 have : tv [] = 0 := by unfold tv; rfl
 rw [tv_zeros, List.take_zero, List.take_zero, this]
 simp
end Go.Proofs.YtdkjckiialnpnaaGreatDoor.Rx
namespace Go.Proofs.YtdkjckiialnpnaaGreatDoor.Rx
open Go.RowKit
attribute [local irreducible] tv dg
/-- A slice that holds a number's digits. -/
abbrev Rn (w : World) (v : Value) (n : Nat) : Prop := Sl w v (td n)
end Go.Proofs.YtdkjckiialnpnaaGreatDoor.Rx
namespace Go.Proofs.YtdkjckiialnpnaaGreatDoor.Rx
open Go.RowKit
attribute [local irreducible] tv dg cmpI
end Go.Proofs.YtdkjckiialnpnaaGreatDoor.Rx
namespace Go.Proofs.YtdkjckiialnpnaaGreatDoor.Rx
open Go.RowKit
attribute [local irreducible] tv dg cmpI
/-- What Sub's rounds keep. -/
structure SubS (A B S : List Nat) (i c : Nat) : Prop where
 len : S.length = i
 lt : ∀ d ∈ S, d < 10000
 car : c ≤ 1
 eq : tv (A.take i) + 10000 ^ i * c = tv S + tv (B.take i)
theorem SubS.step {A B S : List Nat} {i c d c' : Nat} (h : SubS A B S i c) (hd : d < 10000) (hc : c' ≤ 1) (he : d + dg B i + c = dg A i + 10000 * c') : SubS A B (S ++ [d]) (i + 1) c' := by
 refine ⟨by rw [List.length_append, h.len]; rfl, fun x hx => ?_, hc, ?_⟩
 ·rcases List.mem_append.1 hx with hx | hx
  ·exact h.lt x hx
  ·rw [List.mem_singleton.1 hx]; exact hd
 ·rw [tv_snoc, h.len, tv_take, tv_take, Nat.pow_succ]
  have h4 := h.eq
  have h6 : 10000 ^ i * d + 10000 ^ i * dg B i + 10000 ^ i * c = 10000 ^ i * dg A i + 10000 ^ i * 10000 * c' := by
   rw [Nat.mul_assoc, ← Nat.mul_add, ← Nat.mul_add, ← Nat.mul_add, he]
  generalize 10000 ^ i * d = p1 at *
  generalize 10000 ^ i * dg B i = p2 at *
  generalize 10000 ^ i * c = p3 at *
  generalize 10000 ^ i * dg A i = p4 at *
  generalize 10000 ^ i * 10000 * c' = p5 at *
  omega
theorem SubS.done {A B S : List Nat} {c : Nat} (h : SubS A B S A.length c) (hB : B.length ≤ A.length) (hle : tv B ≤ tv A) : tv S = tv A - tv B := by
 have e := h.eq
 rw [List.take_of_length_le (Nat.le_refl _), List.take_of_length_le hB] at e
 have h1 := tv_lt h.lt
 rw [h.len] at h1
 have hc := h.car
 rcases Nat.eq_zero_or_pos c with h0 | h0
 ·rw [h0, Nat.mul_zero] at e; omega
 ·rw [show c = 1 by omega, Nat.mul_one] at e; omega
end Go.Proofs.YtdkjckiialnpnaaGreatDoor.Rx
namespace Go.Proofs.YtdkjckiialnpnaaGreatDoor.Rx
open Go.RowKit
open Go.Lib (decDigits)
attribute [local irreducible] tv dg cmpI
/-- What Text has written behind digit i. -/
def TS (n i : Nat) (T : List UInt8) : Prop := (i < (td n).length ∧ decDigits n = decDigits (n / 10000 ^ i) ++ T) ∨ (i = (td n).length ∧ T = decDigits n)
theorem TS.start {n : Nat} (h : 0 < (td n).length) : TS n 0 [] := .inl ⟨h, by simp⟩
theorem TS.step {n i : Nat} {T : List UInt8} (h : TS n i T) (hl : i < (td n).length) (hi : i + 1 < (td n).length) : TS n (i + 1) (pad 4 ((td n)[i]'hl) ++ T) := by
 rcases h with ⟨h1, h2⟩ | ⟨h1, h2⟩
 ·refine .inl ⟨hi, ?_⟩
  have hd := (td_step h1).2
  have hq := (td_step hi).1
  have e : n / 10000 ^ i = n / 10000 ^ (i + 1) * 10 ^ 4 + (td n)[i] := by
   rw [hd, Nat.pow_succ, ← Nat.div_div_eq_div_mul]
   show _ = _ * 10000 + _
   omega
  have hlt : (td n)[i] < 10 ^ 4 := td_lt n _ (List.getElem_mem _)
  have := dec_mul_add 4 (n / 10000 ^ (i + 1)) ((td n)[i]) (by omega) hlt
  rw [h2, e, this, List.append_assoc]
 ·omega
theorem TS.last {n i : Nat} {T : List UInt8} (h : TS n i T) (hl : i < (td n).length) (hi : i + 1 = (td n).length) : 0 < (td n)[i]'hl ∧ TS n (i + 1) (decDigits ((td n)[i]'hl) ++ T) := by
 rcases h with ⟨h1, h2⟩ | ⟨h1, h2⟩
 ·have hd := td_step h1
  have h0 : n / 10000 ^ (i + 1) = 0 := td_end (by omega)
  have e : n / 10000 ^ i = (td n)[i] := by
   rw [hd.2]
   rw [Nat.pow_succ, ← Nat.div_div_eq_div_mul] at h0
   omega
  refine ⟨by rw [← e]; omega, .inr ⟨hi, ?_⟩⟩
  rw [h2, e]
 ·omega
theorem TS.len {n i : Nat} {T : List UInt8} (h : TS n i T) : T.length ≤ (decDigits n).length := by
 rcases h with ⟨h1, h2⟩ | ⟨h1, h2⟩
 ·rw [h2, List.length_append]; omega
 ·rw [h2]; exact Nat.le_refl _
end Go.Proofs.YtdkjckiialnpnaaGreatDoor.Rx
namespace Go.Proofs.YtdkjckiialnpnaaGreatDoor.Rx
open Go.RowKit
attribute [local irreducible] lo hs tv dg cmpI txt
end Go.Proofs.YtdkjckiialnpnaaGreatDoor.Rx
namespace Go.Proofs.YtdkjckiialnpnaaGreatDoor.Rx
open Go.RowKit
attribute [local irreducible] tv dg cmpI txt
/-- What is appended, chunk by chunk. -/
structure PS (l : List UInt8) (S : List Nat) (t e : Nat) : Prop where
 len : S.length = t
 lt : ∀ d ∈ S, d < 10000
 pos : e = l.length - 4 * t
 eq : tv S + 10000 ^ t * dval (l.take e) = dval l
theorem PS.step {l : List UInt8} {S : List Nat} {t e : Nat} (h : PS l S t e) (hd : ∀ c ∈ l, isDig c) (he : 0 < e) :
  dval ((l.drop (e - 4)).take (e - (e - 4))) < 10000 ∧ PS l (S ++ [dval ((l.drop (e - 4)).take (e - (e - 4)))]) (t + 1) (e - 4) := by
 have hle : e ≤ l.length := by have := h.pos; omega
 have hch : ((l.drop (e - 4)).take (e - (e - 4))).length = e - (e - 4) := by rw [List.length_take, List.length_drop]; omega
 have hlt : dval ((l.drop (e - 4)).take (e - (e - 4))) < 10000 := by
  have h1 := dval_lt (l := (l.drop (e - 4)).take (e - (e - 4))) fun c hc => hd c (List.mem_of_mem_drop (List.mem_of_mem_take hc))
  rw [hch] at h1
  exact Nat.lt_of_lt_of_le h1 (Nat.le_trans (Nat.pow_le_pow_right (by omega) (show e - (e - 4) ≤ 4 by omega)) (by decide))
 refine ⟨hlt, by rw [List.length_append, h.len]; rfl, fun d hx => ?_, by have := h.pos; omega, ?_⟩
 ·rcases List.mem_append.1 hx with hx | hx
  ·exact h.lt d hx
  ·rw [List.mem_singleton.1 hx]; exact hlt
 ·have e1 : l.take e = l.take (e - 4) ++ (l.drop (e - 4)).take (e - (e - 4)) := by
   have := List.take_add (l := l) (i := e - 4) (j := e - (e - 4))
   rw [show e - 4 + (e - (e - 4)) = e by omega] at this
   exact this
  have e2 := h.eq
  rw [e1, dval_append, hch] at e2
  rw [tv_snoc, h.len, Nat.pow_succ]
  generalize dval ((l.drop (e - 4)).take (e - (e - 4))) = d at *
  rcases Nat.lt_or_ge e 4 with h4 | h4
  ·have h0 : dval (l.take (e - 4)) = 0 := by rw [show e - 4 = 0 by omega, List.take_zero, dval_nil]
   rw [h0, Nat.zero_mul, Nat.zero_add] at e2
   rw [h0, Nat.mul_zero]; omega
  ·rw [show e - (e - 4) = 4 by omega] at e2
   rw [Nat.mul_add, Nat.mul_comm (dval _) (10 ^ 4), ← Nat.mul_assoc, show (10 : Nat) ^ 4 = 10000 by rfl] at e2
   omega
theorem PS.start (l : List UInt8) : PS l [] 0 l.length := ⟨rfl, (fun d hd => by cases hd), by omega, by rw [tv_nil, List.take_length]; simp⟩
end Go.Proofs.YtdkjckiialnpnaaGreatDoor.Rx
namespace Go.Proofs.YtdkjckiialnpnaaGreatDoor
open Go.RowKit Go.Proofs.YtdkjckiialnpnaaGreatDoor.Rx
attribute [local irreducible] lo hs sm s64 c64 d64 b64 mh ml pd pc qd qc val hiB str cmpI srD lz nb isq dval
theorem sl_upd {w w' : World} {k : Nat} {c : List Value} {v : Value} {l : List Nat} (h : Sl w v l) (hu : Upd k w w') (hd : Hd w k c) (hc : ∀ v ∈ c, ∀ n, v ≠ .int .i64 n) : Sl w' v l := by
 rcases h with h | ⟨a, c1, h1, h2, h3⟩
 ·exact .inl h
 ·refine .inr ⟨a, c1, h1, h2, fun i hi => ?_, by rw [hu.size]; exact h3.blk⟩
  have hx := h3.cell i hi
  exact (World.cell?_of_block (w := w) (hu.block _ (hd.no_int hc hx))).trans hx
end Go.Proofs.YtdkjckiialnpnaaGreatDoor
namespace Go.Proofs.YtdkjckiialnpnaaGreatDoor
open Go.RowKit Go.Proofs.YtdkjckiialnpnaaGreatDoor.Rx
/-- A struct of the reference that stands for an integer. -/
def RZ (w : World) (v : Value) (z : Int) : Prop := ∃ u, v = .agg #[.bool (decide (z < 0)), u] ∧ Rn w u z.natAbs
theorem RZ.below {w w' : World} {v : Value} {z : Int} (h : RZ w v z) (hb : Below w.heap.size w w') : RZ w' v z := by
 obtain ⟨u, h1, h2⟩ := h
 exact ⟨u, h1, Sl.below h2 hb⟩
theorem RZ.of {w : World} {b : Bool} {u : Value} {n : Nat} {z : Int} (h : Rn w u n) (hb : b = decide (z < 0)) (hn : n = z.natAbs) : RZ w (.agg #[.bool b, u]) z := ⟨u, by rw [hb], by rw [← hn]; exact h⟩
end Go.Proofs.YtdkjckiialnpnaaGreatDoor
namespace Go.Proofs.YtdkjckiialnpnaaGreatDoor
open Go.RowKit Go.Proofs.YtdkjckiialnpnaaGreatDoor.Rx
/-- The slices of digits that a call has got hold of. -/
def SS (W : World) (S : List (Value × Nat)) : Prop := ∀ p ∈ S, Rn W p.1 p.2
theorem SS.nil (W : World) : SS W [] := fun p hp => by cases hp
theorem SS.call {W W' : World} {S : List (Value × Nat)} (h : SS W S) (hb : Below W.heap.size W W') : SS W' S := fun p hp => Sl.below (h p hp) hb
theorem SS.new {W : World} {S : List (Value × Nat)} (h : SS W S) (o : Obj) : SS (W.alloc o) S := h.call ((Below.refl _ _).alloc (Nat.le_refl _) o)
theorem SS.cons {W : World} {S : List (Value × Nat)} (h : SS W S) {v : Value} {n : Nat} (hv : Rn W v n) : SS W ((v, n) :: S) := fun p hp => by
 rcases List.mem_cons.1 hp with rfl | hp
 ·exact hv
 ·exact h p hp
theorem SS.put {W W' : World} {S : List (Value × Nat)} (h : SS W S) {k : Nat} {c : List Value} (hu : Upd k W W') (hd : Hd W k c) (hc : ∀ v ∈ c, ∀ n, v ≠ .int .i64 n) : SS W' S := fun p hp => sl_upd (h p hp) hu hd hc
theorem SS.drew {W : World} {S : List (Value × Nat)} (h : SS W S) : SS W.drew S := fun p hp => Sl.drew (h p hp)
theorem SS.get {W : World} {S : List (Value × Nat)} (h : SS W S) {v : Value} {n : Nat} (hm : (v, n) ∈ S) : Rn W v n := h _ hm
/-- A typed region's properties, in short. -/
abbrev EV (v : Value) : Value → World → Prop := fun u _ => u = v
theorem LC {l : List Nat} {a : Nat} (h : l.contains a = true) : a ∈ l := List.contains_iff_mem.1 h
end Go.Proofs.YtdkjckiialnpnaaGreatDoor
namespace Go.Proofs.YtdkjckiialnpnaaGreatDoor
open Go.RowKit
attribute [local irreducible] lo hs sm s64 c64 d64 b64 mh ml pd pc qd qc val hiB str cmpI srD lz nb isq zl zh zs fe
abbrev PS (l : List Rat) : Value → World → Prop := fun u w => SlQ w u l
theorem stays_slq (l : List Rat) : Stays (PS l) := fun _ _ _ hb h => h.below hb
theorem slq_form {w : World} {v : Value} {l : List Rat} (h : SlQ w v l) : ∃ ao n c, v = .slice ao n c := by
 rcases h with ⟨ao, c, e, _⟩ | ⟨g, c, e, _⟩
 ·exact ⟨_, _, _, e⟩
 ·exact ⟨_, _, _, e⟩
theorem slq_new1 (w : World) (q : Rat) : SlQ (w.alloc (.cells #[.int .u64 ((zl q.num : Nat) : Int), .string (zh q.num), .bool (zs q.num), .int .u64 ((lo (fe q) : Nat) : Int), .string (hs (fe q))] 34)) (.slice (some ⟨w.heap.size, 0, none⟩) 1 1) [q] := slq_one (hd_new w [.int .u64 ((zl q.num : Nat) : Int), .string (zh q.num), .bool (zs q.num), .int .u64 ((lo (fe q) : Nat) : Int), .string (hs (fe q))] 34)
theorem ty_val {P : Program} {o : Oper} {a : Act} {w w' : World} {T : Value → World → Prop} {u : Value} (hr : (execOp a.eval o).run P w = .ok (.value u) w') (hb : Below w.heap.size w w') (ht : T u w') : tyUpon P w T ((execOp a.eval o).run P w) := by
 rw [hr]; exact ⟨hb, ht⟩
end Go.Proofs.YtdkjckiialnpnaaGreatDoor
