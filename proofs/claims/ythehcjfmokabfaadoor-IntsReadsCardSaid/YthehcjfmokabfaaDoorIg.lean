/-
  Joined from parts.
-/
import Derived.Test.YthehcjfmokabfaaDoorIa
import Derived.Test.YthehcjfmokabfaaDoorWzb
import Derived.Test.YthehcjfmokabfaaDoorNt
import Derived.Test.YthehcjfmokabfaaDoorWy
import Derived.Test.YthehcjfmokabfaaDoorIc
import Derived.Test.YthehcjfmokabfaaDoorIe
set_option linter.unusedVariables false
set_option linter.unusedSimpArgs false
namespace Go.Proofs.YthehcjfmokabfaaDoor
open Go.RowKit
attribute [local irreducible] lo hs sm s64 c64 d64 b64 mh ml pd pc qd qc val hiB str cmpI srD lz nb isq decB

theorem dec_size {n k : Nat} (hk : 0 < k) (h : (digs n).length ≤ k) : (Lib.decDigits n).length ≤ 20 * k := by
  refine (dec_length_lt (by omega)).2 (Nat.lt_of_lt_of_le (digs_length_iff.1 h) ?_)
  rw [Nat.pow_mul]
  exact Nat.pow_le_pow_left (by unfold Bs; decide) k
theorem txt_small {n k : Nat} (hk : 0 < k) (h : (digs n).length ≤ k) : (txt n).size ≤ 20 * k := dec_size hk h

set_option maxHeartbeats 4000000 in
set_option maxRecDepth 100000 in
theorem itext_false (m : Nat) (hm : (digs m).length ≤ 1000000) (w : World) (htab : Tab w) :
    Calls Tryd.prog 11 #[zV false m] w fun e w' => e = .returned (.string (txt m)) ∧ Below w.heap.size w w' := by
  have hL0 : GL w w [] := GL.start w
  have HT := Lib.hid (fun w h => text_any m (by omega) w h)
  clear hm
  replace hL0 := (hL0.new rfl [.int .u64 ((lo m : Nat) : Int), .string (hs m), .bool false] 27)
  generalize hweq : (w.alloc (.cells #[.int .u64 ((lo m : Nat) : Int), .string (hs m), .bool false] 27)) = x1 at hL0
  go_enter Tryd.func11, Tryd.ntmps11
  have hA := hL0.fc
  simp only [fcG, cellsF, neK, and_true, ne_eq, Nat.zero_add, Nat.reduceAdd] at hA
  go_wp2_with fail
  clear hA
  with_reducible refine Calls.mono (HT.out _ (htab.below hL0.bl)) ?_
  rintro e x2 ⟨rfl, hb⟩
  replace hL0 := hL0.call hb
  clear hb hweq
  have hA := hL0.fc
  simp only [fcG, cellsF, neK, and_true, ne_eq, Nat.zero_add, Nat.reduceAdd] at hA
  go_wp2_with fail
  exact bodyPost_ret (v := .string (txt m)) (by simp [results, Tryd.results11, go_sem, hA]) rfl ⟨rfl, hL0.bl⟩

set_option maxHeartbeats 4000000 in
set_option maxRecDepth 100000 in
theorem itext_true (m : Nat) (hm : (digs m).length ≤ 1000000) (w : World) (htab : Tab w) :
    Calls Tryd.prog 11 #[zV true m] w fun e w' => e = .returned (.string (ByteArray.mk #[45] ++ txt m)) ∧ Below w.heap.size w w' := by
  have hL0 : GL w w [] := GL.start w
  have HT := Lib.hid (fun w h => text_any m (by omega) w h)
  have hts := txt_small (k := 1000000) (by omega) hm
  clear hm
  generalize txt m = t at *
  have hts2 : ((t.size : Nat) : Int) ≤ 20000000 := by omega
  replace hL0 := (hL0.new rfl [.int .u64 ((lo m : Nat) : Int), .string (hs m), .bool true] 27)
  generalize hweq : (w.alloc (.cells #[.int .u64 ((lo m : Nat) : Int), .string (hs m), .bool true] 27)) = x1 at hL0
  go_enter Tryd.func11, Tryd.ntmps11
  have hA := hL0.fc
  simp only [fcG, cellsF, neK, and_true, ne_eq, Nat.zero_add, Nat.reduceAdd] at hA
  go_wp2_with fail
  clear hA
  with_reducible refine Calls.mono (HT.out _ (htab.below hL0.bl)) ?_
  rintro e x2 ⟨rfl, hb⟩
  replace hL0 := hL0.call hb
  clear hb hweq
  have hA := hL0.fc
  simp only [fcG, cellsF, neK, and_true, ne_eq, Nat.zero_add, Nat.reduceAdd] at hA
  go_wp2_with fail
  exact bodyPost_ret (v := .string (ByteArray.mk #[45] ++ t)) (by simp [results, Tryd.results11, go_sem, hA]) rfl ⟨rfl, hL0.bl⟩

set_option maxHeartbeats 4000000 in
set_option maxRecDepth 100000 in
theorem i64_true_big (m : Nat) (h : Bs ≤ m) (w : World) :
    Calls Tryd.prog 28 #[zV true m] w fun e w' => e = .returned (.tuple #[.int .i64 0, .bool false]) ∧ Below w.heap.size w w' := by
  have hL0 : GL w w [] := GL.start w
  have HU := Lib.hid (fun w => u64_big m h w)
  clear h
  replace hL0 := (hL0.new rfl [.int .u64 ((lo m : Nat) : Int), .string (hs m), .bool true] 27)
  generalize hweq : (w.alloc (.cells #[.int .u64 ((lo m : Nat) : Int), .string (hs m), .bool true] 27)) = x1 at hL0
  go_enter Tryd.func28, Tryd.ntmps28
  have hA := hL0.fc
  simp only [fcG, cellsF, neK, and_true, ne_eq, Nat.zero_add, Nat.reduceAdd] at hA
  go_wp2_with fail
  clear hA
  with_reducible refine Calls.mono (HU.out _) ?_
  rintro e x2 ⟨rfl, hb⟩
  replace hL0 := hL0.call hb
  clear hb hweq
  have hA := hL0.fc
  simp only [fcG, cellsF, neK, and_true, ne_eq, Nat.zero_add, Nat.reduceAdd] at hA
  go_wp2_with fail
  exact bodyPost_ret (v := .tuple #[.int .i64 0, .bool false]) (by simp [results, Tryd.results28, go_sem, hA]) rfl ⟨rfl, hL0.bl⟩

set_option maxHeartbeats 4000000 in
set_option maxRecDepth 100000 in
theorem i64_true_out (m : Nat) (h : m < Bs) (h1 : (9223372036854775808 : Int) < (m : Int)) (w : World) :
    Calls Tryd.prog 28 #[zV true m] w fun e w' => e = .returned (.tuple #[.int .i64 0, .bool false]) ∧ Below w.heap.size w w' := by
  have hL0 : GL w w [] := GL.start w
  have HU := Lib.hid (fun w => u64_small m h w)
  have k1 : decide ((m : Int) ≤ 9223372036854775808) = false := decide_eq_false (by omega)
  clear h h1
  replace hL0 := (hL0.new rfl [.int .u64 ((lo m : Nat) : Int), .string (hs m), .bool true] 27)
  generalize hweq : (w.alloc (.cells #[.int .u64 ((lo m : Nat) : Int), .string (hs m), .bool true] 27)) = x1 at hL0
  go_enter Tryd.func28, Tryd.ntmps28
  have hA := hL0.fc
  simp only [fcG, cellsF, neK, and_true, ne_eq, Nat.zero_add, Nat.reduceAdd] at hA
  go_wp2_with fail
  clear hA
  with_reducible refine Calls.mono (HU.out _) ?_
  rintro e x2 ⟨rfl, hb⟩
  replace hL0 := hL0.call hb
  clear hb hweq
  have hA := hL0.fc
  simp only [fcG, cellsF, neK, and_true, ne_eq, Nat.zero_add, Nat.reduceAdd] at hA
  go_wp2_with fail
  exact bodyPost_ret (v := .tuple #[.int .i64 0, .bool false]) (by simp [results, Tryd.results28, go_sem, hA]) rfl ⟨rfl, hL0.bl⟩

set_option maxHeartbeats 4000000 in
set_option maxRecDepth 100000 in
theorem i64_false_big (m : Nat) (h : Bs ≤ m) (w : World) :
    Calls Tryd.prog 28 #[zV false m] w fun e w' => e = .returned (.tuple #[.int .i64 0, .bool false]) ∧ Below w.heap.size w w' := by
  have hL0 : GL w w [] := GL.start w
  have HU := Lib.hid (fun w => u64_big m h w)
  clear h
  replace hL0 := (hL0.new rfl [.int .u64 ((lo m : Nat) : Int), .string (hs m), .bool false] 27)
  generalize hweq : (w.alloc (.cells #[.int .u64 ((lo m : Nat) : Int), .string (hs m), .bool false] 27)) = x1 at hL0
  go_enter Tryd.func28, Tryd.ntmps28
  have hA := hL0.fc
  simp only [fcG, cellsF, neK, and_true, ne_eq, Nat.zero_add, Nat.reduceAdd] at hA
  go_wp2_with fail
  clear hA
  with_reducible refine Calls.mono (HU.out _) ?_
  rintro e x2 ⟨rfl, hb⟩
  replace hL0 := hL0.call hb
  clear hb hweq
  have hA := hL0.fc
  simp only [fcG, cellsF, neK, and_true, ne_eq, Nat.zero_add, Nat.reduceAdd] at hA
  go_wp2_with fail
  exact bodyPost_ret (v := .tuple #[.int .i64 0, .bool false]) (by simp [results, Tryd.results28, go_sem, hA]) rfl ⟨rfl, hL0.bl⟩

set_option maxHeartbeats 4000000 in
set_option maxRecDepth 100000 in
theorem i64_false_out (m : Nat) (h : m < Bs) (h1 : (9223372036854775807 : Int) < (m : Int)) (w : World) :
    Calls Tryd.prog 28 #[zV false m] w fun e w' => e = .returned (.tuple #[.int .i64 0, .bool false]) ∧ Below w.heap.size w w' := by
  have hL0 : GL w w [] := GL.start w
  have HU := Lib.hid (fun w => u64_small m h w)
  have k1 : decide ((m : Int) ≤ 9223372036854775807) = false := decide_eq_false (by omega)
  clear h h1
  replace hL0 := (hL0.new rfl [.int .u64 ((lo m : Nat) : Int), .string (hs m), .bool false] 27)
  generalize hweq : (w.alloc (.cells #[.int .u64 ((lo m : Nat) : Int), .string (hs m), .bool false] 27)) = x1 at hL0
  go_enter Tryd.func28, Tryd.ntmps28
  have hA := hL0.fc
  simp only [fcG, cellsF, neK, and_true, ne_eq, Nat.zero_add, Nat.reduceAdd] at hA
  go_wp2_with fail
  clear hA
  with_reducible refine Calls.mono (HU.out _) ?_
  rintro e x2 ⟨rfl, hb⟩
  replace hL0 := hL0.call hb
  clear hb hweq
  have hA := hL0.fc
  simp only [fcG, cellsF, neK, and_true, ne_eq, Nat.zero_add, Nat.reduceAdd] at hA
  go_wp2_with fail
  exact bodyPost_ret (v := .tuple #[.int .i64 0, .bool false]) (by simp [results, Tryd.results28, go_sem, hA]) rfl ⟨rfl, hL0.bl⟩

set_option maxHeartbeats 4000000 in
set_option maxRecDepth 100000 in
theorem i64_false_in (m : Nat) (h : m < Bs) (h1 : (m : Int) ≤ 9223372036854775807) (w : World) :
    Calls Tryd.prog 28 #[zV false m] w fun e w' => e = .returned (.tuple #[.int .i64 (m : Int), .bool true]) ∧ Below w.heap.size w w' := by
  have hL0 : GL w w [] := GL.start w
  have HU := Lib.hid (fun w => u64_small m h w)
  have k1 : decide ((m : Int) ≤ 9223372036854775807) = true := decide_eq_true h1
  have kw : IntKind.i64.wrap (m : Int) = (m : Int) := IntWalk.i64_in _ (by omega)
  clear h h1
  replace hL0 := (hL0.new rfl [.int .u64 ((lo m : Nat) : Int), .string (hs m), .bool false] 27)
  generalize hweq : (w.alloc (.cells #[.int .u64 ((lo m : Nat) : Int), .string (hs m), .bool false] 27)) = x1 at hL0
  go_enter Tryd.func28, Tryd.ntmps28
  have hA := hL0.fc
  simp only [fcG, cellsF, neK, and_true, ne_eq, Nat.zero_add, Nat.reduceAdd] at hA
  go_wp2_with fail
  clear hA
  with_reducible refine Calls.mono (HU.out _) ?_
  rintro e x2 ⟨rfl, hb⟩
  replace hL0 := hL0.call hb
  clear hb hweq
  have hA := hL0.fc
  simp only [fcG, cellsF, neK, and_true, ne_eq, Nat.zero_add, Nat.reduceAdd] at hA
  go_wp2_with fail
  exact bodyPost_ret (v := .tuple #[.int .i64 (m : Int), .bool true]) (by simp [results, Tryd.results28, go_sem, hA]) rfl ⟨rfl, hL0.bl⟩

set_option maxHeartbeats 4000000 in
set_option maxRecDepth 100000 in
theorem i64_true_in (m : Nat) (h : m < Bs) (h1 : (m : Int) ≤ 9223372036854775808) (h2 : m ≠ 0) (w : World) :
    Calls Tryd.prog 28 #[zV true m] w fun e w' => e = .returned (.tuple #[.int .i64 (-(m : Int)), .bool true]) ∧ Below w.heap.size w w' := by
  have hL0 : GL w w [] := GL.start w
  have HU := Lib.hid (fun w => u64_small m h w)
  have k1 : decide ((m : Int) ≤ 9223372036854775808) = true := decide_eq_true h1
  obtain ⟨q, hq⟩ : ∃ q : Nat, (q : Int) = 18446744073709551616 - m := ⟨(18446744073709551616 - (m : Int)).toNat, by omega⟩
  have kw : IntKind.u64.wrap (-(m : Int)) = (q : Int) := by rw [IntKind.wrap_u64]; omega
  have kw2 : IntKind.i64.wrap (q : Int) = -(m : Int) := by rw [IntKind.wrap_i64]; omega
  clear hq
  clear h h1 h2
  replace hL0 := (hL0.new rfl [.int .u64 ((lo m : Nat) : Int), .string (hs m), .bool true] 27)
  generalize hweq : (w.alloc (.cells #[.int .u64 ((lo m : Nat) : Int), .string (hs m), .bool true] 27)) = x1 at hL0
  go_enter Tryd.func28, Tryd.ntmps28
  have hA := hL0.fc
  simp only [fcG, cellsF, neK, and_true, ne_eq, Nat.zero_add, Nat.reduceAdd] at hA
  go_wp2_with fail
  clear hA
  with_reducible refine Calls.mono (HU.out _) ?_
  rintro e x2 ⟨rfl, hb⟩
  replace hL0 := hL0.call hb
  clear hb hweq
  have hA := hL0.fc
  simp only [fcG, cellsF, neK, and_true, ne_eq, Nat.zero_add, Nat.reduceAdd] at hA
  go_wp2_with fail
  exact bodyPost_ret (v := .tuple #[.int .i64 (-(m : Int)), .bool true]) (by simp [results, Tryd.results28, go_sem, hA]) rfl ⟨rfl, hL0.bl⟩

end Go.Proofs.YthehcjfmokabfaaDoor

namespace Go.Proofs.YthehcjfmokabfaaDoor
open Go.RowKit
attribute [local irreducible] lo hs

def zl (z : Int) : Nat := lo z.natAbs
def zh (z : Int) : ByteArray := hs z.natAbs
def zs (z : Int) : Bool := decide (z < 0)
/-- An integer. -/
abbrev intV (z : Int) : Value := .agg #[.int .u64 ((zl z : Nat) : Int), .string (zh z), .bool (zs z)]
theorem intV_zV (z : Int) : intV z = zV (decide (z < 0)) z.natAbs := rfl
theorem res_f {z : Int} {k : Nat} (h : z = (k : Int)) : intV z = zV false k := by subst h; rw [intV_zV, decide_eq_false (by omega), Int.natAbs_natCast]
theorem res_m {z : Int} {k : Nat} (h : z = -(k : Int)) : intV z = zV (decide (k ≠ 0)) k := by
  subst h
  rw [intV_zV, Int.natAbs_neg, Int.natAbs_natCast]
  congr 1
  by_cases h0 : k = 0
  · subst h0; rfl
  · rw [decide_eq_true (by omega), decide_eq_true h0]
theorem res_t {z : Int} {k : Nat} (h : z = -(k : Int)) (h0 : k ≠ 0) : intV z = zV true k := by rw [res_m h, decide_eq_true h0]
theorem int_cases (z : Int) : (∃ m : Nat, z = (m : Int) ∧ intV z = zV false m) ∨ (∃ m : Nat, m ≠ 0 ∧ z = -(m : Int) ∧ intV z = zV true m) := by
  rcases Decidable.em (z < 0) with h | h
  · exact .inr ⟨z.natAbs, by omega, by omega, res_t (by omega) (by omega)⟩
  · exact .inl ⟨z.natAbs, by omega, res_f (by omega)⟩
theorem intV_inj {x y : Int} (h : intV x = intV y) : x = y := by
  rw [intV_zV, intV_zV] at h
  simp only [zV, Value.agg.injEq, Array.mk.injEq, List.cons.injEq, Value.int.injEq, Value.string.injEq, Value.bool.injEq, and_true, true_and] at h
  obtain ⟨h1, h2, h3⟩ := h
  have h4 : x.natAbs = y.natAbs := natV_inj (by unfold natV; rw [h1, h2])
  by_cases hx : x < 0
  · rw [decide_eq_true hx] at h3
    have : y < 0 := by simpa using h3.symm
    omega
  · rw [decide_eq_false hx] at h3
    have : ¬ y < 0 := by simpa using h3.symm
    omega
/-- What == sees of two integers that differ. -/
theorem ne_int {x y : Int} (h : x ≠ y) : (((zl x : Nat) : Int) == ((zl y : Nat) : Int)) = false ∨ ((((zl x : Nat) : Int) == ((zl y : Nat) : Int)) = true ∧ ((zh x).toList == (zh y).toList) = false) ∨
    ((((zl x : Nat) : Int) == ((zl y : Nat) : Int)) = true ∧ ((zh x).toList == (zh y).toList) = true ∧ (zs x == zs y) = false) := by
  by_cases h1 : zl x = zl y
  · right
    have e1 : (((zl x : Nat) : Int) == ((zl y : Nat) : Int)) = true := by rw [h1]; exact beq_self_eq_true _
    by_cases h2 : zh x = zh y
    · right
      refine ⟨e1, by rw [h2]; exact beq_self_eq_true _, ?_⟩
      rw [beq_eq_false_iff_ne]
      intro h3
      exact h (intV_inj (by unfold intV; rw [h1, h2, h3]))
    · left
      refine ⟨e1, beq_eq_false_iff_ne.2 fun h3 => h2 ?_⟩
      unfold zh at h3 ⊢
      rw [hs_toList, hs_toList] at h3
      have h4 := hiB_inj h3
      have h5 := divmod x.natAbs
      have h6 := divmod y.natAbs
      have h7 : lo x.natAbs = lo y.natAbs := h1
      rw [h4, h7, ← h6] at h5
      rw [h5]
  · left
    exact beq_eq_false_iff_ne.2 fun h2 => h1 (by omega)

/-- The words that an integer's absolute value takes. -/
abbrev dI (z : Int) : Nat := (digs z.natAbs).length
theorem dI_nat (n : Nat) : dI (n : Int) = (digs n).length := by unfold dI; rw [Int.natAbs_natCast]
theorem dI_neg (z : Int) : dI (-z) = dI z := by unfold dI; rw [Int.natAbs_neg]
theorem dI_add {x y : Int} {k : Nat} (hx : dI x ≤ k) (hy : dI y ≤ k) : dI (x + y) ≤ k + 1 :=
  Nat.le_trans (digs_mono (Int.natAbs_add_le x y)) (digs_add_le hx hy)
theorem dI_sub {x y : Int} {k : Nat} (hx : dI x ≤ k) (hy : dI y ≤ k) : dI (x - y) ≤ k + 1 := by
  rw [Int.sub_eq_add_neg]; exact dI_add hx (by rw [dI_neg]; exact hy)
theorem dI_mul {x y : Int} {k m : Nat} (hx : dI x ≤ k) (hy : dI y ≤ m) : dI (x * y) ≤ k + m := by
  unfold dI; rw [Int.natAbs_mul]; exact digs_mul_le hx hy
theorem dI_mono {x y : Int} (h : x.natAbs ≤ y.natAbs) : dI x ≤ dI y := digs_mono h

theorem fromI (s : Bool) (n : Nat) (z : Int) (hz : z = if s then -(n : Int) else (n : Int)) (w : World) : Calls Tryd.prog 22 #[.bool s, natV n] w fun e w' => e = .returned (intV z) ∧ Below w.heap.size w w' := by
  cases s with
  | false => rw [res_f (z := z) (by simpa using hz)]; exact from_pos n w
  | true =>
    rw [res_m (z := z) (by simpa using hz)]
    have := from_any true n w
    rwa [Bool.true_and] at this
theorem ofI (z : Int) (h1 : -9223372036854775808 ≤ z) (h2 : z < 9223372036854775808) (w : World) : Calls Tryd.prog 27 #[.int .i64 z] w fun e w' => e = .returned (intV z) ∧ Below w.heap.size w w' := by
  rcases Decidable.em (z < 0) with h | h
  · obtain ⟨m, hm⟩ : ∃ m : Nat, z = -(m : Int) := ⟨z.natAbs, by omega⟩
    rw [res_t hm (by omega)]; exact ofn_any z m hm (by omega) (by omega) w
  · obtain ⟨m, rfl⟩ : ∃ m : Nat, z = (m : Int) := ⟨z.natAbs, by omega⟩
    rw [res_f rfl]; exact ofp_any m (by omega) w
theorem absI (z : Int) (w : World) : Calls Tryd.prog 20 #[intV z] w fun e w' => e = .returned (natV z.natAbs) ∧ Below w.heap.size w w' := abs_any _ _ w
def sgn (z : Int) : Int := if z < 0 then -1 else if z = 0 then 0 else 1
theorem signI (z : Int) (w : World) : Calls Tryd.prog 19 #[intV z] w fun e w' => e = .returned (.int .i64 (sgn z)) ∧ Below w.heap.size w w' := by
  rcases int_cases z with ⟨m, rfl, h⟩ | ⟨m, h0, rfl, h⟩ <;> rw [h]
  · by_cases h0 : m = 0
    · subst h0; exact sign_zero w
    · rw [show sgn (m : Int) = 1 by unfold sgn; rw [if_neg (by omega), if_neg (by omega)]]; exact sign_pos m h0 w
  · rw [show sgn (-(m : Int)) = -1 by unfold sgn; rw [if_pos (by omega)]]; exact sign_neg m w
theorem negI (z : Int) (w : World) : Calls Tryd.prog 26 #[intV z] w fun e w' => e = .returned (intV (-z)) ∧ Below w.heap.size w w' := by
  rcases int_cases z with ⟨m, rfl, h⟩ | ⟨m, h0, rfl, h⟩ <;> rw [h]
  · rw [res_m (z := -(m : Int)) rfl]; exact neg_false m w
  · rw [res_f (z := -(-(m : Int))) (k := m) (by omega)]; exact neg_true m w
def cmpZ (x y : Int) : Int := if x < y then -1 else if x = y then 0 else 1
theorem cmpII (x y : Int) (w : World) : Calls Tryd.prog 24 #[intV x, intV y] w fun e w' => e = .returned (.int .i64 (cmpZ x y)) ∧ Below w.heap.size w w' := by
  rcases int_cases x with ⟨m, rfl, hx⟩ | ⟨m, hm, rfl, hx⟩ <;> rcases int_cases y with ⟨n, rfl, hy⟩ | ⟨n, hn, rfl, hy⟩ <;> rw [hx, hy]
  · rw [show cmpZ (m : Int) (n : Int) = cmpI m n by unfold cmpZ cmpI; split <;> split <;> (try split) <;> (try split) <;> omega]; exact icmp_false_false m n w
  · rw [show cmpZ (m : Int) (-(n : Int)) = 1 by unfold cmpZ; rw [if_neg (by omega), if_neg (by omega)]]; exact icmp_false_true m n w
  · rw [show cmpZ (-(m : Int)) (n : Int) = -1 by unfold cmpZ; rw [if_pos (by omega)]]; exact icmp_true_false m n w
  · rw [show cmpZ (-(m : Int)) (-(n : Int)) = cmpI n m by unfold cmpZ cmpI; split <;> split <;> (try split) <;> (try split) <;> omega]; exact icmp_true_true m n w
theorem mulI (x y : Int) (hx : dI x ≤ 1000000000) (hy : dI y ≤ 1000000000) (w : World) : Calls Tryd.prog 18 #[intV x, intV y] w fun e w' => e = .returned (intV (x * y)) ∧ Below w.heap.size w w' := by
  rcases int_cases x with ⟨m, rfl, ex⟩ | ⟨m, hm, rfl, ex⟩ <;> rcases int_cases y with ⟨n, rfl, ey⟩ | ⟨n, hn, rfl, ey⟩ <;> rw [ex, ey] <;> simp only [dI_neg, dI_nat] at hx hy
  · rw [res_f (k := m * n) (by simp)]; exact imul_false_false m n hx hy w
  · rw [res_m (k := m * n) (by simp [Int.mul_neg])]; exact imul_false_true m n hx hy w
  · rw [res_m (k := m * n) (by simp [Int.neg_mul])]; exact imul_true_false m n hx hy w
  · rw [res_f (k := m * n) (by simp [Int.neg_mul, Int.mul_neg])]; exact imul_true_true m n hx hy w
theorem addI (x y : Int) (hx : dI x ≤ 1000000000) (hy : dI y ≤ 1000000000) (w : World) : Calls Tryd.prog 17 #[intV x, intV y] w fun e w' => e = .returned (intV (x + y)) ∧ Below w.heap.size w w' := by
  rcases int_cases x with ⟨m, rfl, ex⟩ | ⟨m, hm, rfl, ex⟩ <;> rcases int_cases y with ⟨n, rfl, ey⟩ | ⟨n, hn, rfl, ey⟩ <;> rw [ex, ey] <;> simp only [dI_neg, dI_nat] at hx hy
  · rw [res_f (k := m + n) (by omega)]; exact iadd _ _ _ m n _ (byadd_false_false m n _ _ (out_false m n hx hy)) w
  · rcases Nat.lt_or_ge m n with h | h
    · rw [res_m (k := n - m) (by omega)]; exact iadd _ _ _ m n _ (byadd_false_true m n _ _ (in_false_lt m n h hx hy)) w
    · rw [res_f (k := m - n) (by omega)]; exact iadd _ _ _ m n _ (byadd_false_true m n _ _ (in_false_ge m n h hx hy)) w
  · rcases Nat.lt_or_ge m n with h | h
    · rw [res_f (k := n - m) (by omega)]; exact iadd _ _ _ m n _ (byadd_true_false m n _ _ (in_true_lt m n h hx hy)) w
    · rw [res_m (k := m - n) (by omega)]; exact iadd _ _ _ m n _ (byadd_true_false m n _ _ (in_true_ge m n h hx hy)) w
  · rw [res_m (k := m + n) (by omega)]; exact iadd _ _ _ m n _ (byadd_true_true m n _ _ (out_true m n hx hy)) w
theorem subI (x y : Int) (hx : dI x ≤ 1000000000) (hy : dI y ≤ 1000000000) (w : World) : Calls Tryd.prog 25 #[intV x, intV y] w fun e w' => e = .returned (intV (x - y)) ∧ Below w.heap.size w w' := by
  rcases int_cases x with ⟨m, rfl, ex⟩ | ⟨m, hm, rfl, ex⟩ <;> rcases int_cases y with ⟨n, rfl, ey⟩ | ⟨n, hn, rfl, ey⟩ <;> rw [ex, ey] <;> simp only [dI_neg, dI_nat] at hx hy
  · rcases Nat.lt_or_ge m n with h | h
    · rw [res_m (k := n - m) (by omega)]; exact isub _ _ _ m n _ (bysub_false_false m n _ _ (in_false_lt m n h hx hy)) w
    · rw [res_f (k := m - n) (by omega)]; exact isub _ _ _ m n _ (bysub_false_false m n _ _ (in_false_ge m n h hx hy)) w
  · rw [res_f (k := m + n) (by omega)]; exact isub _ _ _ m n _ (bysub_false_true m n _ _ (out_false m n hx hy)) w
  · rw [res_m (k := m + n) (by omega)]; exact isub _ _ _ m n _ (bysub_true_false m n _ _ (out_true m n hx hy)) w
  · rcases Nat.lt_or_ge m n with h | h
    · rw [res_f (k := n - m) (by omega)]; exact isub _ _ _ m n _ (bysub_true_true m n _ _ (in_true_lt m n h hx hy)) w
    · rw [res_m (k := m - n) (by omega)]; exact isub _ _ _ m n _ (bysub_true_true m n _ _ (in_true_ge m n h hx hy)) w
theorem intV_zero : intV 0 = zV false 0 := res_f rfl
theorem div0I (x : Int) (w : World) : Calls Tryd.prog 23 #[intV x, intV 0] w fun e w' => e = .returned (.tuple #[intV 0, intV 0, .bool false]) ∧ Below w.heap.size w w' := by
  rcases int_cases x with ⟨m, rfl, ex⟩ | ⟨m, hm, rfl, ex⟩ <;> rw [ex, intV_zero]
  · exact idiv0_false m w
  · exact idiv0_true m w
theorem ediv_neg_pos {m n : Nat} (h0 : n ≠ 0) (hr : m % n ≠ 0) : -(m : Int) / (n : Int) = -((m / n + 1 : Nat) : Int) ∧ -(m : Int) % (n : Int) = ((n - m % n : Nat) : Int) := by
  have h1 := Nat.div_add_mod m n
  have h2 := Nat.mod_lt m (Nat.pos_of_ne_zero h0)
  refine (Int.ediv_emod_unique (by omega)).2 ⟨?_, by omega, by omega⟩
  have h3 : (m : Int) = (n : Int) * ((m / n : Nat) : Int) + ((m % n : Nat) : Int) := by
    have := congrArg (fun x : Nat => (x : Int)) h1
    simpa using this.symm
  have h4 : (n : Int) * -((m / n + 1 : Nat) : Int) = -((n : Int) * ((m / n : Nat) : Int)) - (n : Int) := by
    rw [Int.mul_neg, Int.natCast_add, Int.mul_add]; omega
  rw [h4]
  generalize (n : Int) * ((m / n : Nat) : Int) = X at *
  omega
theorem ediv_neg_zero {m n : Nat} (h0 : n ≠ 0) (hr : m % n = 0) : -(m : Int) / (n : Int) = -((m / n : Nat) : Int) ∧ -(m : Int) % (n : Int) = 0 := by
  have h1 := Nat.div_add_mod m n
  refine (Int.ediv_emod_unique (by omega)).2 ⟨?_, by omega, by omega⟩
  rw [hr, Nat.add_zero] at h1
  have h3 : (m : Int) = (n : Int) * ((m / n : Nat) : Int) := by
    have := congrArg (fun x : Nat => (x : Int)) h1
    simpa using this.symm
  rw [Int.mul_neg]
  omega
theorem divI (x y : Int) (h0 : y ≠ 0) (hx : dI x ≤ 1000000000) (hy : dI y ≤ 1000000000) (w : World) : Calls Tryd.prog 23 #[intV x, intV y] w fun e w' => e = .returned (.tuple #[intV (x / y), intV (x % y), .bool true]) ∧ Below w.heap.size w w' := by
  rcases int_cases x with ⟨m, rfl, ex⟩ | ⟨m, hm, rfl, ex⟩ <;> rcases int_cases y with ⟨n, rfl, ey⟩ | ⟨n, hn, rfl, ey⟩ <;> rw [ex, ey] <;> simp only [dI_neg, dI_nat] at hx hy
  · rw [← Int.natCast_ediv, ← Int.natCast_emod, res_f (k := m / n) rfl, res_f (k := m % n) rfl]; exact idiv_false_false m n (by omega) hx hy w
  · rw [Int.ediv_neg, Int.emod_neg, ← Int.natCast_ediv, ← Int.natCast_emod, res_m (k := m / n) rfl, res_f (k := m % n) rfl]; exact idiv_false_true m n hn hx hy w
  · by_cases hr : m % n = 0
    · obtain ⟨e1, e2⟩ := ediv_neg_zero (m := m) (n := n) (by omega) hr
      rw [e1, e2, res_m (k := m / n) rfl, intV_zero]; exact idiv_true_false_1 m n (by omega) hr hx hy w
    · obtain ⟨e1, e2⟩ := ediv_neg_pos (m := m) (n := n) (by omega) hr
      rw [e1, e2, res_m (k := m / n + 1) rfl, res_f (k := n - m % n) rfl]; exact idiv_true_false_2 m n (by omega) hr hx hy w
  · rw [Int.ediv_neg, Int.emod_neg]
    by_cases hr : m % n = 0
    · obtain ⟨e1, e2⟩ := ediv_neg_zero (m := m) (n := n) hn hr
      rw [e1, e2, res_f (k := m / n) (Int.neg_neg _), intV_zero]; exact idiv_true_true_1 m n hn hr hx hy w
    · obtain ⟨e1, e2⟩ := ediv_neg_pos (m := m) (n := n) hn hr
      rw [e1, e2, res_f (k := m / n + 1) (Int.neg_neg _), res_f (k := n - m % n) rfl]; exact idiv_true_true_2 m n hn hr hx hy w
/-- The decimal form. -/
def ztxt (z : Int) : ByteArray := if z < 0 then ByteArray.mk #[45] ++ txt z.natAbs else txt z.natAbs
theorem textI (z : Int) (hz : dI z ≤ 1000000) (w : World) (htab : Tab w) : Calls Tryd.prog 11 #[intV z] w fun e w' => e = .returned (.string (ztxt z)) ∧ Below w.heap.size w w' := by
  rcases int_cases z with ⟨m, rfl, h⟩ | ⟨m, h0, rfl, h⟩ <;> rw [h] <;> simp only [dI_neg, dI_nat] at hz <;> unfold ztxt
  · rw [if_neg (by omega), Int.natAbs_natCast]; exact itext_false m hz w htab
  · rw [if_pos (by omega), Int.natAbs_neg, Int.natAbs_natCast]; exact itext_true m hz w htab
def in64 (z : Int) : Bool := decide (-9223372036854775808 ≤ z ∧ z ≤ 9223372036854775807)
theorem i64I (z : Int) (w : World) : Calls Tryd.prog 28 #[intV z] w fun e w' => e = .returned (.tuple #[.int .i64 (if in64 z then z else 0), .bool (in64 z)]) ∧ Below w.heap.size w w' := by
  have hB : (Bs : Int) = 18446744073709551616 := rfl
  rcases int_cases z with ⟨m, rfl, h⟩ | ⟨m, h0, rfl, h⟩ <;> rw [h]
  · by_cases h1 : (m : Int) ≤ 9223372036854775807
    · rw [show in64 (m : Int) = true from decide_eq_true ⟨by omega, h1⟩, if_pos rfl]
      exact i64_false_in m (by omega) h1 w
    · rw [show in64 (m : Int) = false from decide_eq_false (fun h => h1 h.2), if_neg Bool.false_ne_true]
      by_cases h2 : m < Bs
      · exact i64_false_out m h2 (by omega) w
      · exact i64_false_big m (by omega) w
  · by_cases h1 : (m : Int) ≤ 9223372036854775808
    · rw [show in64 (-(m : Int)) = true from decide_eq_true ⟨by omega, by omega⟩, if_pos rfl]
      exact i64_true_in m (by omega) h1 h0 w
    · rw [show in64 (-(m : Int)) = false from decide_eq_false (fun h => h1 (by omega)), if_neg Bool.false_ne_true]
      by_cases h2 : m < Bs
      · exact i64_true_out m h2 (by omega) w
      · exact i64_true_big m (by omega) w
end Go.Proofs.YthehcjfmokabfaaDoor

namespace Go.Proofs.YthehcjfmokabfaaDoor
open Go.RowKit
attribute [local irreducible] lo hs

/-- The document's recursion. -/
def xgcd (a b : Int) : Int × Int × Int :=
  if h : b = 0 then ((a.natAbs : Int), sgn a, 0)
  else let r := xgcd b (a % b); (r.1, r.2.2, r.2.1 - a / b * r.2.2)
termination_by b.natAbs
decreasing_by
  have h1 := Int.emod_lt a h
  have h2 := Int.emod_nonneg a h
  omega
theorem xgcd_zero (a : Int) : xgcd a 0 = ((a.natAbs : Int), sgn a, 0) := by rw [xgcd]; simp
theorem xgcd_step {a b : Int} (h : b ≠ 0) : xgcd a b = ((xgcd b (a % b)).1, (xgcd b (a % b)).2.2, (xgcd b (a % b)).2.1 - a / b * (xgcd b (a % b)).2.2) := by rw [xgcd, dif_neg h]
theorem sgn_mul (a : Int) : sgn a * a = (a.natAbs : Int) := by unfold sgn; split <;> (try split) <;> simp <;> omega
theorem xgcd_bez : ∀ (n : Nat) (a b : Int), b.natAbs ≤ n → a * (xgcd a b).2.1 + b * (xgcd a b).2.2 = (xgcd a b).1 ∧ (xgcd a b).1 = (Nat.gcd a.natAbs b.natAbs : Nat) := by
  intro n
  induction n with
  | zero =>
    intro a b h
    obtain rfl : b = 0 := by omega
    rw [xgcd_zero]
    refine ⟨?_, by simp⟩
    have := sgn_mul a
    show a * sgn a + 0 * 0 = (a.natAbs : Int)
    rw [Int.mul_comm]; omega
  | succ n ih =>
    intro a b h
    by_cases hb : b = 0
    · subst hb
      rw [xgcd_zero]
      refine ⟨?_, by simp⟩
      have := sgn_mul a
      show a * sgn a + 0 * 0 = (a.natAbs : Int)
      rw [Int.mul_comm]; omega
    · have h1 := Int.emod_lt a hb
      have h2 := Int.emod_nonneg a hb
      obtain ⟨i1, i2⟩ := ih b (a % b) (by omega)
      rw [xgcd_step hb]
      refine ⟨?_, ?_⟩
      · show a * (xgcd b (a % b)).2.2 + b * ((xgcd b (a % b)).2.1 - a / b * (xgcd b (a % b)).2.2) = (xgcd b (a % b)).1
        rw [← i1]
        have h3 := Int.mul_ediv_add_emod a b
        generalize (xgcd b (a % b)).2.1 = p
        generalize (xgcd b (a % b)).2.2 = q
        generalize a % b = r at *
        generalize a / b = c at *
        grind
      · show (xgcd b (a % b)).1 = _
        rw [i2]
        show ((Int.gcd b (a % b) : Nat) : Int) = ((Int.gcd a b : Nat) : Int)
        congr 1
        rw [Int.emod_def, Int.gcd_sub_mul_left_right, Int.gcd_comm]
/-- What the rounds keep. -/
structure GI (a b G X N Y : Int) : Prop where
  g : (xgcd a b).1 = (xgcd G N).1
  x : (xgcd a b).2.1 = (xgcd G N).2.1 * X + (xgcd G N).2.2 * Y
  s : (G = a ∧ X = 1 ∧ N = b ∧ Y = 0) ∨ (G = b ∧ X = 0 ∧ Y = 1 ∧ 0 ≤ N ∧ N < b.natAbs) ∨
    (0 < G ∧ 0 ≤ N ∧ N < G ∧ X.natAbs ≤ 3 * b.natAbs ∧ X.natAbs * N.natAbs + Y.natAbs * G.natAbs ≤ 3 * b.natAbs ∧ G ≤ b.natAbs)
theorem GI.start (a b : Int) : GI a b a 1 b 0 := ⟨rfl, by omega, .inl ⟨rfl, rfl, rfl, rfl⟩⟩
theorem GI.next {a b G X N Y : Int} (h : GI a b G X N Y) (hN : N ≠ 0) : GI a b N Y (G % N) (X - G / N * Y) := by
  have e := xgcd_step (a := G) hN
  have n1 := Int.emod_lt G hN
  have n2 := Int.emod_nonneg G hN
  have n3 := Int.mul_ediv_add_emod G N
  refine ⟨by rw [h.g, e], ?_, ?_⟩
  · rw [h.x, e]
    show (xgcd N (G % N)).2.2 * X + ((xgcd N (G % N)).2.1 - G / N * (xgcd N (G % N)).2.2) * Y = _
    generalize (xgcd N (G % N)).2.1 = p
    generalize (xgcd N (G % N)).2.2 = q
    generalize G / N = c
    grind
  · rcases h.s with ⟨rfl, rfl, rfl, rfl⟩ | ⟨rfl, rfl, rfl, h1, h2⟩ | ⟨h1, h2, h3, h4, h5, h6⟩
    · exact .inr (.inl ⟨rfl, rfl, by omega, n2, n1⟩)
    · refine .inr (.inr ⟨by omega, n2, by omega, by omega, ?_, by omega⟩)
      generalize hr : G % N = r at *
      generalize hq : G / N = q at *
      have e1 : (0 - q * 1).natAbs * N.natAbs = (N * q).natAbs := by rw [Int.natAbs_mul, Nat.mul_comm]; congr 1; omega
      have e2 : N * q = G - r := by omega
      rw [e1, e2]
      rw [show (1 : Int).natAbs = 1 from rfl, Nat.one_mul]
      omega
    · have y1 : Y.natAbs ≤ 3 * b.natAbs := by
        have : Y.natAbs * 1 ≤ Y.natAbs * G.natAbs := Nat.mul_le_mul_left _ (by omega)
        omega
      refine .inr (.inr ⟨by omega, n2, by omega, y1, ?_, by omega⟩)
      have q0 : 0 ≤ G / N := Int.ediv_nonneg (by omega) (by omega)
      generalize hr : G % N = r at *
      generalize hq : G / N = q at *
      refine Nat.le_trans ?_ h5
      have t1 : (X - q * Y).natAbs ≤ X.natAbs + q.natAbs * Y.natAbs := by
        have := Int.natAbs_sub_le X (q * Y)
        rwa [Int.natAbs_mul] at this
      have t2 := Nat.mul_le_mul_right N.natAbs t1
      have t3 : G.natAbs = N.natAbs * q.natAbs + r.natAbs := by
        have : (N * q).natAbs = N.natAbs * q.natAbs := Int.natAbs_mul _ _
        have h0 : 0 ≤ N * q := Int.mul_nonneg (by omega) q0
        omega
      rw [t3, Nat.mul_add]
      rw [Nat.add_mul] at t2
      have t4 : Y.natAbs * (N.natAbs * q.natAbs) = q.natAbs * Y.natAbs * N.natAbs := by
        rw [Nat.mul_comm q.natAbs, Nat.mul_assoc, Nat.mul_comm q.natAbs]
      omega
theorem GI.bounds {a b G X N Y : Int} (h : GI a b G X N Y) {k : Nat} (ha : dI a ≤ k) (hb : dI b ≤ k) : dI G ≤ k ∧ dI N ≤ k ∧ dI X ≤ k + 1 ∧ (N ≠ 0 → dI Y ≤ k + 1) := by
  have h3 : ∀ z : Int, z.natAbs ≤ 3 * b.natAbs + 1 → dI z ≤ k + 1 := fun z hz => by
    have := digs_length_iff.1 hb
    refine digs_length_iff.2 ?_
    rw [Nat.pow_succ]
    have hB : 16 ≤ Bs := by unfold Bs; omega
    have hp : 0 < Bs ^ k := Nat.pow_pos (by omega)
    have h5 : Bs ^ k * 16 ≤ Bs ^ k * Bs := Nat.mul_le_mul_left _ hB
    generalize Bs ^ k = P at *
    generalize P * Bs = R at *
    omega
  rcases h.s with ⟨rfl, rfl, rfl, rfl⟩ | ⟨rfl, rfl, rfl, h1, h2⟩ | ⟨h1, h2, h3', h4, h5, h6⟩
  · exact ⟨ha, hb, h3 1 (by omega), fun _ => h3 0 (by omega)⟩
  · exact ⟨hb, Nat.le_trans (dI_mono (by omega)) hb, h3 0 (by omega), fun _ => h3 1 (by omega)⟩
  · refine ⟨Nat.le_trans (dI_mono (by omega)) hb, Nat.le_trans (dI_mono (by omega)) hb, h3 X (by omega), fun _ => h3 Y ?_⟩
    have : Y.natAbs * 1 ≤ Y.natAbs * G.natAbs := Nat.mul_le_mul_left _ (by omega)
    omega
theorem xgcd_y {a b : Int} (hb : b ≠ 0) : ((xgcd a b).1 - a * (xgcd a b).2.1) / b = (xgcd a b).2.2 := by
  have h := (xgcd_bez _ a b (Nat.le_refl _)).1
  rw [show (xgcd a b).1 - a * (xgcd a b).2.1 = b * (xgcd a b).2.2 by omega]
  exact Int.mul_ediv_cancel_left _ hb
theorem GI.last {a b G X Y : Int} (h : GI a b G X 0 Y) : (xgcd a b).1 = sgn G * G ∧ (xgcd a b).2.1 = sgn G * X := by
  refine ⟨by rw [h.g, xgcd_zero, sgn_mul], ?_⟩
  rw [h.x, xgcd_zero]
  show sgn G * X + 0 * Y = _
  omega
end Go.Proofs.YthehcjfmokabfaaDoor
