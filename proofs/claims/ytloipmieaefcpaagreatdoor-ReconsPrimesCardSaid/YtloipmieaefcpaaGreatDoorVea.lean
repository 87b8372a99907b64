/-
  The law answers true at every input, and leaves its arguments as they were: a part of the proof. CONDITIONS: the package-level tables start as the program's text lays them (the card ties them).
-/
import Derived.Test.YtloipmieaefcpaaGreatDoorZad
import Derived.Deep.Cut
import Derived.Test.YtloipmieaefcpaaGreatDoorRows
set_option linter.unusedVariables false
set_option linter.unusedSimpArgs false
namespace Go.Proofs.YtloipmieaefcpaaGreatDoor
open Go.RowKit
theorem u64_small (n : Nat) (h : n < Bs) (w : World) :
  Calls Tryz.prog 19 #[natV n] w fun e w' => e = .returned (.tuple #[.int .u64 ((n : Nat) : Int), .bool true]) ∧ Below w.heap.size w w' := by
 have hsm := sm_true.2 h
 have HL := Lib.hid (lo_small h)
 go_enter Tryz.func19, Tryz.ntmps19
 go_wp2_with fail
 refine (small_any n _).mono ?_
 rintro e w1 ⟨rfl, hb1⟩
 obtain ⟨hc1, hf1⟩ := bcell hb1
 go_wp2
 go_ret2
 exact ⟨congrArg (fun k : Nat => Ending.returned (.tuple #[.int .u64 (k : Int), .bool true])) HL.out, ((Below.refl _ _).alloc (Nat.le_refl _) _).trans (hb1.mono (by simp))⟩
theorem u64_big (n : Nat) (h : Bs ≤ n) (w : World) :
  Calls Tryz.prog 19 #[natV n] w fun e w' => e = .returned (.tuple #[.int .u64 0, .bool false]) ∧ Below w.heap.size w w' := by
 have hsm := sm_false.2 h
 go_enter Tryz.func19, Tryz.ntmps19
 go_wp2_with fail
 refine (small_any n _).mono ?_
 rintro e w1 ⟨rfl, hb1⟩
 obtain ⟨hc1, hf1⟩ := bcell hb1
 go_wp2
 go_ret2
 exact ⟨rfl, ((Below.refl _ _).alloc (Nat.le_refl _) _).trans (hb1.mono (by simp))⟩
end Go.Proofs.YtloipmieaefcpaaGreatDoor
namespace Go.Proofs.YtloipmieaefcpaaGreatDoor
open Go.RowKit
attribute [local irreducible] lo hs sm s64 c64 d64 b64 mh ml pd pc qd qc val hiB str cmpI srD lz nb isq
set_option maxHeartbeats 4000000 in
set_option maxRecDepth 100000 in
theorem i64_true_big (m : Nat) (h : Bs ≤ m) (w : World) :
  Calls Tryz.prog 17 #[zV true m] w fun e w' => e = .returned (.tuple #[.int .i64 0, .bool false]) ∧ Below w.heap.size w w' := by
 have hL0 : GL w w [] := GL.start w
 have HU := Lib.hid (fun w => u64_big m h w)
 clear h
 replace hL0 := (hL0.new rfl [.int .u64 ((lo m : Nat) : Int), .string (hs m), .bool true] 28)
 generalize hweq : (w.alloc (.cells #[.int .u64 ((lo m : Nat) : Int), .string (hs m), .bool true] 28)) = x1 at hL0
 go_enter Tryz.func17, Tryz.ntmps17
 have hA := hL0.fc
 simp only [fcG, cellsF, neK, and_true, ne_eq, Nat.zero_add, Nat.reduceAdd] at hA
 go_wp2_with fail
 clear hA
 with_reducible refine Calls.mono (HU.out _) ?_
 rintro e x2 ⟨rfl, hb⟩
 replace hL0 := hL0.call hb
 clear hb hweq
 have hA := hL0.fc
 simp only [fcG, cellsF, neK, and_true, ne_eq, Nat.zero_add, Nat.reduceAdd] at hA
 go_wp2_with fail
 exact bodyPost_ret (v := .tuple #[.int .i64 0, .bool false]) (by simp [results, Tryz.results17, go_sem, hA]) rfl ⟨rfl, hL0.bl⟩
set_option maxHeartbeats 4000000 in
set_option maxRecDepth 100000 in
theorem i64_true_out (m : Nat) (h : m < Bs) (h1 : (9223372036854775808 : Int) < (m : Int)) (w : World) :
  Calls Tryz.prog 17 #[zV true m] w fun e w' => e = .returned (.tuple #[.int .i64 0, .bool false]) ∧ Below w.heap.size w w' := by
 have hL0 : GL w w [] := GL.start w
 have HU := Lib.hid (fun w => u64_small m h w)
 have k1 : decide ((m : Int) ≤ 9223372036854775808) = false := decide_eq_false (by omega)
 clear h h1
 replace hL0 := (hL0.new rfl [.int .u64 ((lo m : Nat) : Int), .string (hs m), .bool true] 28)
 generalize hweq : (w.alloc (.cells #[.int .u64 ((lo m : Nat) : Int), .string (hs m), .bool true] 28)) = x1 at hL0
 go_enter Tryz.func17, Tryz.ntmps17
 have hA := hL0.fc
 simp only [fcG, cellsF, neK, and_true, ne_eq, Nat.zero_add, Nat.reduceAdd] at hA
 go_wp2_with fail
 clear hA
 with_reducible refine Calls.mono (HU.out _) ?_
 rintro e x2 ⟨rfl, hb⟩
 replace hL0 := hL0.call hb
 clear hb hweq
 have hA := hL0.fc
 simp only [fcG, cellsF, neK, and_true, ne_eq, Nat.zero_add, Nat.reduceAdd] at hA
 go_wp2_with fail
 exact bodyPost_ret (v := .tuple #[.int .i64 0, .bool false]) (by simp [results, Tryz.results17, go_sem, hA]) rfl ⟨rfl, hL0.bl⟩
set_option maxHeartbeats 4000000 in
set_option maxRecDepth 100000 in
theorem i64_false_big (m : Nat) (h : Bs ≤ m) (w : World) :
  Calls Tryz.prog 17 #[zV false m] w fun e w' => e = .returned (.tuple #[.int .i64 0, .bool false]) ∧ Below w.heap.size w w' := by
 have hL0 : GL w w [] := GL.start w
 have HU := Lib.hid (fun w => u64_big m h w)
 clear h
 replace hL0 := (hL0.new rfl [.int .u64 ((lo m : Nat) : Int), .string (hs m), .bool false] 28)
 generalize hweq : (w.alloc (.cells #[.int .u64 ((lo m : Nat) : Int), .string (hs m), .bool false] 28)) = x1 at hL0
 go_enter Tryz.func17, Tryz.ntmps17
 have hA := hL0.fc
 simp only [fcG, cellsF, neK, and_true, ne_eq, Nat.zero_add, Nat.reduceAdd] at hA
 go_wp2_with fail
 clear hA
 with_reducible refine Calls.mono (HU.out _) ?_
 rintro e x2 ⟨rfl, hb⟩
 replace hL0 := hL0.call hb
 clear hb hweq
 have hA := hL0.fc
 simp only [fcG, cellsF, neK, and_true, ne_eq, Nat.zero_add, Nat.reduceAdd] at hA
 go_wp2_with fail
 exact bodyPost_ret (v := .tuple #[.int .i64 0, .bool false]) (by simp [results, Tryz.results17, go_sem, hA]) rfl ⟨rfl, hL0.bl⟩
set_option maxHeartbeats 4000000 in
set_option maxRecDepth 100000 in
theorem i64_false_out (m : Nat) (h : m < Bs) (h1 : (9223372036854775807 : Int) < (m : Int)) (w : World) :
  Calls Tryz.prog 17 #[zV false m] w fun e w' => e = .returned (.tuple #[.int .i64 0, .bool false]) ∧ Below w.heap.size w w' := by
 have hL0 : GL w w [] := GL.start w
 have HU := Lib.hid (fun w => u64_small m h w)
 have k1 : decide ((m : Int) ≤ 9223372036854775807) = false := decide_eq_false (by omega)
 clear h h1
 replace hL0 := (hL0.new rfl [.int .u64 ((lo m : Nat) : Int), .string (hs m), .bool false] 28)
 generalize hweq : (w.alloc (.cells #[.int .u64 ((lo m : Nat) : Int), .string (hs m), .bool false] 28)) = x1 at hL0
 go_enter Tryz.func17, Tryz.ntmps17
 have hA := hL0.fc
 simp only [fcG, cellsF, neK, and_true, ne_eq, Nat.zero_add, Nat.reduceAdd] at hA
 go_wp2_with fail
 clear hA
 with_reducible refine Calls.mono (HU.out _) ?_
 rintro e x2 ⟨rfl, hb⟩
 replace hL0 := hL0.call hb
 clear hb hweq
 have hA := hL0.fc
 simp only [fcG, cellsF, neK, and_true, ne_eq, Nat.zero_add, Nat.reduceAdd] at hA
 go_wp2_with fail
 exact bodyPost_ret (v := .tuple #[.int .i64 0, .bool false]) (by simp [results, Tryz.results17, go_sem, hA]) rfl ⟨rfl, hL0.bl⟩
set_option maxHeartbeats 4000000 in
set_option maxRecDepth 100000 in
theorem i64_false_in (m : Nat) (h : m < Bs) (h1 : (m : Int) ≤ 9223372036854775807) (w : World) :
  Calls Tryz.prog 17 #[zV false m] w fun e w' => e = .returned (.tuple #[.int .i64 (m : Int), .bool true]) ∧ Below w.heap.size w w' := by
 have hL0 : GL w w [] := GL.start w
 have HU := Lib.hid (fun w => u64_small m h w)
 have k1 : decide ((m : Int) ≤ 9223372036854775807) = true := decide_eq_true h1
 have kw : IntKind.i64.wrap (m : Int) = (m : Int) := IntWalk.i64_in _ (by omega)
 clear h h1
 replace hL0 := (hL0.new rfl [.int .u64 ((lo m : Nat) : Int), .string (hs m), .bool false] 28)
 generalize hweq : (w.alloc (.cells #[.int .u64 ((lo m : Nat) : Int), .string (hs m), .bool false] 28)) = x1 at hL0
 go_enter Tryz.func17, Tryz.ntmps17
 have hA := hL0.fc
 simp only [fcG, cellsF, neK, and_true, ne_eq, Nat.zero_add, Nat.reduceAdd] at hA
 go_wp2_with fail
 clear hA
 with_reducible refine Calls.mono (HU.out _) ?_
 rintro e x2 ⟨rfl, hb⟩
 replace hL0 := hL0.call hb
 clear hb hweq
 have hA := hL0.fc
 simp only [fcG, cellsF, neK, and_true, ne_eq, Nat.zero_add, Nat.reduceAdd] at hA
 go_wp2_with fail
 exact bodyPost_ret (v := .tuple #[.int .i64 (m : Int), .bool true]) (by simp [results, Tryz.results17, go_sem, hA]) rfl ⟨rfl, hL0.bl⟩
set_option maxHeartbeats 4000000 in
set_option maxRecDepth 100000 in
theorem i64_true_in (m : Nat) (h : m < Bs) (h1 : (m : Int) ≤ 9223372036854775808) (h2 : m ≠ 0) (w : World) :
  Calls Tryz.prog 17 #[zV true m] w fun e w' => e = .returned (.tuple #[.int .i64 (-(m : Int)), .bool true]) ∧ Below w.heap.size w w' := by
 have hL0 : GL w w [] := GL.start w
 have HU := Lib.hid (fun w => u64_small m h w)
 have k1 : decide ((m : Int) ≤ 9223372036854775808) = true := decide_eq_true h1
 obtain ⟨q, hq⟩ : ∃ q : Nat, (q : Int) = 18446744073709551616 - m := ⟨(18446744073709551616 - (m : Int)).toNat, by omega⟩
 have kw : IntKind.u64.wrap (-(m : Int)) = (q : Int) := by rw [IntKind.wrap_u64]; omega
 have kw2 : IntKind.i64.wrap (q : Int) = -(m : Int) := by rw [IntKind.wrap_i64]; omega
 clear hq
 clear h h1 h2
 replace hL0 := (hL0.new rfl [.int .u64 ((lo m : Nat) : Int), .string (hs m), .bool true] 28)
 generalize hweq : (w.alloc (.cells #[.int .u64 ((lo m : Nat) : Int), .string (hs m), .bool true] 28)) = x1 at hL0
 go_enter Tryz.func17, Tryz.ntmps17
 have hA := hL0.fc
 simp only [fcG, cellsF, neK, and_true, ne_eq, Nat.zero_add, Nat.reduceAdd] at hA
 go_wp2_with fail
 clear hA
 with_reducible refine Calls.mono (HU.out _) ?_
 rintro e x2 ⟨rfl, hb⟩
 replace hL0 := hL0.call hb
 clear hb hweq
 have hA := hL0.fc
 simp only [fcG, cellsF, neK, and_true, ne_eq, Nat.zero_add, Nat.reduceAdd] at hA
 go_wp2_with fail
 exact bodyPost_ret (v := .tuple #[.int .i64 (-(m : Int)), .bool true]) (by simp [results, Tryz.results17, go_sem, hA]) rfl ⟨rfl, hL0.bl⟩
end Go.Proofs.YtloipmieaefcpaaGreatDoor
namespace Go.Proofs.YtloipmieaefcpaaGreatDoor
open Go.RowKit
attribute [local irreducible] lo hs
def in64 (z : Int) : Bool := decide (-9223372036854775808 ≤ z ∧ z ≤ 9223372036854775807)
theorem i64I (z : Int) (w : World) : Calls Tryz.prog 17 #[intV z] w fun e w' => e = .returned (.tuple #[.int .i64 (if in64 z then z else 0), .bool (in64 z)]) ∧ Below w.heap.size w w' := by
 have hB : (Bs : Int) = 18446744073709551616 := rfl
 rcases int_cases z with ⟨m, rfl, h⟩ | ⟨m, h0, rfl, h⟩ <;> rw [h]
 ·by_cases h1 : (m : Int) ≤ 9223372036854775807
  ·rw [show in64 (m : Int) = true from decide_eq_true ⟨by omega, h1⟩, if_pos rfl]
   exact i64_false_in m (by omega) h1 w
  ·rw [show in64 (m : Int) = false from decide_eq_false (fun h => h1 h.2), if_neg Bool.false_ne_true]
   by_cases h2 : m < Bs
   ·exact i64_false_out m h2 (by omega) w
   ·exact i64_false_big m (by omega) w
 ·by_cases h1 : (m : Int) ≤ 9223372036854775808
  ·rw [show in64 (-(m : Int)) = true from decide_eq_true ⟨by omega, by omega⟩, if_pos rfl]
   exact i64_true_in m (by omega) h1 h0 w
  ·rw [show in64 (-(m : Int)) = false from decide_eq_false (fun h => h1 (by omega)), if_neg Bool.false_ne_true]
   by_cases h2 : m < Bs
   ·exact i64_true_out m h2 (by omega) w
   ·exact i64_true_big m (by omega) w
end Go.Proofs.YtloipmieaefcpaaGreatDoor
namespace Go.Proofs.YtloipmieaefcpaaGreatDoor
open Go.RowKit
attribute [local irreducible] lo hs
end Go.Proofs.YtloipmieaefcpaaGreatDoor
namespace Go.Proofs.YtloipmieaefcpaaGreatDoor
open Go.RowKit
theorem rinv_parts {a : Rat} (h : a ≠ 0) : (a⁻¹).num = (if a.num < 0 then -(a.den : Int) else (a.den : Int)) ∧ (a⁻¹).den = a.num.natAbs := by
 have h0 : a.num ≠ 0 := fun e => h (Rat.num_eq_zero.1 e)
 rw [Rat.num_inv, Rat.den_inv, if_neg h0]
 refine ⟨?_, rfl⟩
 split
 ·rename_i h1; rw [Int.sign_eq_neg_one_of_neg h1]; omega
 ·rw [Int.sign_eq_one_of_pos (by omega)]; omega
theorem num_le_mul (a b : Rat) : (a * b).num.natAbs ≤ (a.num * b.num).natAbs := by
 rw [Rat.num_mul]; exact Int.natAbs_ediv_le_natAbs _ _
theorem den_le_mul (a b : Rat) : (a * b).den ≤ a.den * b.den := by
 rw [Rat.den_mul]; exact Nat.div_le_self _ _
theorem Sz.mul {p q : Rat} {k m : Nat} (hp : Sz p k) (hq : Sz q m) : Sz (p * q) (k + m) :=
 ⟨Nat.le_trans (dI_mono (num_le_mul p q)) (dI_mul hp.1 hq.1), Nat.le_trans (digs_mono (den_le_mul p q)) (digs_mul_le hp.2 hq.2)⟩
theorem Sz.inv {q : Rat} {k : Nat} (h : Sz q k) (h0 : q ≠ 0) : Sz q⁻¹ k := by
 obtain ⟨h1, h2⟩ := rinv_parts h0
 refine ⟨?_, by rw [h2]; exact h.1⟩
 rw [h1]
 split
 ·rw [dI_neg, dI_nat]; exact h.2
 ·rw [dI_nat]; exact h.2
theorem Sz.div {p q : Rat} {k m : Nat} (hp : Sz p k) (hq : Sz q m) (h0 : q ≠ 0) : Sz (p / q) (k + m) := by
 rw [Rat.div_def]; exact hp.mul (hq.inv h0)
end Go.Proofs.YtloipmieaefcpaaGreatDoor
namespace Go.Proofs.YtloipmieaefcpaaGreatDoor
theorem back_find {a : Int} {m : Nat} {q : Rat} (h1 : fitsB q a m = true) (h2 : farB q m = true) : backB a m = true ∧ backQ a m = q := by
 unfold backB backQ
 rw [backO_iff.2 ⟨h1, h2⟩]
 exact ⟨rfl, rfl⟩
end Go.Proofs.YtloipmieaefcpaaGreatDoor
namespace Go.Proofs.YtloipmieaefcpaaGreatDoor
open Go.ChangeShapes Go.WideShapes Go.ChangeAt Go.RowKit Go.Joins
set_option maxRecDepth 100000 in
theorem cellsQ : Tryz.prog.cellsOf 89 = 2 := by kernel_rfl
set_option maxRecDepth 100000 in
theorem q_of {H : Type} {enc : TypeId × Value → H} {W : World} {base : Nat} {v : Value} {d : DataW H} {p : List MemPlace} (hv : Value.okWide Tryz.prog W .any base 89 v)
  (h : DataW.Trod enc Tryz.prog W 0 (fun _ => true) true 89 v d p) : ∃ n e : Int, v = .agg #[.int .i64 n, .int .u32 e] ∧ (-9223372036854775808 ≤ n ∧ n < 9223372036854775808) ∧ (0 ≤ e ∧ e < 4294967296) := by
 obtain ⟨v0, v1, y0, y1, m, rfl, rfl, rfl, h0, h1⟩ := open_agg2 Tryz.underlying89 (by kernel_rfl) cellsQ hv h
 obtain ⟨n, e0, -, f0⟩ := DataW.trod_int Tryz.underlying2 h0
 obtain ⟨e, e1, -, f1⟩ := DataW.trod_int Tryz.underlying54 h1
 simp only [List.cons.injEq, and_true] at e0 e1
 subst e0 e1
 have b0 := bounds_i64 f0
 have b1 := bounds_u32 f1
 exact ⟨n, e, rfl, by omega, by omega⟩
end Go.Proofs.YtloipmieaefcpaaGreatDoor
namespace Go.Proofs.YtloipmieaefcpaaGreatDoor
open Go.RowKit
attribute [local irreducible] lo hs sm s64 c64 d64 b64 mh ml pd pc qd qc val hiB str cmpI srD lz isq zl zh zs
theorem digs_pow_le {n k : Nat} (h : (digs n).length ≤ k) : ∀ i, (digs (n ^ i)).length ≤ k * i + 1
 | 0 => by rw [Nat.pow_zero]; exact digs_length_iff.2 (by rw [Nat.mul_zero, Nat.zero_add, Nat.pow_one]; exact Bs_gt)
 | i + 1 => by
  rw [Nat.pow_succ]
  refine Nat.le_trans (digs_mul_le (digs_pow_le h i) h) ?_
  rw [Nat.mul_succ]; omega
theorem Sz.pow {q : Rat} {k : Nat} (h : Sz q k) (i : Nat) : Sz (q ^ i) (k * i + 1) := by
 refine ⟨?_, ?_⟩
 ·show (digs (q ^ i).num.natAbs).length ≤ _
  rw [Rat.num_pow, Int.natAbs_pow]; exact digs_pow_le h.1 i
 ·rw [Rat.den_pow]; exact digs_pow_le h.2 i
/-- A fraction of small data. -/
def qmade (n : Int) (d : Nat) : Rat := mkRat n (if d < 1 then 1 else d)
end Go.Proofs.YtloipmieaefcpaaGreatDoor
namespace Go.Proofs.YtloipmieaefcpaaGreatDoor
open Go.RowKit
attribute [local irreducible] lo hs sm s64 c64 d64 b64 mh ml pd pc qd qc val hiB str cmpI srD lz nb isq zl zh zs
set_option maxHeartbeats 4000000 in
set_option maxRecDepth 100000 in
theorem qof_zero (n x c : Int) (f : Nat) (HF : RT 43 #[.int .i64 n, .int .i64 1] (.tuple #[frV x f, .int .i64 c])) (hmx : max (0 : Int) 1 = 1) (w : World) :
  Calls Tryz.prog 38 #[.agg #[.int .i64 n, .int .u32 0]] w fun xe w' => xe = .returned (frV x f) ∧ Below w.heap.size w w' := by
 have hL0 : GL w w [] := GL.start w
 replace HF := Lib.hid HF
 replace hL0 := ((hL0.new rfl [.int .i64 n, .int .u32 0] 89).new (K := w.heap.size + 1) (szA _ _) [.int .u64 0, .string ⟨#[]⟩, .bool false, .int .u64 0, .string ⟨#[]⟩] 30)
 generalize hweq : ((w.alloc (.cells #[.int .i64 n, .int .u32 0] 89)).alloc (.cells #[.int .u64 0, .string ⟨#[]⟩, .bool false, .int .u64 0, .string ⟨#[]⟩] 30)) = x1 at hL0
 go_enter Tryz.func38, Tryz.ntmps38
 have hN0 := cells_of _ 0 [] rfl (hL0.get _ _ (List.mem_cons_of_mem _ List.mem_cons_self))
 simp only [cellsF, and_true, Nat.zero_add, Nat.reduceAdd] at hN0
 go_wp2_with fail
 clear hN0
 with_reducible refine Calls.mono (HF.out _) ?_
 rintro e x2 ⟨rfl, hb⟩
 replace hL0 := hL0.call hb
 clear hb hweq
 replace hL0 := (hL0.new rfl [.int .u64 ((zl x : Nat) : Int), .string (zh x), .bool (zs x), .int .u64 ((lo f : Nat) : Int), .string (hs f)] 30)
 generalize hweq : (x2.alloc (.cells #[.int .u64 ((zl x : Nat) : Int), .string (zh x), .bool (zs x), .int .u64 ((lo f : Nat) : Int), .string (hs f)] 30)) = x3 at hL0
 have hA := hL0.fc
 simp only [fcG, cellsF, neK, and_true, ne_eq, Nat.zero_add, Nat.reduceAdd] at hA
 have hP := hL0.put 1 (w.heap.size + 1) _ rfl [.int .u64 ((zl x : Nat) : Int), .string (zh x), .bool (zs x), .int .u64 ((lo f : Nat) : Int), .string (hs f)] rfl
 simp only [setAll, List.set_cons_zero, List.set_cons_succ] at hP
 generalize hput1 : (((((x3.setCell ⟨w.heap.size + 1, 0, none⟩ (.int .u64 ((zl x : Nat) : Int))).setCell ⟨w.heap.size + 1, 1, none⟩ (.string (zh x))).setCell ⟨w.heap.size + 1, 2, none⟩ (.bool (zs x))).setCell ⟨w.heap.size + 1, 3, none⟩ (.int .u64 ((lo f : Nat) : Int))).setCell ⟨w.heap.size + 1, 4, none⟩ (.string (hs f))) = x4 at hP
 have hB1 := hP.fc
 simp only [fcG, cellsF, neK, and_true, ne_eq, Nat.zero_add, Nat.reduceAdd] at hB1
 replace hL0 := hP
 go_wp2_with fail
 exact bodyPost_ret (v := frV x f) (by simp [results, Tryz.results38, go_sem, hB1]) rfl ⟨rfl, hL0.bl⟩
set_option maxHeartbeats 4000000 in
set_option maxRecDepth 100000 in
theorem qof_pos (n d x c : Int) (f : Nat) (HF : RT 43 #[.int .i64 n, .int .i64 d] (.tuple #[frV x f, .int .i64 c])) (h1 : max d 1 = d) (hw : IntKind.i64.wrap d = d) (w : World) :
  Calls Tryz.prog 38 #[.agg #[.int .i64 n, .int .u32 d]] w fun xe w' => xe = .returned (frV x f) ∧ Below w.heap.size w w' := by
 have hL0 : GL w w [] := GL.start w
 replace HF := Lib.hid HF
 replace hL0 := ((hL0.new rfl [.int .i64 n, .int .u32 d] 89).new (K := w.heap.size + 1) (szA _ _) [.int .u64 0, .string ⟨#[]⟩, .bool false, .int .u64 0, .string ⟨#[]⟩] 30)
 generalize hweq : ((w.alloc (.cells #[.int .i64 n, .int .u32 d] 89)).alloc (.cells #[.int .u64 0, .string ⟨#[]⟩, .bool false, .int .u64 0, .string ⟨#[]⟩] 30)) = x1 at hL0
 go_enter Tryz.func38, Tryz.ntmps38
 have hN0 := cells_of _ 0 [] rfl (hL0.get _ _ (List.mem_cons_of_mem _ List.mem_cons_self))
 simp only [cellsF, and_true, Nat.zero_add, Nat.reduceAdd] at hN0
 go_wp2_with fail
 clear hN0
 with_reducible refine Calls.mono (HF.out _) ?_
 rintro e x2 ⟨rfl, hb⟩
 replace hL0 := hL0.call hb
 clear hb hweq
 replace hL0 := (hL0.new rfl [.int .u64 ((zl x : Nat) : Int), .string (zh x), .bool (zs x), .int .u64 ((lo f : Nat) : Int), .string (hs f)] 30)
 generalize hweq : (x2.alloc (.cells #[.int .u64 ((zl x : Nat) : Int), .string (zh x), .bool (zs x), .int .u64 ((lo f : Nat) : Int), .string (hs f)] 30)) = x3 at hL0
 have hA := hL0.fc
 simp only [fcG, cellsF, neK, and_true, ne_eq, Nat.zero_add, Nat.reduceAdd] at hA
 have hP := hL0.put 1 (w.heap.size + 1) _ rfl [.int .u64 ((zl x : Nat) : Int), .string (zh x), .bool (zs x), .int .u64 ((lo f : Nat) : Int), .string (hs f)] rfl
 simp only [setAll, List.set_cons_zero, List.set_cons_succ] at hP
 generalize hput1 : (((((x3.setCell ⟨w.heap.size + 1, 0, none⟩ (.int .u64 ((zl x : Nat) : Int))).setCell ⟨w.heap.size + 1, 1, none⟩ (.string (zh x))).setCell ⟨w.heap.size + 1, 2, none⟩ (.bool (zs x))).setCell ⟨w.heap.size + 1, 3, none⟩ (.int .u64 ((lo f : Nat) : Int))).setCell ⟨w.heap.size + 1, 4, none⟩ (.string (hs f))) = x4 at hP
 have hB1 := hP.fc
 simp only [fcG, cellsF, neK, and_true, ne_eq, Nat.zero_add, Nat.reduceAdd] at hB1
 replace hL0 := hP
 go_wp2_with fail
 exact bodyPost_ret (v := frV x f) (by simp [results, Tryz.results38, go_sem, hB1]) rfl ⟨rfl, hL0.bl⟩
theorem qof_any (n d : Int) (a1 : -9223372036854775808 ≤ n) (a2 : n < 9223372036854775808) (b1 : 0 ≤ d) (b2 : d < 4294967296) (w : World) :
  Calls Tryz.prog 38 #[.agg #[.int .i64 n, .int .u32 d]] w fun xe w' => xe = .returned (fracV (qmade n d.toNat)) ∧ Below w.heap.size w w' := by
 by_cases h : d = 0
 ·subst h
  have e : (n : Rat) / ((1 : Int) : Rat) = qmade n 0 := by rw [← of_val_q n 1 (by decide)]; rfl
  have hF := fun w => ofF n 1 a1 a2 (by decide) (by decide) (by decide) w
  rw [e] at hF
  exact qof_zero n _ _ _ hF (by decide) w
 ·have e : (n : Rat) / (d : Rat) = qmade n d.toNat := by
   rw [← of_val_q n d h]
   unfold qmade
   rw [if_neg (by omega), if_neg (by omega), show d.natAbs = d.toNat by omega]
  have hF := fun w => ofF n d a1 a2 (by omega) (by omega) h w
  rw [e] at hF
  exact qof_pos n d _ _ _ hF (by omega) (IntWalk.i64_in _ (by omega)) w
end Go.Proofs.YtloipmieaefcpaaGreatDoor
namespace Go.Proofs.YtloipmieaefcpaaGreatDoor
open Go.RowKit
attribute [local irreducible] lo hs sm s64 c64 d64 b64 mh ml pd pc qd qc val hiB str cmpI srD lz nb isq zl zh zs fe fitsB farB backB backQ
set_option maxHeartbeats 4000000 in
set_option maxRecDepth 100000 in
theorem ppr_big (x y : Int) (ao : Option Addr) (n c : Nat) (KT : World → Prop) (hKT : Keeps KT) (HW : ∀ w, KT w → Calls Tryz.prog 15 #[] w fun xe w' => xe = .returned (.bool true) ∧ Below w.heap.size w w') (l0 : decide ((8 : Int) < (n : Int)) = true) (k0 : decide (8 < n) = true) (w : World) (kKT : KT w) :
  Calls Tryz.prog 9 #[.agg #[.int .i64 x, .int .u32 y], .slice ao n c] w fun xe w' => xe = .returned (.bool true) ∧ Below w.heap.size w w' := by
 have hL0 : GL w w [] := GL.start w
 replace hKT := Lib.hid hKT
 replace HW := Lib.hid HW
 replace hL0 := (hL0.new rfl [.int .i64 x, .int .u32 y] 89)
 generalize hweq : (w.alloc (.cells #[.int .i64 x, .int .u32 y] 89)) = x1 at hL0
 go_enter Tryz.func9, Tryz.ntmps9
 go_wp2_with fail
 with_reducible refine Calls.mono (HW.out _ (hKT.out.at hL0.bl kKT)) ?_
 rintro e x2 ⟨rfl, hb⟩
 replace hL0 := hL0.call hb
 clear hb hweq
 go_wp2_with fail
 exact bodyPost_ret (v := .bool true) (by simp [results, Tryz.results9, go_sem]) rfl ⟨rfl, hL0.bl⟩
set_option maxHeartbeats 16000000 in
set_option maxRecDepth 100000 in
theorem ppr_far (x0 y0 : Int) (ao : Option Addr) (n c : Nat) (ll : List Nat) (qs : Nat → List (Int × Nat)) (pp : Nat → Nat) (vv : Nat → Int) (bb : Nat → Bool) (f : Rat) (cz : Int) (cm : Nat)
  (hlen : ll.length = n) (hnb : n ≤ 8) (hq0 : qs 0 = []) (hpp : ∀ i, i < n → pp i < 4294967296 ∧ 0 ≤ vv i ∧ vv i < 4294967296)
  (hs1 : ∀ i, i < n → bb i = true → qs (i + 1) = qs i ++ [(vv i, pp i)]) (hs0 : ∀ i, i < n → bb i = false → qs (i + 1) = qs i) (hll : ∀ i, i < n → (qs i).length ≤ 1000)
  (HP : ∀ i (h : i < ll.length) (w : World), Calls Tryz.prog 39 #[.int .u32 ((ll[i]'h : Nat) : Int)] w fun xe w' => xe = .returned (.int .u32 ((pp i : Nat) : Int)) ∧ Below w.heap.size w w')
  (HO : ∀ i, i < n → ∀ w, Calls Tryz.prog 40 #[fracV f, .int .u32 ((pp i : Nat) : Int)] w fun xe w' => xe = .returned (.tuple #[.int .u32 (vv i), .bool (bb i)]) ∧ Below w.heap.size w w')
  (HI : ∀ x : Int, 0 ≤ x → x < 4294967296 → ∀ w, Calls Tryz.prog 11 #[.int .i64 x] w fun xe w' => xe = .returned (intV x) ∧ Below w.heap.size w w')
  (HN : ∀ m : Nat, m < 4294967296 → ∀ w, Calls Tryz.prog 12 #[.int .u64 (m : Int)] w fun xe w' => xe = .returned (natV m) ∧ Below w.heap.size w w')
  (HQ : ∀ w, Calls Tryz.prog 38 #[.agg #[.int .i64 x0, .int .u32 y0]] w fun xe w' => xe = .returned (fracV f) ∧ Below w.heap.size w w')
  (HC : ∀ (v : Value) (w : World), SlR w v (qs n) → Calls Tryz.prog 25 #[v] w fun xe w' => xe = .returned (.tuple #[frV cz cm, .int .i64 0]) ∧ Below w.heap.size w w')
  (HF : ∀ w, Calls Tryz.prog 20 #[fracV f, intV cz, natV cm] w fun xe w' => xe = .returned (.bool true) ∧ Below w.heap.size w w')
  (HB : ∀ w, Calls Tryz.prog 10 #[intV cz, natV cm] w fun xe w' => xe = .returned (.tuple #[fracV f, .bool true]) ∧ Below w.heap.size w w')
  (HR : ∀ w, Calls Tryz.prog 22 #[fracV f, natV cm] w fun xe w' => xe = .returned (.bool true) ∧ Below w.heap.size w w')
  (KT : World → Prop) (hKT : Keeps KT) (HW : ∀ w, KT w → Calls Tryz.prog 15 #[] w fun xe w' => xe = .returned (.bool true) ∧ Below w.heap.size w w') (w : World) (kKT : KT w) (hq : 0 < n → ∃ a, ao = some a ∧ Wd w a ll) :
  Calls Tryz.prog 9 #[.agg #[.int .i64 x0, .int .u32 y0], .slice ao n c] w fun xe w' => xe = .returned (.bool true) ∧ Below w.heap.size w w' := by
 replace hKT := Lib.hid hKT
 replace HQ := Lib.hid HQ
 replace HC := Lib.hid HC
 replace HF := Lib.hid HF
 replace HB := Lib.hid HB
 replace HR := Lib.hid HR
 replace HW := Lib.hid HW
 replace hq := Lib.hid hq
 replace hq0 := Lib.hid hq0
 replace hlen := Lib.hid hlen
 replace hnb := Lib.hid hnb
 replace HP := Lib.hid HP
 replace HO := Lib.hid HO
 replace HI := Lib.hid HI
 replace HN := Lib.hid HN
 replace hpp := Lib.hid hpp
 replace hs1 := Lib.hid hs1
 replace hs0 := Lib.hid hs0
 replace hll := Lib.hid hll
 obtain ⟨iF, hi, hz0, hz1, hz2⟩ := info_parts infoS
 replace hi := Lib.hid hi
 replace hz0 := Lib.hid hz0
 replace hz1 := Lib.hid hz1
 replace hz2 := Lib.hid hz2
 have l0 : decide ((8 : Int) < (n : Int)) = false := decide_eq_false (by have := hnb.out; omega)
 have k0 : decide (8 < n) = false := decide_eq_false (by have := hnb.out; omega)
 have hL0 : GL w w [] := GL.start w
 replace hL0 := (hL0.new rfl [.int .i64 x0, .int .u32 y0] 89)
 generalize hweq : (w.alloc (.cells #[.int .i64 x0, .int .u32 y0] 89)) = x1 at hL0
 go_enter Tryz.func9, Tryz.ntmps9
 have hN0 := cells_of _ 0 [] rfl (hL0.get _ _ List.mem_cons_self)
 simp only [cellsF, and_true, Nat.zero_add, Nat.reduceAdd] at hN0
 go_wp2_with fail
 clear hN0
 with_reducible refine Calls.mono (HQ.out _) ?_
 rintro e x2 ⟨rfl, hb⟩
 replace hL0 := hL0.call hb
 clear hb hweq
 replace hL0 := (hL0.new rfl [.int .u64 ((zl f.num : Nat) : Int), .string (zh f.num), .bool (zs f.num), .int .u64 ((lo (fe f) : Nat) : Int), .string (hs (fe f))] 30)
 generalize hweq : (x2.alloc (.cells #[.int .u64 ((zl f.num : Nat) : Int), .string (zh f.num), .bool (zs f.num), .int .u64 ((lo (fe f) : Nat) : Int), .string (hs (fe f))] 30)) = x3 at hL0
 go_wp2_with fail
 clear hweq
 have hk0 : x2.heap.size < x3.heap.size := (hL0.get _ _ List.mem_cons_self).lt
 have hk1 : w.heap.size < x3.heap.size := (hL0.get _ _ (List.mem_cons_of_mem _ List.mem_cons_self)).lt
 have hwE : w.heap.size ≤ x3.heap.size := hL0.bl.size
 obtain ⟨E, hE⟩ : ∃ E, E = x3.heap.size := ⟨_, rfl⟩
 rw [← hE] at hwE hk0 hk1
 have hBS : ∀ k ∈ ([x2.heap.size, w.heap.size] : List Nat), k < E := by intro k hk; simp only [List.mem_cons, List.not_mem_nil, or_false] at hk; rcases hk with rfl | rfl <;> assumption
 clear hk0 hk1
 replace hBS := Lib.hid hBS
 replace hwE := Lib.hid hwE
 go_loopw [6, 7] (fun v z wr => ∃ (i : Nat) (zi : Int), i ≤ n ∧ z = .int .i64 zi ∧ zi = (i : Int) ∧ E ≤ wr.heap.size ∧ wr.ownsRow E 58 5 v (qs i).length (rsCs (qs i)) ∧ GL w wr [(x2.heap.size, [.int .u64 ((zl f.num : Nat) : Int), .string (zh f.num), .bool (zs f.num), .int .u64 ((lo (fe f) : Nat) : Int), .string (hs (fe f))]), (w.heap.size, [.int .i64 x0, .int .u32 y0])]) (fun _ z _ => n - (intOf z).toNat)
 case atStart => exact ⟨0, _, Nat.zero_le _, rfl, rfl, Nat.le_of_eq hE, by rw [hq0.out, rsCs_nil]; exact World.ownsRow_nil _ _ _ _, hL0⟩
 case round =>
  clear hL0 hE
  obtain ⟨i, zi, hi1, rfl, hzi, hEw, hown, hL0⟩ := hrel
  rcases Nat.lt_or_ge i n with hin | hin
  ·subst hzi
   obtain ⟨q9, rfl, hqa⟩ := hq.out (by omega)
   have hln := hlen.out
   have k1 : (i : Int) < (n : Int) := by omega
   have k0 : (0 : Int) ≤ (i : Int) := Int.natCast_nonneg _
   have kb : (i : Int) ≤ 1000000 := by have := hnb.out; omega
   have c0 := (hqa.below hL0.bl).cell i (by omega)
   have HPi := Lib.hid (HP.out i (by omega))
   obtain ⟨y, hy⟩ : ∃ y : Nat, y = ll[i]'(by omega) := ⟨_, rfl⟩
   rw [← hy] at c0 HPi
   have HOi := Lib.hid (HO.out i (by omega))
   obtain ⟨hm1, hv1, hv2⟩ := hpp.out i (by omega)
   have hs1i := hs1.out i (by omega)
   have hs0i := hs0.out i (by omega)
   have hli := hll.out i (by omega)
   obtain ⟨m, hm⟩ : ∃ m, m = pp i := ⟨_, rfl⟩
   obtain ⟨x, hx⟩ : ∃ x, x = vv i := ⟨_, rfl⟩
   obtain ⟨k, hk⟩ : ∃ k, k = bb i := ⟨_, rfl⟩
   rw [← hm] at HPi HOi hs1i hm1
   rw [← hx] at HOi hs1i hv1 hv2
   rw [← hk] at HOi hs1i hs0i
   clear hm hx hk hy hqa
   replace hli := Lib.hid hli
   replace hown := Lib.hid hown
   replace hEw := Lib.hid hEw
   replace hin := Lib.hid hin
   cases k with
   | false =>
    have hnx := Lib.hid (hs0i rfl)
    clear hs1i hs0i
    go_wp2_with fail
    with_reducible refine Calls.mono (HPi.out _) ?_
    rintro e x4 ⟨rfl, hb⟩
    replace hown := Lib.hid (ownR_below hown.out hb)
    replace hEw := Lib.hid (Nat.le_trans hEw.out hb.size)
    replace hL0 := hL0.call hb
    clear hb
    have hN0 := cells_of _ 0 [] rfl (hL0.get _ _ List.mem_cons_self)
    simp only [cellsF, and_true, Nat.zero_add, Nat.reduceAdd] at hN0
    go_wp2_with fail
    clear hN0
    with_reducible refine Calls.mono (HOi.out _) ?_
    rintro e x5 ⟨rfl, hb⟩
    replace hown := Lib.hid (ownR_below hown.out hb)
    replace hEw := Lib.hid (Nat.le_trans hEw.out hb.size)
    replace hL0 := hL0.call hb
    clear hb
    go_wp2_with fail
    go_roundw
    case rel => exact ⟨i + 1, _, by have := hin.out; omega, by first | rfl | go_num, by omega, hEw.out, by rw [hnx.out]; exact hown.out, hL0⟩
    case measure => have := hin.out; simp [intOf] <;> omega
   | true =>
    have hnx := Lib.hid (hs1i rfl)
    clear hs1i hs0i
    have kv : x < 4294967296 := hv2
    have hx2 : x % 18446744073709551616 = x := by omega
    have hm2 : ((m : Nat) : Int) % 18446744073709551616 = (m : Int) := by omega
    have HOx := Lib.hid (fun w => HI.out x hv1 hv2 w)
    have HOm := Lib.hid (fun w => HN.out m hm1 w)
    go_wp2_with fail
    with_reducible refine Calls.mono (HPi.out _) ?_
    rintro e x4 ⟨rfl, hb⟩
    replace hown := Lib.hid (ownR_below hown.out hb)
    replace hEw := Lib.hid (Nat.le_trans hEw.out hb.size)
    replace hL0 := hL0.call hb
    clear hb
    have hN0 := cells_of _ 0 [] rfl (hL0.get _ _ List.mem_cons_self)
    simp only [cellsF, and_true, Nat.zero_add, Nat.reduceAdd] at hN0
    go_wp2_with fail
    clear hN0
    with_reducible refine Calls.mono (HOi.out _) ?_
    rintro e x5 ⟨rfl, hb⟩
    replace hown := Lib.hid (ownR_below hown.out hb)
    replace hEw := Lib.hid (Nat.le_trans hEw.out hb.size)
    replace hL0 := hL0.call hb
    clear hb
    go_wp2_with fail
    with_reducible refine Calls.mono (HOx.out _) ?_
    rintro e x6 ⟨rfl, hb⟩
    replace hown := Lib.hid (ownR_below hown.out hb)
    replace hEw := Lib.hid (Nat.le_trans hEw.out hb.size)
    replace hL0 := hL0.call hb
    clear hb
    go_wp2_with fail
    with_reducible refine Calls.mono (HOm.out _) ?_
    rintro e x7 ⟨rfl, hb⟩
    replace hown := Lib.hid (ownR_below hown.out hb)
    replace hEw := Lib.hid (Nat.le_trans hEw.out hb.size)
    replace hL0 := hL0.call hb
    clear hb
    replace hL0 := (hL0.new rfl [.int .u64 ((zl x : Nat) : Int), .string (zh x), .bool (zs x), .int .u64 ((lo m : Nat) : Int), .string (hs m)] 58)
    generalize hweq : (x7.alloc (.cells #[.int .u64 ((zl x : Nat) : Int), .string (zh x), .bool (zs x), .int .u64 ((lo m : Nat) : Int), .string (hs m)] 58)) = x8 at hL0
    have hE3 : E ≤ x8.heap.size := Nat.le_trans hEw.out (by rw [← hweq, World.size_alloc]; omega)
    have hown3 := ownR_below hown.out (show Below x7.heap.size x7 x8 by rw [← hweq]; exact (Below.refl _ _).alloc (Nat.le_refl _) _)
    have hnw := hd_newsP (hL0.get _ _ List.mem_cons_self)
    replace hnw := Lib.hid hnw
    replace hown3 := Lib.hid hown3
    replace hE3 := Lib.hid hE3
    have hne : ∀ u ∈ ([.int .u64 ((zl x : Nat) : Int), .string (zh x), .bool (zs x), .int .u64 ((lo m : Nat) : Int), .string (hs m)] : List Value), u.oneCell' = true := rsC_one (x, m)
    replace hne := Lib.hid hne
    have hlq := hli.out
    go_wp2_with (at_builtin; refine wpList_append_own _ rfl _ _ 52 rfl E 58 iF (.agg #[.int .u64 0, .string ⟨#[]⟩, .bool false, .int .u64 0, .string ⟨#[]⟩]) 5 56 Tryz.underlying52 hi.out hz0.out hz1.out hz2.out rfl (by decide) _ _ _ rfl hown3.out ⟨x7.heap.size, 0, none⟩ 1 1 [.int .u64 ((zl x : Nat) : Int), .string (zh x), .bool (zs x), .int .u64 ((lo m : Nat) : Int), .string (hs m)] rfl rfl hnw.out hne.out (by unfold maxLen; omega) (by omega) hE3.out ?_)
    intro v' w1 hown' hgrow _
    have hown4 : w1.ownsRow E 58 5 v' (qs (i + 1)).length (rsCs (qs (i + 1))) := by rw [hnx.out, rsCs_snoc, List.length_append]; exact hown'
    have hb4 : Below E x8 w1 := (Below.refl E x8).grown hgrow hE3.out (fun j hj => (hown3.out.lt j hj).1)
    replace hL0 := (hL0.weak (List.Sublist.cons _ (List.Sublist.refl _))).belowR hb4 (fun p hp => hBS.out p.1 (List.mem_map.2 ⟨p, hp, rfl⟩)) hwE.out
    have hE4 : E ≤ w1.heap.size := Nat.le_trans hE3.out hgrow.size
    clear hown' hgrow hb4 hown3 hE3 hnw hne hweq hown
    replace hown4 := Lib.hid hown4
    replace hE4 := Lib.hid hE4
    go_wp2_with fail
    go_roundw
    case rel => exact ⟨i + 1, _, by have := hin.out; omega, by first | rfl | go_num, by omega, hE4.out, hown4.out, hL0⟩
    case measure => have := hin.out; simp [intOf] <;> omega
  ·obtain rfl : i = n := by omega
   subst hzi
   have k1 : ¬ (i : Int) < (i : Int) := by omega
   have hSl := ownR_slr hown rfl
   obtain ⟨sa, sn, sc, rfl, -⟩ := slr_form hSl
   replace hSl := Lib.hid hSl
   clear hown hEw hi1 hin
   go_wp2_with fail
   with_reducible refine Calls.mono (HC.out _ _ hSl.out) ?_
   rintro e x4 ⟨rfl, hb⟩
   replace hL0 := hL0.call hb
   clear hb
   replace hL0 := (hL0.new rfl [.int .u64 ((zl cz : Nat) : Int), .string (zh cz), .bool (zs cz), .int .u64 ((lo cm : Nat) : Int), .string (hs cm)] 58)
   generalize hweq : (x4.alloc (.cells #[.int .u64 ((zl cz : Nat) : Int), .string (zh cz), .bool (zs cz), .int .u64 ((lo cm : Nat) : Int), .string (hs cm)] 58)) = x5 at hL0
   have hN0 := cells_of _ 0 [] rfl (hL0.get _ _ List.mem_cons_self)
   simp only [cellsF, and_true, Nat.zero_add, Nat.reduceAdd] at hN0
   have hN1 := cells_of _ 0 [] rfl (hL0.get _ _ (List.mem_cons_of_mem _ List.mem_cons_self))
   simp only [cellsF, and_true, Nat.zero_add, Nat.reduceAdd] at hN1
   go_wp2_with fail
   clear hN0 hN1
   with_reducible refine Calls.mono (HF.out _) ?_
   rintro e x6 ⟨rfl, hb⟩
   replace hL0 := hL0.call hb
   clear hb hweq
   have hN0 := cells_of _ 0 [] rfl (hL0.get _ _ List.mem_cons_self)
   simp only [cellsF, and_true, Nat.zero_add, Nat.reduceAdd] at hN0
   go_wp2_with fail
   clear hN0
   with_reducible refine Calls.mono (HB.out _) ?_
   rintro e x7 ⟨rfl, hb⟩
   replace hL0 := hL0.call hb
   clear hb
   replace hL0 := (hL0.new rfl [.int .u64 ((zl f.num : Nat) : Int), .string (zh f.num), .bool (zs f.num), .int .u64 ((lo (fe f) : Nat) : Int), .string (hs (fe f))] 30)
   generalize hweq : (x7.alloc (.cells #[.int .u64 ((zl f.num : Nat) : Int), .string (zh f.num), .bool (zs f.num), .int .u64 ((lo (fe f) : Nat) : Int), .string (hs (fe f))] 30)) = x8 at hL0
   have hN0 := cells_of _ 0 [] rfl (hL0.get _ _ (List.mem_cons_of_mem _ List.mem_cons_self))
   simp only [cellsF, and_true, Nat.zero_add, Nat.reduceAdd] at hN0
   have hN1 := cells_of _ 0 [] rfl (hL0.get _ _ (List.mem_cons_of_mem _ (List.mem_cons_of_mem _ List.mem_cons_self)))
   simp only [cellsF, and_true, Nat.zero_add, Nat.reduceAdd] at hN1
   go_wp2_with fail
   clear hN0 hN1
   with_reducible refine Calls.mono (HR.out _) ?_
   rintro e x9 ⟨rfl, hb⟩
   replace hL0 := hL0.call hb
   clear hb hweq
   have hN0 := cells_of _ 0 [] rfl (hL0.get _ _ List.mem_cons_self)
   simp only [cellsF, and_true, Nat.zero_add, Nat.reduceAdd] at hN0
   have hN1 := cells_of _ 0 [] rfl (hL0.get _ _ (List.mem_cons_of_mem _ (List.mem_cons_of_mem _ List.mem_cons_self)))
   simp only [cellsF, and_true, Nat.zero_add, Nat.reduceAdd] at hN1
   go_wp2_with fail
   clear hN0 hN1
   with_reducible refine Calls.mono (HW.out _ (hKT.out.at hL0.bl kKT)) ?_
   rintro e x10 ⟨rfl, hb⟩
   replace hL0 := hL0.call hb
   clear hb
   go_wp2_with fail
   exact bodyPost_ret (v := .bool true) (by simp [results, Tryz.results9, go_sem]) rfl ⟨rfl, hL0.bl⟩
set_option maxHeartbeats 16000000 in
set_option maxRecDepth 100000 in
theorem ppr_not (x0 y0 : Int) (ao : Option Addr) (n c : Nat) (ll : List Nat) (qs : Nat → List (Int × Nat)) (pp : Nat → Nat) (vv : Nat → Int) (bb : Nat → Bool) (f : Rat) (cz : Int) (cm : Nat) (g : Rat) (kk : Bool)
  (hlen : ll.length = n) (hnb : n ≤ 8) (hq0 : qs 0 = []) (hpp : ∀ i, i < n → pp i < 4294967296 ∧ 0 ≤ vv i ∧ vv i < 4294967296)
  (hs1 : ∀ i, i < n → bb i = true → qs (i + 1) = qs i ++ [(vv i, pp i)]) (hs0 : ∀ i, i < n → bb i = false → qs (i + 1) = qs i) (hll : ∀ i, i < n → (qs i).length ≤ 1000)
  (HP : ∀ i (h : i < ll.length) (w : World), Calls Tryz.prog 39 #[.int .u32 ((ll[i]'h : Nat) : Int)] w fun xe w' => xe = .returned (.int .u32 ((pp i : Nat) : Int)) ∧ Below w.heap.size w w')
  (HO : ∀ i, i < n → ∀ w, Calls Tryz.prog 40 #[fracV f, .int .u32 ((pp i : Nat) : Int)] w fun xe w' => xe = .returned (.tuple #[.int .u32 (vv i), .bool (bb i)]) ∧ Below w.heap.size w w')
  (HI : ∀ x : Int, 0 ≤ x → x < 4294967296 → ∀ w, Calls Tryz.prog 11 #[.int .i64 x] w fun xe w' => xe = .returned (intV x) ∧ Below w.heap.size w w')
  (HN : ∀ m : Nat, m < 4294967296 → ∀ w, Calls Tryz.prog 12 #[.int .u64 (m : Int)] w fun xe w' => xe = .returned (natV m) ∧ Below w.heap.size w w')
  (HQ : ∀ w, Calls Tryz.prog 38 #[.agg #[.int .i64 x0, .int .u32 y0]] w fun xe w' => xe = .returned (fracV f) ∧ Below w.heap.size w w')
  (HC : ∀ (v : Value) (w : World), SlR w v (qs n) → Calls Tryz.prog 25 #[v] w fun xe w' => xe = .returned (.tuple #[frV cz cm, .int .i64 0]) ∧ Below w.heap.size w w')
  (HF : ∀ w, Calls Tryz.prog 20 #[fracV f, intV cz, natV cm] w fun xe w' => xe = .returned (.bool true) ∧ Below w.heap.size w w')
  (HB : ∀ w, Calls Tryz.prog 10 #[intV cz, natV cm] w fun xe w' => xe = .returned (.tuple #[fracV g, .bool kk]) ∧ Below w.heap.size w w')
  (HR : ∀ w, Calls Tryz.prog 22 #[fracV f, natV cm] w fun xe w' => xe = .returned (.bool false) ∧ Below w.heap.size w w')
  (KT : World → Prop) (hKT : Keeps KT) (HW : ∀ w, KT w → Calls Tryz.prog 15 #[] w fun xe w' => xe = .returned (.bool true) ∧ Below w.heap.size w w') (w : World) (kKT : KT w) (hq : 0 < n → ∃ a, ao = some a ∧ Wd w a ll) :
  Calls Tryz.prog 9 #[.agg #[.int .i64 x0, .int .u32 y0], .slice ao n c] w fun xe w' => xe = .returned (.bool true) ∧ Below w.heap.size w w' := by
 replace hKT := Lib.hid hKT
 replace HQ := Lib.hid HQ
 replace HC := Lib.hid HC
 replace HF := Lib.hid HF
 replace HB := Lib.hid HB
 replace HR := Lib.hid HR
 replace HW := Lib.hid HW
 replace hq := Lib.hid hq
 replace hq0 := Lib.hid hq0
 replace hlen := Lib.hid hlen
 replace hnb := Lib.hid hnb
 replace HP := Lib.hid HP
 replace HO := Lib.hid HO
 replace HI := Lib.hid HI
 replace HN := Lib.hid HN
 replace hpp := Lib.hid hpp
 replace hs1 := Lib.hid hs1
 replace hs0 := Lib.hid hs0
 replace hll := Lib.hid hll
 obtain ⟨iF, hi, hz0, hz1, hz2⟩ := info_parts infoS
 replace hi := Lib.hid hi
 replace hz0 := Lib.hid hz0
 replace hz1 := Lib.hid hz1
 replace hz2 := Lib.hid hz2
 have l0 : decide ((8 : Int) < (n : Int)) = false := decide_eq_false (by have := hnb.out; omega)
 have k0 : decide (8 < n) = false := decide_eq_false (by have := hnb.out; omega)
 have hL0 : GL w w [] := GL.start w
 replace hL0 := (hL0.new rfl [.int .i64 x0, .int .u32 y0] 89)
 generalize hweq : (w.alloc (.cells #[.int .i64 x0, .int .u32 y0] 89)) = x1 at hL0
 go_enter Tryz.func9, Tryz.ntmps9
 have hN0 := cells_of _ 0 [] rfl (hL0.get _ _ List.mem_cons_self)
 simp only [cellsF, and_true, Nat.zero_add, Nat.reduceAdd] at hN0
 go_wp2_with fail
 clear hN0
 with_reducible refine Calls.mono (HQ.out _) ?_
 rintro e x2 ⟨rfl, hb⟩
 replace hL0 := hL0.call hb
 clear hb hweq
 replace hL0 := (hL0.new rfl [.int .u64 ((zl f.num : Nat) : Int), .string (zh f.num), .bool (zs f.num), .int .u64 ((lo (fe f) : Nat) : Int), .string (hs (fe f))] 30)
 generalize hweq : (x2.alloc (.cells #[.int .u64 ((zl f.num : Nat) : Int), .string (zh f.num), .bool (zs f.num), .int .u64 ((lo (fe f) : Nat) : Int), .string (hs (fe f))] 30)) = x3 at hL0
 go_wp2_with fail
 clear hweq
 have hk0 : x2.heap.size < x3.heap.size := (hL0.get _ _ List.mem_cons_self).lt
 have hk1 : w.heap.size < x3.heap.size := (hL0.get _ _ (List.mem_cons_of_mem _ List.mem_cons_self)).lt
 have hwE : w.heap.size ≤ x3.heap.size := hL0.bl.size
 obtain ⟨E, hE⟩ : ∃ E, E = x3.heap.size := ⟨_, rfl⟩
 rw [← hE] at hwE hk0 hk1
 have hBS : ∀ k ∈ ([x2.heap.size, w.heap.size] : List Nat), k < E := by intro k hk; simp only [List.mem_cons, List.not_mem_nil, or_false] at hk; rcases hk with rfl | rfl <;> assumption
 clear hk0 hk1
 replace hBS := Lib.hid hBS
 replace hwE := Lib.hid hwE
 go_loopw [6, 7] (fun v z wr => ∃ (i : Nat) (zi : Int), i ≤ n ∧ z = .int .i64 zi ∧ zi = (i : Int) ∧ E ≤ wr.heap.size ∧ wr.ownsRow E 58 5 v (qs i).length (rsCs (qs i)) ∧ GL w wr [(x2.heap.size, [.int .u64 ((zl f.num : Nat) : Int), .string (zh f.num), .bool (zs f.num), .int .u64 ((lo (fe f) : Nat) : Int), .string (hs (fe f))]), (w.heap.size, [.int .i64 x0, .int .u32 y0])]) (fun _ z _ => n - (intOf z).toNat)
 case atStart => exact ⟨0, _, Nat.zero_le _, rfl, rfl, Nat.le_of_eq hE, by rw [hq0.out, rsCs_nil]; exact World.ownsRow_nil _ _ _ _, hL0⟩
 case round =>
  clear hL0 hE
  obtain ⟨i, zi, hi1, rfl, hzi, hEw, hown, hL0⟩ := hrel
  rcases Nat.lt_or_ge i n with hin | hin
  ·subst hzi
   obtain ⟨q9, rfl, hqa⟩ := hq.out (by omega)
   have hln := hlen.out
   have k1 : (i : Int) < (n : Int) := by omega
   have k0 : (0 : Int) ≤ (i : Int) := Int.natCast_nonneg _
   have kb : (i : Int) ≤ 1000000 := by have := hnb.out; omega
   have c0 := (hqa.below hL0.bl).cell i (by omega)
   have HPi := Lib.hid (HP.out i (by omega))
   obtain ⟨y, hy⟩ : ∃ y : Nat, y = ll[i]'(by omega) := ⟨_, rfl⟩
   rw [← hy] at c0 HPi
   have HOi := Lib.hid (HO.out i (by omega))
   obtain ⟨hm1, hv1, hv2⟩ := hpp.out i (by omega)
   have hs1i := hs1.out i (by omega)
   have hs0i := hs0.out i (by omega)
   have hli := hll.out i (by omega)
   obtain ⟨m, hm⟩ : ∃ m, m = pp i := ⟨_, rfl⟩
   obtain ⟨x, hx⟩ : ∃ x, x = vv i := ⟨_, rfl⟩
   obtain ⟨k, hk⟩ : ∃ k, k = bb i := ⟨_, rfl⟩
   rw [← hm] at HPi HOi hs1i hm1
   rw [← hx] at HOi hs1i hv1 hv2
   rw [← hk] at HOi hs1i hs0i
   clear hm hx hk hy hqa
   replace hli := Lib.hid hli
   replace hown := Lib.hid hown
   replace hEw := Lib.hid hEw
   replace hin := Lib.hid hin
   cases k with
   | false =>
    have hnx := Lib.hid (hs0i rfl)
    clear hs1i hs0i
    go_wp2_with fail
    with_reducible refine Calls.mono (HPi.out _) ?_
    rintro e x4 ⟨rfl, hb⟩
    replace hown := Lib.hid (ownR_below hown.out hb)
    replace hEw := Lib.hid (Nat.le_trans hEw.out hb.size)
    replace hL0 := hL0.call hb
    clear hb
    have hN0 := cells_of _ 0 [] rfl (hL0.get _ _ List.mem_cons_self)
    simp only [cellsF, and_true, Nat.zero_add, Nat.reduceAdd] at hN0
    go_wp2_with fail
    clear hN0
    with_reducible refine Calls.mono (HOi.out _) ?_
    rintro e x5 ⟨rfl, hb⟩
    replace hown := Lib.hid (ownR_below hown.out hb)
    replace hEw := Lib.hid (Nat.le_trans hEw.out hb.size)
    replace hL0 := hL0.call hb
    clear hb
    go_wp2_with fail
    go_roundw
    case rel => exact ⟨i + 1, _, by have := hin.out; omega, by first | rfl | go_num, by omega, hEw.out, by rw [hnx.out]; exact hown.out, hL0⟩
    case measure => have := hin.out; simp [intOf] <;> omega
   | true =>
    have hnx := Lib.hid (hs1i rfl)
    clear hs1i hs0i
    have kv : x < 4294967296 := hv2
    have hx2 : x % 18446744073709551616 = x := by omega
    have hm2 : ((m : Nat) : Int) % 18446744073709551616 = (m : Int) := by omega
    have HOx := Lib.hid (fun w => HI.out x hv1 hv2 w)
    have HOm := Lib.hid (fun w => HN.out m hm1 w)
    go_wp2_with fail
    with_reducible refine Calls.mono (HPi.out _) ?_
    rintro e x4 ⟨rfl, hb⟩
    replace hown := Lib.hid (ownR_below hown.out hb)
    replace hEw := Lib.hid (Nat.le_trans hEw.out hb.size)
    replace hL0 := hL0.call hb
    clear hb
    have hN0 := cells_of _ 0 [] rfl (hL0.get _ _ List.mem_cons_self)
    simp only [cellsF, and_true, Nat.zero_add, Nat.reduceAdd] at hN0
    go_wp2_with fail
    clear hN0
    with_reducible refine Calls.mono (HOi.out _) ?_
    rintro e x5 ⟨rfl, hb⟩
    replace hown := Lib.hid (ownR_below hown.out hb)
    replace hEw := Lib.hid (Nat.le_trans hEw.out hb.size)
    replace hL0 := hL0.call hb
    clear hb
    go_wp2_with fail
    with_reducible refine Calls.mono (HOx.out _) ?_
    rintro e x6 ⟨rfl, hb⟩
    replace hown := Lib.hid (ownR_below hown.out hb)
    replace hEw := Lib.hid (Nat.le_trans hEw.out hb.size)
    replace hL0 := hL0.call hb
    clear hb
    go_wp2_with fail
    with_reducible refine Calls.mono (HOm.out _) ?_
    rintro e x7 ⟨rfl, hb⟩
    replace hown := Lib.hid (ownR_below hown.out hb)
    replace hEw := Lib.hid (Nat.le_trans hEw.out hb.size)
    replace hL0 := hL0.call hb
    clear hb
    replace hL0 := (hL0.new rfl [.int .u64 ((zl x : Nat) : Int), .string (zh x), .bool (zs x), .int .u64 ((lo m : Nat) : Int), .string (hs m)] 58)
    generalize hweq : (x7.alloc (.cells #[.int .u64 ((zl x : Nat) : Int), .string (zh x), .bool (zs x), .int .u64 ((lo m : Nat) : Int), .string (hs m)] 58)) = x8 at hL0
    have hE3 : E ≤ x8.heap.size := Nat.le_trans hEw.out (by rw [← hweq, World.size_alloc]; omega)
    have hown3 := ownR_below hown.out (show Below x7.heap.size x7 x8 by rw [← hweq]; exact (Below.refl _ _).alloc (Nat.le_refl _) _)
    have hnw := hd_newsP (hL0.get _ _ List.mem_cons_self)
    replace hnw := Lib.hid hnw
    replace hown3 := Lib.hid hown3
    replace hE3 := Lib.hid hE3
    have hne : ∀ u ∈ ([.int .u64 ((zl x : Nat) : Int), .string (zh x), .bool (zs x), .int .u64 ((lo m : Nat) : Int), .string (hs m)] : List Value), u.oneCell' = true := rsC_one (x, m)
    replace hne := Lib.hid hne
    have hlq := hli.out
    go_wp2_with (at_builtin; refine wpList_append_own _ rfl _ _ 52 rfl E 58 iF (.agg #[.int .u64 0, .string ⟨#[]⟩, .bool false, .int .u64 0, .string ⟨#[]⟩]) 5 56 Tryz.underlying52 hi.out hz0.out hz1.out hz2.out rfl (by decide) _ _ _ rfl hown3.out ⟨x7.heap.size, 0, none⟩ 1 1 [.int .u64 ((zl x : Nat) : Int), .string (zh x), .bool (zs x), .int .u64 ((lo m : Nat) : Int), .string (hs m)] rfl rfl hnw.out hne.out (by unfold maxLen; omega) (by omega) hE3.out ?_)
    intro v' w1 hown' hgrow _
    have hown4 : w1.ownsRow E 58 5 v' (qs (i + 1)).length (rsCs (qs (i + 1))) := by rw [hnx.out, rsCs_snoc, List.length_append]; exact hown'
    have hb4 : Below E x8 w1 := (Below.refl E x8).grown hgrow hE3.out (fun j hj => (hown3.out.lt j hj).1)
    replace hL0 := (hL0.weak (List.Sublist.cons _ (List.Sublist.refl _))).belowR hb4 (fun p hp => hBS.out p.1 (List.mem_map.2 ⟨p, hp, rfl⟩)) hwE.out
    have hE4 : E ≤ w1.heap.size := Nat.le_trans hE3.out hgrow.size
    clear hown' hgrow hb4 hown3 hE3 hnw hne hweq hown
    replace hown4 := Lib.hid hown4
    replace hE4 := Lib.hid hE4
    go_wp2_with fail
    go_roundw
    case rel => exact ⟨i + 1, _, by have := hin.out; omega, by first | rfl | go_num, by omega, hE4.out, hown4.out, hL0⟩
    case measure => have := hin.out; simp [intOf] <;> omega
  ·obtain rfl : i = n := by omega
   subst hzi
   have k1 : ¬ (i : Int) < (i : Int) := by omega
   have hSl := ownR_slr hown rfl
   obtain ⟨sa, sn, sc, rfl, -⟩ := slr_form hSl
   replace hSl := Lib.hid hSl
   clear hown hEw hi1 hin
   go_wp2_with fail
   with_reducible refine Calls.mono (HC.out _ _ hSl.out) ?_
   rintro e x4 ⟨rfl, hb⟩
   replace hL0 := hL0.call hb
   clear hb
   replace hL0 := (hL0.new rfl [.int .u64 ((zl cz : Nat) : Int), .string (zh cz), .bool (zs cz), .int .u64 ((lo cm : Nat) : Int), .string (hs cm)] 58)
   generalize hweq : (x4.alloc (.cells #[.int .u64 ((zl cz : Nat) : Int), .string (zh cz), .bool (zs cz), .int .u64 ((lo cm : Nat) : Int), .string (hs cm)] 58)) = x5 at hL0
   have hN0 := cells_of _ 0 [] rfl (hL0.get _ _ List.mem_cons_self)
   simp only [cellsF, and_true, Nat.zero_add, Nat.reduceAdd] at hN0
   have hN1 := cells_of _ 0 [] rfl (hL0.get _ _ (List.mem_cons_of_mem _ List.mem_cons_self))
   simp only [cellsF, and_true, Nat.zero_add, Nat.reduceAdd] at hN1
   go_wp2_with fail
   clear hN0 hN1
   with_reducible refine Calls.mono (HF.out _) ?_
   rintro e x6 ⟨rfl, hb⟩
   replace hL0 := hL0.call hb
   clear hb hweq
   have hN0 := cells_of _ 0 [] rfl (hL0.get _ _ List.mem_cons_self)
   simp only [cellsF, and_true, Nat.zero_add, Nat.reduceAdd] at hN0
   go_wp2_with fail
   clear hN0
   with_reducible refine Calls.mono (HB.out _) ?_
   rintro e x7 ⟨rfl, hb⟩
   replace hL0 := hL0.call hb
   clear hb
   replace hL0 := (hL0.new rfl [.int .u64 ((zl g.num : Nat) : Int), .string (zh g.num), .bool (zs g.num), .int .u64 ((lo (fe g) : Nat) : Int), .string (hs (fe g))] 30)
   generalize hweq : (x7.alloc (.cells #[.int .u64 ((zl g.num : Nat) : Int), .string (zh g.num), .bool (zs g.num), .int .u64 ((lo (fe g) : Nat) : Int), .string (hs (fe g))] 30)) = x8 at hL0
   have hN0 := cells_of _ 0 [] rfl (hL0.get _ _ (List.mem_cons_of_mem _ List.mem_cons_self))
   simp only [cellsF, and_true, Nat.zero_add, Nat.reduceAdd] at hN0
   have hN1 := cells_of _ 0 [] rfl (hL0.get _ _ (List.mem_cons_of_mem _ (List.mem_cons_of_mem _ List.mem_cons_self)))
   simp only [cellsF, and_true, Nat.zero_add, Nat.reduceAdd] at hN1
   go_wp2_with fail
   clear hN0 hN1
   with_reducible refine Calls.mono (HR.out _) ?_
   rintro e x9 ⟨rfl, hb⟩
   replace hL0 := hL0.call hb
   clear hb hweq
   go_wp2_with fail
   with_reducible refine Calls.mono (HW.out _ (hKT.out.at hL0.bl kKT)) ?_
   rintro e x10 ⟨rfl, hb⟩
   replace hL0 := hL0.call hb
   clear hb
   go_wp2_with fail
   exact bodyPost_ret (v := .bool true) (by simp [results, Tryz.results9, go_sem]) rfl ⟨rfl, hL0.bl⟩
end Go.Proofs.YtloipmieaefcpaaGreatDoor
namespace Go.Proofs.YtloipmieaefcpaaGreatDoor
/-- A number greater than 1 that only 1 and itself divide. -/
def isPr (p : Nat) : Prop := 1 < p ∧ ∀ d, d ∣ p → d = 1 ∨ d = p
theorem pr_coprime {p a : Nat} (hp : isPr p) (h : ¬ p ∣ a) : Nat.Coprime p a := by
 rcases hp.2 _ (Nat.gcd_dvd_left p a) with e | e
 ·exact e
 ·exact absurd (e ▸ Nat.gcd_dvd_right p a) h
theorem pr_mul {p a b : Nat} (hp : isPr p) (h : p ∣ a * b) : p ∣ a ∨ p ∣ b := by
 by_cases ha : p ∣ a
 ·exact .inl ha
 ·exact .inr ((pr_coprime hp ha).dvd_of_dvd_mul_left h)
def bin : Nat → Nat → Nat
 | _, 0 => 1
 | 0, _ + 1 => 0
 | n + 1, k + 1 => bin n k + bin n (k + 1)
theorem bin_zero (n : Nat) : bin n 0 = 1 := by cases n <;> rfl
theorem bin_succ (n k : Nat) : bin (n + 1) (k + 1) = bin n k + bin n (k + 1) := rfl
theorem bin_big : ∀ {n k : Nat}, n < k → bin n k = 0
 | 0, k + 1, _ => rfl
 | n + 1, k + 1, h => by rw [bin_succ, bin_big (by omega), bin_big (by omega)]
theorem bin_self : ∀ n, bin n n = 1
 | 0 => rfl
 | n + 1 => by rw [bin_succ, bin_self n, bin_big (Nat.lt_succ_self n)]
/-- k times the binomial is n times the one before. -/
theorem bin_absorb : ∀ n k, (k + 1) * bin (n + 1) (k + 1) = (n + 1) * bin n k
 | 0, 0 => rfl
 | 0, k + 1 => by rw [bin_big (show 0 + 1 < k + 1 + 1 by omega), bin_big (show 0 < k + 1 by omega), Nat.mul_zero, Nat.mul_zero]
 | n + 1, 0 => by
  have h := bin_absorb n 0
  rw [bin_zero] at h
  rw [bin_succ, bin_zero]
  simp only [Nat.zero_add, Nat.one_mul, Nat.mul_one] at h ⊢
  omega
 | n + 1, k + 1 => by
  have h1 := bin_absorb n k
  have h2 := bin_absorb n (k + 1)
  rw [bin_succ (n + 1) (k + 1), Nat.mul_add, h2]
  have h3 : bin (n + 1) (k + 1) = bin n k + bin n (k + 1) := rfl
  have h4 : (k + 1 + 1) * bin (n + 1) (k + 1) = (n + 1) * bin n k + bin (n + 1) (k + 1) := by rw [Nat.add_mul, h1, Nat.one_mul]
  rw [h4, h3, Nat.add_mul (n + 1), Nat.mul_add (n + 1)]
  omega
theorem bin_prime {p k : Nat} (hp : isPr p) (h0 : 0 < k) (h : k < p) : p ∣ bin p k := by
 obtain ⟨n, rfl⟩ : ∃ n, p = n + 1 := ⟨p - 1, by have := hp.1; omega⟩
 obtain ⟨j, rfl⟩ : ∃ j, k = j + 1 := ⟨k - 1, by omega⟩
 have e := bin_absorb n j
 have hd : n + 1 ∣ (j + 1) * bin (n + 1) (j + 1) := ⟨_, e⟩
 rcases pr_mul hp hd with h1 | h1
 ·exact absurd (Nat.le_of_dvd (by omega) h1) (by omega)
 ·exact h1
/-- The first j terms of the binomial sum. -/
def bsum (a n : Nat) : Nat → Nat
 | 0 => 0
 | j + 1 => bsum a n j + bin n j * a ^ j
theorem bsum_step (a n : Nat) : ∀ j, bsum a (n + 1) (j + 1) = bsum a n (j + 1) + a * bsum a n j
 | 0 => by simp [bsum, bin_zero]
 | j + 1 => by
  have h := bsum_step a n j
  rw [bsum, h, bin_succ, bsum, bsum]
  have e1 : bsum a n (j + 1) = bsum a n j + bin n j * a ^ j := rfl
  rw [e1, Nat.add_mul, Nat.mul_add, Nat.pow_succ]
  have e2 : bin n j * (a ^ j * a) = a * (bin n j * a ^ j) := by rw [Nat.mul_comm a, Nat.mul_assoc]
  rw [e2]; omega
theorem binomial (a : Nat) : ∀ n, (a + 1) ^ n = bsum a n (n + 1)
 | 0 => by simp [bsum, bin_zero]
 | n + 1 => by
  rw [bsum_step, bsum, bin_big (Nat.lt_succ_self n), Nat.zero_mul, Nat.add_zero, ← binomial a n, Nat.pow_succ, Nat.mul_add, Nat.mul_one, Nat.mul_comm _ a]
  omega
theorem bsum_prime {p : Nat} (hp : isPr p) (a : Nat) : ∀ j, 0 < j → j ≤ p → bsum a p j % p = 1
 | 1, _, _ => by
  show (0 + bin p 0 * a ^ 0) % p = 1
  rw [bin_zero, Nat.zero_add, Nat.one_mul, Nat.pow_zero, Nat.mod_eq_of_lt hp.1]
 | j + 2, _, h => by
  have h1 := bsum_prime hp a (j + 1) (by omega) (by omega)
  obtain ⟨c, e⟩ := bin_prime hp (show 0 < j + 1 by omega) (show j + 1 < p by omega)
  rw [bsum, e, Nat.mul_assoc, Nat.add_mul_mod_self_left]
  exact h1
/-- The power p of a number is the number, modulo a prime p. -/
theorem fermat {p : Nat} (hp : isPr p) : ∀ a, a ^ p % p = a % p
 | 0 => by rw [Nat.zero_pow (by have := hp.1; omega)]
 | a + 1 => by
  rw [binomial, bsum, bin_self, Nat.one_mul, Nat.add_mod, bsum_prime hp a p (by have := hp.1; omega) (Nat.le_refl p), fermat hp a, Nat.add_comm 1, ← Nat.add_mod_mod]
  rw [Nat.add_mod_mod, Nat.mod_add_mod]
theorem fermat_one {p a : Nat} (hp : isPr p) (h : ¬ p ∣ a) : a ^ (p - 1) % p = 1 := by
 have h1 := fermat hp a
 have e : a ^ p = a ^ (p - 1) * a := by rw [← Nat.pow_succ]; congr 1; have := hp.1; omega
 have ha : 0 < a := Nat.pos_of_ne_zero fun e => h (e ▸ Nat.dvd_zero p)
 have hle : a ≤ a ^ p := Nat.le_self_pow (by have := hp.1; omega) a
 have h2 : p ∣ a ^ p - a := Nat.dvd_of_mod_eq_zero (Nat.sub_mod_eq_zero_of_mod_eq h1)
 have h3 : a ^ p - a = (a ^ (p - 1) - 1) * a := by rw [e, Nat.sub_mul, Nat.one_mul]
 rw [h3] at h2
 have hpos : 0 < a ^ (p - 1) := Nat.pow_pos ha
 rcases pr_mul hp h2 with h4 | h4
 ·obtain ⟨c, hc⟩ := h4
  have : a ^ (p - 1) = 1 + p * c := by omega
  rw [this, Nat.add_mul_mod_self_left, Nat.mod_eq_of_lt hp.1]
 ·exact absurd h4 h
end Go.Proofs.YtloipmieaefcpaaGreatDoor
namespace Go.Proofs.YtloipmieaefcpaaGreatDoor
theorem pow_mul_one {b q k : Nat} (h1 : 1 < q) (h : b ^ k % q = 1) (c : Nat) : b ^ (k * c) % q = 1 := by
 rw [Nat.pow_mul, Nat.pow_mod, h, Nat.one_pow, Nat.mod_eq_of_lt h1]
theorem pow_add_one {b q k m : Nat} (h : b ^ k % q = 1) : b ^ (k + m) % q = b ^ m % q := by
 rw [Nat.pow_add, Nat.mul_mod, h, Nat.one_mul, Nat.mod_mod]
theorem mod_down {n q c x : Nat} (h1 : 1 < q) (e : n = q * c) (h : x % n = 1) : x % q = 1 := by
 have := Nat.mod_mod_of_dvd x (show q ∣ n from ⟨c, e⟩)
 rw [h, Nat.mod_eq_of_lt h1] at this
 exact this.symm
theorem mod_zero_pow {b q k : Nat} (h0 : 0 < k) (h : q ∣ b) : b ^ k % q = 0 := by
 obtain ⟨j, rfl⟩ : ∃ j, k = j + 1 := ⟨k - 1, by omega⟩
 rw [Nat.pow_succ]
 exact Nat.mod_eq_zero_of_dvd (Nat.dvd_mul_left_of_dvd h _)
/-- The exponents with power 1 are closed under greatest common divisors. -/
theorem pow_gcd {b q : Nat} (h1 : 1 < q) : ∀ k m : Nat, b ^ k % q = 1 → b ^ m % q = 1 → b ^ Nat.gcd k m % q = 1 := by
 intro k m
 induction k, m using Nat.gcd.induction with
 | H0 n => intro _ h; rwa [Nat.gcd_zero_left]
 | H1 m n hm ih =>
  intro hk hn
  rw [Nat.gcd_rec]
  refine ih ?_ hk
  have e := Nat.mod_add_div n m
  rw [Nat.add_comm] at e
  rw [← e, pow_add_one (pow_mul_one h1 hk (n / m))] at hn
  exact hn
end Go.Proofs.YtloipmieaefcpaaGreatDoor
namespace Go.Proofs.YtloipmieaefcpaaGreatDoor
def st2 (n x d : Nat) : Nat := Nat.mod (Nat.mul (Nat.pow x 256) (Nat.pow 2 d)) n
def pw2 (n e : Nat) : Nat := st2 n (st2 n (st2 n (st2 n 1 (Nat.div e 16777216)) (Nat.mod (Nat.div e 65536) 256)) (Nat.mod (Nat.div e 256) 256)) (Nat.mod e 256)
/-- n passes: the powers n - 1 of all witnesses are 1. -/
def Pass (W : List Nat) (n : Nat) : Prop := ∀ b ∈ W, b ^ (n - 1) % n = 1
/-- What is known of a prime q: all exponents at which the witnesses have the power 1 are multiples of e; and not all have it modulo q q. -/
def Ent (W : List Nat) (q e : Nat) : Prop := isPr q → (∀ m, (∀ b ∈ W, b ^ m % q = 1) → e ∣ m) ∧ ∃ b ∈ W, b ^ (q - 1) % (q * q) ≠ 1
/-- (1 + k q)^j is 1 + j k q modulo q q. -/
theorem pow_lift {x q k : Nat} (h : x = 1 + k * q) : ∀ j, x ^ j % (q * q) = (1 + j * k * q) % (q * q)
 | 0 => by simp
 | j + 1 => by
  rw [Nat.pow_succ, Nat.mul_mod, pow_lift h j, ← Nat.mul_mod, h]
  have e : (1 + j * k * q) * (1 + k * q) = (1 + (j + 1) * k * q) + q * q * (j * k * k) := by grind
  rw [e, Nat.add_mul_mod_self_left]
theorem euler_sq {b q : Nat} (hq : isPr q) (hb : ¬ q ∣ b) : b ^ ((q - 1) * q) % (q * q) = 1 := by
 have h := fermat_one hq hb
 have e := Nat.mod_add_div (b ^ (q - 1)) q
 rw [h] at e
 have h1 := hq.1
 rw [Nat.pow_mul, pow_lift (k := b ^ (q - 1) / q) (by rw [Nat.mul_comm]; exact e.symm) q]
 have : q * (b ^ (q - 1) / q) * q = q * q * (b ^ (q - 1) / q) := by rw [Nat.mul_right_comm]
 rw [this, Nat.add_mul_mod_self_left, Nat.mod_eq_of_lt]
 have := Nat.mul_le_mul (show 2 ≤ q by omega) (show 2 ≤ q by omega)
 omega
theorem not_dvd_w {W : List Nat} {n q b : Nat} (hp : Pass W n) (hq : isPr q) (hd : q ∣ n) (h1 : 1 < n) (hb : b ∈ W) : ¬ q ∣ b := by
 intro g
 obtain ⟨c, e⟩ := hd
 have h := mod_down hq.1 e (hp b hb)
 rw [mod_zero_pow (by omega) g] at h
 omega
theorem dvd_pred {n q c : Nat} (e : n = q * c) (h1 : 1 < n) (hd : q ∣ n - 1) : q = 1 := by
 have := (Nat.dvd_sub (show q ∣ n from ⟨c, e⟩) hd)
 rw [show n - (n - 1) = 1 by omega] at this
 exact Nat.dvd_one.1 this
/-- The prime q occurs once, and e divides n - 1. -/
theorem Ent.once {W : List Nat} {n q e : Nat} (h : Ent W q e) (hp : Pass W n) (hq : isPr q) (hd : q ∣ n) (h1 : 1 < n) : ¬ q * q ∣ n := by
 rintro ⟨c, hc⟩
 obtain ⟨b, hb, hne⟩ := (h hq).2
 have hbq := not_dvd_w hp hq hd h1 hb
 have q1 := hq.1
 have qq : 1 < q * q := by
  have := Nat.mul_le_mul (show 2 ≤ q by omega) (show 2 ≤ q by omega)
  omega
 have k1 := mod_down qq hc (hp b hb)
 have k2 := euler_sq hq hbq
 have k3 := pow_gcd qq _ _ k2 k1
 have hcop : Nat.Coprime (n - 1) q := by
  rcases hq.2 _ (Nat.gcd_dvd_right (n - 1) q) with g | g
  ·exact g
  ·have : q ∣ n - 1 := g ▸ Nat.gcd_dvd_left (n - 1) q
   have := dvd_pred (show n = q * (q * c) by rw [hc, Nat.mul_assoc]) h1 this
   omega
 have k4 : Nat.gcd ((q - 1) * q) (n - 1) ∣ q - 1 := by
  have c1 : Nat.Coprime (Nat.gcd ((q - 1) * q) (n - 1)) q := Nat.Coprime.coprime_dvd_left (Nat.gcd_dvd_right _ _) hcop
  exact c1.dvd_of_dvd_mul_right (Nat.gcd_dvd_left _ _)
 obtain ⟨t, ht⟩ := k4
 apply hne
 rw [ht]
 exact pow_mul_one qq k3 t
/-- n does not pass: the power of 2 first, then the test itself. -/
def leafOk (T : Nat → Bool) (n : Nat) : Bool := cond (Nat.beq (pw2 n (Nat.sub n 1)) 1) (not (T n)) true
/-- All n = m (c0 + i L) below N, for i < k. -/
noncomputable def enumOk (N : Nat) (T : Nat → Bool) (m L c0 k : Nat) : Bool :=
 Nat.rec (motive := fun _ => Bool) true (fun i ih => and ((fun n => cond (Nat.ble N n) true (leafOk T n)) (Nat.mul m (Nat.add c0 (Nat.mul i L)))) ih) k
/-- A number x with m x = 1 modulo L, if it finds one (checked where it is used). -/
noncomputable def invN (L : Nat) (f : Nat) : Nat → Nat → Nat → Nat → Nat :=
 Nat.rec (motive := fun _ => Nat → Nat → Nat → Nat → Nat) (fun _ _ _ s1 => s1)
  (fun _ ih r0 r1 s0 s1 => cond (Nat.ble r1 1) s1 (ih r1 (Nat.mod r0 r1) s1 (Nat.mod (Nat.add s0 (Nat.mul (Nat.div r0 r1) (Nat.sub L s1))) L))) f
noncomputable def leaves (N : Nat) (T : Nat → Bool) (m L : Nat) : Bool :=
 (fun c0 => and (Nat.beq (Nat.mod (Nat.mul m c0) L) (Nat.mod 1 L)) (enumOk N T m L (Nat.mod c0 L) (Nat.add (Nat.div N (Nat.mul m L)) 1))) (invN L 60 L (Nat.mod m L) 0 1)
/-- The search: m divides n, L divides n - 1, the other primes of n come from the list. -/
noncomputable def go (N : Nat) (T : Nat → Bool) (l : List (Nat × Nat)) : Nat → Nat → Bool :=
 List.rec (motive := fun _ => Nat → Nat → Bool) (fun _ _ => true)
  (fun p rest ih m L => and (ih m L) (cond (Nat.ble N (Nat.mul m p.1)) true (cond (Nat.beq (Nat.gcd L p.1) 1)
   (and (leafOk T (Nat.mul m p.1)) ((fun K => cond (Nat.ble (Nat.div N (Nat.mul (Nat.mul m p.1) K)) (Nat.div p.1 2)) (leaves N T (Nat.mul m p.1) K) (ih (Nat.mul m p.1) K)) (Nat.lcm L p.2))) true))) l
end Go.Proofs.YtloipmieaefcpaaGreatDoor
namespace Go.Proofs.YtloipmieaefcpaaGreatDoor
/-- The test, but for the prime q itself. -/
def butQ (T : Nat → Bool) (q n : Nat) : Bool := and (not (Nat.beq n q)) (T n)
/-- The search behind one greatest prime. -/
noncomputable def headOk (N : Nat) (T : Nat → Bool) (q e : Nat) (rest : List (Nat × Nat)) : Bool := cond (Nat.ble N q) true
 (cond (Nat.ble (Nat.div N (Nat.mul q e)) (Nat.div q 2)) (leaves N (butQ T q) q e) (go N (butQ T q) rest q e))
/-- Each prime of the list has been searched behind. -/
def HA (N : Nat) (T : Nat → Bool) (l : List (Nat × Nat)) : Prop := ∀ a q e b, l = a ++ (q, e) :: b → headOk N T q e b = true
end Go.Proofs.YtloipmieaefcpaaGreatDoor
namespace Go.Proofs.YtloipmieaefcpaaGreatDoor
theorem dvd_sub_mod {u v p : Nat} (h : u ≤ v) : p ∣ v - u ↔ v % p = u % p := by
 constructor
 ·rintro ⟨k, hk⟩
  rw [show v = u + p * k by omega, Nat.add_mul_mod_self_left]
 ·intro e; exact Nat.dvd_of_mod_eq_zero (Nat.sub_mod_eq_zero_of_mod_eq e)
theorem mod_add_cancel {a b c p : Nat} (h : (a + c) % p = (b + c) % p) : a % p = b % p := by
 rcases Nat.le_total a b with g | g
 ·have := (dvd_sub_mod (show a + c ≤ b + c by omega)).2 h.symm
  rw [show b + c - (a + c) = b - a by omega] at this
  exact ((dvd_sub_mod g).1 this).symm
 ·have := (dvd_sub_mod (show b + c ≤ a + c by omega)).2 h
  rw [show a + c - (b + c) = a - b by omega] at this
  exact (dvd_sub_mod g).1 this
/-- The residue of n modulo p; it is 0 modulo 0. -/
def rsd (n p : Nat) : Nat := if p = 0 then 0 else n % p
theorem rsd_zero (n : Nat) : rsd n 0 = 0 := rfl
theorem rsd_pos {n p : Nat} (h : p ≠ 0) : rsd n p = n % p := if_neg h
theorem rsd_lt {n p : Nat} (h : p ≠ 0) : rsd n p < p := by rw [rsd_pos h]; exact Nat.mod_lt _ (by omega)
theorem rsd_le (n p : Nat) : rsd n p ≤ p := by
 rcases Nat.eq_zero_or_pos p with rfl | h
 ·exact Nat.le_refl _
 ·exact Nat.le_of_lt (rsd_lt (by omega))
theorem rsd_add_l (a b p : Nat) : rsd (rsd a p + b) p = rsd (a + b) p := by
 unfold rsd; split
 ·rfl
 ·rw [Nat.mod_add_mod]
theorem rsd_add_r (a b p : Nat) : rsd (a + rsd b p) p = rsd (a + b) p := by
 unfold rsd; split
 ·rfl
 ·rw [Nat.add_mod_mod]
/-- What Sub returns. -/
def subN (a b p : Nat) : Nat := rsd (a + (p - rsd b p)) p
theorem subN_add (a b p : Nat) : rsd (subN a b p + b) p = rsd a p := by
 unfold subN
 rw [rsd_add_l, ← rsd_add_r]
 have := rsd_le b p
 rw [show a + (p - rsd b p) + rsd b p = a + p by omega]
 unfold rsd; split
 ·rfl
 ·rw [Nat.add_mod_right]
theorem bezout (a b : Nat) : ∃ x y : Int, x * a + y * b = (Nat.gcd a b : Nat) := by
 induction a, b using Nat.gcd.induction with
 | H0 n => exact ⟨0, 1, by rw [Nat.gcd_zero_left]; omega⟩
 | H1 m n hm ih =>
  obtain ⟨x, y, h⟩ := ih
  refine ⟨y - x * ((n / m : Nat) : Int), x, ?_⟩
  rw [Nat.gcd_rec, ← h]
  have e : (n : Int) = (m : Int) * ((n / m : Nat) : Int) + ((n % m : Nat) : Int) := by exact_mod_cast (Nat.div_add_mod n m).symm
  generalize ((n / m : Nat) : Int) = q at *
  generalize ((n % m : Nat) : Int) = r at *
  rw [e]; grind
/-- What Inv returns: the inverse, if there is one. -/
def IsInv (a p v : Nat) (ok : Bool) : Prop := (ok = true ∧ v < p ∧ a * v % p = 1 % p) ∨ (ok = false ∧ v = 0 ∧ (p = 0 ∨ Nat.gcd a p ≠ 1))
theorem inv_gcd {a p v : Nat} (hv : a * v % p = 1 % p) (h0 : 0 < p) : Nat.gcd a p = 1 := by
 have h1 : Nat.gcd a p ∣ a * v := Nat.dvd_trans (Nat.gcd_dvd_left _ _) (Nat.dvd_mul_right _ _)
 have h2 : Nat.gcd a p ∣ a * v % p := (Nat.dvd_mod_iff (Nat.gcd_dvd_right _ _)).2 h1
 rw [hv] at h2
 exact Nat.dvd_one.1 ((Nat.dvd_mod_iff (Nat.gcd_dvd_right _ _)).1 h2)
theorem mul_cancel_mod {a v u p : Nat} (h0 : 0 < p) (hg : Nat.gcd a p = 1) (h : a * v % p = a * u % p) : v % p = u % p := by
 rcases Nat.le_total u v with g | g
 ·have h1 : p ∣ a * v - a * u := (dvd_sub_mod (Nat.mul_le_mul_left a g)).2 h
  rw [← Nat.mul_sub] at h1
  have h2 : p ∣ v - u := Nat.Coprime.dvd_of_dvd_mul_left (Nat.Coprime.symm hg) h1
  exact (dvd_sub_mod g).1 h2
 ·have h1 : p ∣ a * u - a * v := (dvd_sub_mod (Nat.mul_le_mul_left a g)).2 h.symm
  rw [← Nat.mul_sub] at h1
  have h2 : p ∣ u - v := Nat.Coprime.dvd_of_dvd_mul_left (Nat.Coprime.symm hg) h1
  exact ((dvd_sub_mod g).1 h2).symm
theorem IsInv.uniq {a p v u : Nat} {x y : Bool} (h : IsInv a p v x) (k : IsInv a p u y) : v = u ∧ x = y := by
 rcases h with ⟨rfl, h1, h2⟩ | ⟨rfl, rfl, h1⟩ <;> rcases k with ⟨rfl, k1, k2⟩ | ⟨rfl, rfl, k1⟩
 ·have := mul_cancel_mod (by omega) (inv_gcd h2 (by omega)) (h2.trans k2.symm)
  rw [Nat.mod_eq_of_lt h1, Nat.mod_eq_of_lt k1] at this
  exact ⟨this, rfl⟩
 ·rcases k1 with k1 | k1
  ·omega
  ·exact absurd (inv_gcd h2 (by omega)) k1
 ·rcases h1 with h1 | h1
  ·omega
  ·exact absurd (inv_gcd k2 (by omega)) h1
 ·exact ⟨rfl, rfl⟩
theorem IsInv.ex (a p : Nat) : ∃ vo : Nat × Bool, IsInv a p vo.1 vo.2 := by
 by_cases h0 : p = 0
 ·exact ⟨(0, false), .inr ⟨rfl, rfl, .inl h0⟩⟩
 by_cases hg : Nat.gcd a p = 1
 ·obtain ⟨x, y, h⟩ := bezout a p
  rw [hg] at h
  have hp : (p : Int) ≠ 0 := by omega
  refine ⟨((x % p).toNat, true), .inl ⟨rfl, ?_, ?_⟩⟩
  ·have := Int.emod_lt_of_pos x (show (0 : Int) < p by omega); have := Int.emod_nonneg x hp; show (x % p).toNat < p; omega
  ·have e : (((x % p).toNat : Nat) : Int) = x % p := Int.toNat_of_nonneg (Int.emod_nonneg x hp)
   have : ((a * (x % p).toNat % p : Nat) : Int) = ((1 % p : Nat) : Int) := by
    push_cast
    rw [e, Int.mul_emod, Int.emod_emod, ← Int.mul_emod, show (a : Int) * x = 1 + p * (-y) by have : ((1 : Nat) : Int) = 1 := rfl; grind, Int.add_mul_emod_self_left]
   exact_mod_cast this
 ·exact ⟨(0, false), .inr ⟨rfl, rfl, .inr hg⟩⟩
noncomputable def invV (a p : Nat) : Nat := (IsInv.ex a p).choose.1
noncomputable def invB (a p : Nat) : Bool := (IsInv.ex a p).choose.2
theorem inv_is (a p : Nat) : IsInv a p (invV a p) (invB a p) := (IsInv.ex a p).choose_spec
theorem inv_eq {a p v : Nat} {ok : Bool} (h : IsInv a p v ok) : invV a p = v ∧ invB a p = ok := (inv_is a p).uniq h
theorem inv_lt (a p : Nat) (hp : p < 4294967296) : invV a p < 4294967296 := by
 rcases inv_is a p with ⟨-, h, -⟩ | ⟨-, h, -⟩ <;> omega
theorem invB_iff {a p : Nat} : invB a p = true ↔ p ≠ 0 ∧ Nat.gcd a p = 1 := by
 have hi := inv_is a p
 constructor
 ·intro hb
  rcases hi with ⟨h, h1, h2⟩ | ⟨h, h1, h2⟩
  ·exact ⟨by omega, inv_gcd h2 (by omega)⟩
  ·rw [h] at hb; cases hb
 ·rintro ⟨k1, k2⟩
  rcases hi with ⟨h, h1, h2⟩ | ⟨h, h1, h2⟩
  ·exact h
  ·rcases h2 with h2 | h2
   ·exact absurd h2 k1
   ·exact absurd k2 h2
/-- What Euclid's algorithm keeps: g and d are a x and a y modulo p. -/
structure EucI (a p g d x y : Nat) : Prop where
 hg : Nat.gcd g d = Nat.gcd a p
 e1 : g % p = a * x % p
 e2 : d % p = a * y % p
 gp : g ≤ p
 dl : d < p ∨ d = 0
 xl : x < p
 yl : d ≠ 0 → y < p
theorem EucI.start {a p : Nat} (h : p ≠ 0) : EucI a p p (rsd a p) 0 1 := by
 have hl := rsd_lt (n := a) h
 refine ⟨by rw [rsd_pos h, Nat.gcd_comm, ← Nat.gcd_rec, Nat.gcd_comm], by rw [Nat.mod_self, Nat.mul_zero, Nat.zero_mod], by rw [rsd_pos h, Nat.mod_mod, Nat.mul_one], Nat.le_refl _, .inl hl, by omega, fun g => ?_⟩
 rcases Nat.lt_or_ge 1 p with k | k
 ·exact k
 ·omega
theorem EucI.step {a p g d x y : Nat} (h : EucI a p g d x y) (h0 : p ≠ 0) (hd : d ≠ 0) : EucI a p d (g % d) y (subN x (rsd (g / d * y) p) p) := by
 have hlt := Nat.mod_lt g (show 0 < d by omega)
 have hdp : d < p := by rcases h.dl with k | k <;> omega
 refine ⟨by rw [← h.hg, Nat.gcd_comm g d, Nat.gcd_rec d g, Nat.gcd_comm], h.e2, ?_, by omega, .inl (by omega), h.yl hd, fun _ => by unfold subN; exact rsd_lt h0⟩
 have h1 := subN_add x (rsd (g / d * y) p) p
 rw [rsd_add_r] at h1
 generalize subN x (rsd (g / d * y) p) p = z at *
 rw [rsd_pos h0, rsd_pos h0] at h1
 have h2 : (g % d + g / d * d) % p = (a * z + g / d * d) % p := by
  rw [Nat.mul_comm (g / d) d, Nat.mod_add_div, h.e1, Nat.mul_mod, ← h1, ← Nat.mul_mod, Nat.mul_add, ← Nat.add_mod_mod (a * z) (d * (g / d)), Nat.mul_mod d, h.e2, ← Nat.mul_mod, Nat.add_mod_mod, show a * y * (g / d) = a * (g / d * y) by grind]
 exact mod_add_cancel h2
theorem EucI.ok {a p g x y : Nat} (h : EucI a p g 0 x y) (h0 : p ≠ 0) (h1 : g = 1) : IsInv a p x true :=
 .inl ⟨rfl, h.xl, by rw [← h.e1, h1]⟩
theorem EucI.no {a p g x y : Nat} (h : EucI a p g 0 x y) (h1 : g ≠ 1) : IsInv a p 0 false :=
 .inr ⟨rfl, rfl, .inr (by rw [← h.hg, Nat.gcd_zero_right]; exact h1)⟩
/-- The least prime above n, below 2^31. -/
def IsNext (n q : Nat) (e : Int) : Prop := (e = 0 ∧ n < q ∧ q < 2147483648 ∧ isPr q ∧ ∀ i, n < i → i < q → ¬ isPr i) ∨ (e = 3 ∧ q = 0 ∧ ∀ i, n < i → i < 2147483648 → ¬ isPr i)
theorem IsNext.uniq {n q r : Nat} {e f : Int} (h : IsNext n q e) (k : IsNext n r f) : q = r ∧ e = f := by
 rcases h with ⟨rfl, a1, a2, a3, a4⟩ | ⟨rfl, rfl, a⟩ <;> rcases k with ⟨rfl, b1, b2, b3, b4⟩ | ⟨rfl, rfl, b⟩
 ·refine ⟨?_, rfl⟩
  rcases Nat.lt_trichotomy q r with g | g | g
  ·exact absurd a3 (b4 q a1 g)
  ·exact g
  ·exact absurd b3 (a4 r b1 g)
 ·exact absurd a3 (b q a1 a2)
 ·exact absurd b3 (a r b1 b2)
 ·exact ⟨rfl, rfl⟩
theorem IsNext.ex (n : Nat) : ∃ qe : Nat × Int, IsNext n qe.1 qe.2 := by
 have : ∀ k d, k + d = 2147483648 → (∀ i, n < i → i < d → ¬ isPr i) → n < d → ∃ qe : Nat × Int, IsNext n qe.1 qe.2 := by
  intro k
  induction k with
  | zero => intro d hd hlo _; exact ⟨(0, 3), .inr ⟨rfl, rfl, fun i h1 h2 => hlo i h1 (by omega)⟩⟩
  | succ k ih =>
   intro d hd hlo hn
   by_cases g : isPr d
   ·exact ⟨(d, 0), .inl ⟨rfl, hn, by show d < _; omega, g, hlo⟩⟩
   ·refine ih (d + 1) (by omega) (fun i h1 h2 => ?_) (by omega)
    rcases Nat.lt_or_ge i d with q | q
    ·exact hlo i h1 q
    ·have : i = d := by omega
     rw [this]; exact g
 rcases Nat.lt_or_ge n 2147483648 with g | g
 ·exact this (2147483648 - (n + 1)) (n + 1) (by omega) (fun i h1 h2 => by omega) (by omega)
 ·exact ⟨(0, 3), .inr ⟨rfl, rfl, fun i h1 h2 => by omega⟩⟩
end Go.Proofs.YtloipmieaefcpaaGreatDoor
namespace Go.Proofs.YtloipmieaefcpaaGreatDoor
open Go.RowKit
set_option maxHeartbeats 4000000 in
set_option maxRecDepth 100000 in
theorem residue_any (n p : Nat) (hn : n < 18446744073709551616) (hp : p < 4294967296) (w : World) :
  Calls Tryz.prog 95 #[.int .u64 (n : Int), .int .u32 (p : Int)] w fun e w' => e = .returned (.int .u32 ((rsd n p : Nat) : Int)) ∧ w' = w := by
 have hr : rsd n p < 4294967296 := Nat.lt_of_le_of_lt (rsd_le n p) hp
 by_cases h0 : p = 0
 ·subst h0
  go_enter Tryz.func95, Tryz.ntmps95
  go_wp2_with fail
  go_ret
  exact ⟨rfl, rfl⟩
 ·have e0 : ((p : Int) == 0) = false := by simp; omega
  have e1 : (p : Int) ≠ 0 := by omega
  have hz : (p : Int) % 18446744073709551616 = (p : Int) := by omega
  have hq : (n : Int) % (p : Int) = ((rsd n p : Nat) : Int) := by rw [rsd_pos h0]; rfl
  have hr2 : ((rsd n p : Nat) : Int) % 4294967296 = ((rsd n p : Nat) : Int) := by omega
  generalize rsd n p = r at *
  go_enter Tryz.func95, Tryz.ntmps95
  go_wp2_with fail
  go_ret
  exact ⟨by first | rfl | (simp [*]), rfl⟩
set_option maxHeartbeats 4000000 in
set_option maxRecDepth 100000 in
theorem madd_any (a b p : Nat) (ha : a < 4294967296) (hb : b < 4294967296) (hp : p < 4294967296) (w : World) :
  Calls Tryz.prog 112 #[.int .u32 (a : Int), .int .u32 (b : Int), .int .u32 (p : Int)] w fun e w' => e = .returned (.int .u32 ((rsd (a + b) p : Nat) : Int)) ∧ w' = w := by
 have R := Lib.hid (residue_any (a + b) p (by omega) hp w)
 obtain ⟨s, hs⟩ : ∃ s, s = a + b := ⟨_, rfl⟩
 rw [← hs] at R ⊢
 have h1 : (a : Int) % 18446744073709551616 = (a : Int) := by omega
 have h2 : (b : Int) % 18446744073709551616 = (b : Int) := by omega
 have h3 : (a : Int) + (b : Int) = (s : Int) := by omega
 have h4 : (s : Int) % 18446744073709551616 = (s : Int) := by omega
 clear hs ha hb hp
 generalize rsd s p = r at *
 go_enter Tryz.func112, Tryz.ntmps112
 go_wp2_with fail
 with_reducible refine Calls.mono R.out ?_
 rintro e w1 ⟨rfl, rfl⟩
 go_wp2_with fail
 go_ret
 exact ⟨rfl, rfl⟩
set_option maxHeartbeats 4000000 in
set_option maxRecDepth 100000 in
theorem mmul_any (a b p : Nat) (ha : a < 4294967296) (hb : b < 4294967296) (hp : p < 4294967296) (w : World) :
  Calls Tryz.prog 69 #[.int .u32 (a : Int), .int .u32 (b : Int), .int .u32 (p : Int)] w fun e w' => e = .returned (.int .u32 ((rsd (a * b) p : Nat) : Int)) ∧ w' = w := by
 have hl : a * b < 18446744073709551616 := by
  have := Nat.mul_le_mul (show a ≤ 4294967295 by omega) (show b ≤ 4294967295 by omega); omega
 have R := Lib.hid (residue_any (a * b) p hl hp w)
 obtain ⟨s, hs⟩ : ∃ s, s = a * b := ⟨_, rfl⟩
 rw [← hs] at R hl ⊢
 have h1 : (a : Int) % 18446744073709551616 = (a : Int) := by omega
 have h2 : (b : Int) % 18446744073709551616 = (b : Int) := by omega
 have h3 : (a : Int) * (b : Int) = (s : Int) := by rw [hs]; push_cast; rfl
 have h4 : (s : Int) % 18446744073709551616 = (s : Int) := by omega
 clear hs ha hb hp hl
 generalize rsd s p = r at *
 go_enter Tryz.func69, Tryz.ntmps69
 go_wp2_with fail
 with_reducible refine Calls.mono R.out ?_
 rintro e w1 ⟨rfl, rfl⟩
 go_wp2_with fail
 go_ret
 exact ⟨rfl, rfl⟩
set_option maxHeartbeats 4000000 in
set_option maxRecDepth 100000 in
theorem msub_any (a b p : Nat) (ha : a < 4294967296) (hb : b < 4294967296) (hp : p < 4294967296) (w : World) :
  Calls Tryz.prog 96 #[.int .u32 (a : Int), .int .u32 (b : Int), .int .u32 (p : Int)] w fun e w' => e = .returned (.int .u32 ((subN a b p : Nat) : Int)) ∧ w' = w := by
 have hle := rsd_le b p
 have R := Lib.hid (residue_any b p (by omega) hp w)
 have S := Lib.hid (madd_any a (p - rsd b p) p ha (by omega) hp w)
 rw [show rsd (a + (p - rsd b p)) p = subN a b p from rfl] at S
 generalize subN a b p = r at *
 generalize rsd b p = q at *
 obtain ⟨d, hd⟩ : ∃ d, d = p - q := ⟨_, rfl⟩
 rw [← hd] at S
 have h2 : (b : Int) % 18446744073709551616 = (b : Int) := by omega
 have h3 : (p : Int) - (q : Int) = (d : Int) := by omega
 have h4 : (d : Int) % 4294967296 = (d : Int) := by omega
 clear hd ha hb hp hle
 go_enter Tryz.func96, Tryz.ntmps96
 go_wp2_with fail
 with_reducible refine Calls.mono R.out ?_
 rintro e w1 ⟨rfl, rfl⟩
 go_wp2_with fail
 with_reducible refine Calls.mono S.out ?_
 rintro e w2 ⟨rfl, rfl⟩
 go_wp2_with fail
 go_ret
 exact ⟨rfl, rfl⟩
end Go.Proofs.YtloipmieaefcpaaGreatDoor
namespace Go.Proofs.YtloipmieaefcpaaGreatDoor
open Go.RowKit
attribute [local irreducible] rsd subN
theorem rsd_lt32 (n : Nat) {p : Nat} (hp : p < 4294967296) : rsd n p < 4294967296 := Nat.lt_of_le_of_lt (rsd_le n p) hp
theorem subN_lt32 (a b : Nat) {p : Nat} (hp : p < 4294967296) : subN a b p < 4294967296 := by unfold subN; exact rsd_lt32 _ hp
end Go.Proofs.YtloipmieaefcpaaGreatDoor
namespace Go.Proofs.YtloipmieaefcpaaGreatDoor
open Go.RowKit
attribute [local irreducible] rsd subN invV invB
set_option maxHeartbeats 4000000 in
set_option maxRecDepth 100000 in
theorem minv_is (a p v : Nat) (ok : Bool) (ha : a < 4294967296) (hp : p < 4294967296) (hi : IsInv a p v ok) (w : World) :
  Calls Tryz.prog 67 #[.int .u32 (a : Int), .int .u32 (p : Int)] w fun e w' => e = .returned (.tuple #[.int .u32 (v : Int), .bool ok]) ∧ Below w.heap.size w w' := by
 have R := Lib.hid (residue_any a p (by omega) hp w)
 have hac : (a : Int) % 18446744073709551616 = (a : Int) := by omega
 by_cases h0 : p = 0
 ·subst h0
  obtain ⟨rfl, rfl⟩ := hi.uniq (show IsInv a 0 0 false from .inr ⟨rfl, rfl, .inl rfl⟩)
  rw [rsd_zero] at R
  go_enter Tryz.func67, Tryz.ntmps67
  go_wp2_with fail
  with_reducible refine Calls.mono R.out ?_
  rintro e w1 ⟨rfl, rfl⟩
  go_wp2_with fail
  go_loopw [6, 7, 8, 9] (fun gv xv dv yv wr => gv = .int .u32 0 ∧ xv = .int .u32 0 ∧ dv = .int .u32 0 ∧ yv = .int .u32 1 ∧ wr = w1) (fun _ _ _ _ _ => 0)
  case atStart => exact ⟨rfl, rfl, rfl, rfl, rfl⟩
  case round =>
   obtain ⟨rfl, rfl, rfl, rfl, rfl⟩ := hrel
   go_wp2_with fail
   exact bodyPost_ret (v := .tuple #[.int .u32 ((0 : Nat) : Int), .bool false]) (by simp [results, Tryz.results67, go_sem]) rfl ⟨rfl, Below.refl _ _⟩
 ·have hS := EucI.start (a := a) h0
  have hrl := rsd_lt32 a hp
  generalize rsd a p = r at *
  replace hS := Lib.hid hS
  go_enter Tryz.func67, Tryz.ntmps67
  go_wp2_with fail
  with_reducible refine Calls.mono R.out ?_
  rintro e w1 ⟨rfl, rfl⟩
  go_wp2_with fail
  go_loopw [6, 7, 8, 9] (fun gv xv dv yv wr => ∃ g x d y : Nat, gv = .int .u32 (g : Int) ∧ xv = .int .u32 (x : Int) ∧ dv = .int .u32 (d : Int) ∧ yv = .int .u32 (y : Int) ∧ EucI a p g d x y ∧ y < 4294967296 ∧ Below w1.heap.size w1 wr) (fun _ _ dv _ _ => (intOf dv).toNat)
  case atStart => exact ⟨p, 0, r, 1, rfl, rfl, rfl, rfl, hS.out, by omega, Below.refl _ _⟩
  case round =>
   obtain ⟨g, x, d, y, rfl, rfl, rfl, rfl, hE, hy, hbl⟩ := hrel
   clear hS R hac
   rcases Nat.eq_zero_or_pos d with rfl | hd
   ·by_cases h1 : g = 1
    ·subst h1
     obtain ⟨rfl, rfl⟩ := hi.uniq (hE.ok h0 rfl)
     clear hi
     go_wp2_with fail
     exact bodyPost_ret (v := .tuple #[.int .u32 ((v : Nat) : Int), .bool true]) (by simp [results, Tryz.results67, go_sem]) rfl ⟨rfl, hbl⟩
    ·obtain ⟨rfl, rfl⟩ := hi.uniq (hE.no h1)
     clear hi
     have k1 : ((g : Int) != 1) = true := by simp; omega
     go_wp2_with fail
     exact bodyPost_ret (v := .tuple #[.int .u32 ((0 : Nat) : Int), .bool false]) (by simp [results, Tryz.results67, go_sem]) rfl ⟨rfl, hbl⟩
   ·have hN := hE.step h0 (by omega)
    have hgp := hE.gp
    have hxl := hE.xl
    have hdl : d < p := by rcases hE.dl with k | k <;> omega
    have hql : g / d < 4294967296 := Nat.lt_of_le_of_lt (Nat.div_le_self _ _) (by omega)
    have M := Lib.hid (mmul_any (g / d) y p hql hy hp)
    have S := Lib.hid (msub_any x (rsd (g / d * y) p) p (by omega) (rsd_lt32 _ hp) hp)
    have hsl := subN_lt32 x (rsd (g / d * y) p) hp
    have hrm : g % d < d := Nat.mod_lt _ hd
    have e1 : (g : Int) / (d : Int) = ((g / d : Nat) : Int) := by push_cast; rfl
    have e2 : (g : Int) % (d : Int) = ((g % d : Nat) : Int) := by push_cast; rfl
    have e3 : ((d : Int) == 0) = false := by simp; omega
    have e4 : ((d : Int) != 0) = true := by simp; omega
    have e5 : (d : Int) ≠ 0 := by omega
    generalize subN x (rsd (g / d * y) p) p = z at *
    generalize rsd (g / d * y) p = m at *
    generalize g / d = q at *
    generalize g % d = r2 at *
    have e6 : (q : Int) % 4294967296 = (q : Int) := by omega
    have e7 : (r2 : Int) % 4294967296 = (r2 : Int) := by omega
    replace hN := Lib.hid hN
    clear hE hi hgp hxl hdl
    go_upto_region 5 with fail
    go_region
    have hbd := hbl.drew
    generalize wr.drew = wd at hbd ⊢
    go_wp2_with fail
    with_reducible refine Calls.mono (M.out _) ?_
    rintro e w2 ⟨rfl, rfl⟩
    go_wp2_with fail
    with_reducible refine Calls.mono (S.out _) ?_
    rintro e w3 ⟨rfl, rfl⟩
    go_wp2_with fail
    go_roundw
    case rel => exact ⟨d, y, r2, z, rfl, rfl, rfl, rfl, hN.out, hsl, hbd⟩
    case measure => simp [intOf]; omega
theorem minv_any (a p : Nat) (ha : a < 4294967296) (hp : p < 4294967296) (w : World) :
  Calls Tryz.prog 67 #[.int .u32 (a : Int), .int .u32 (p : Int)] w fun e w' => e = .returned (.tuple #[.int .u32 ((invV a p : Nat) : Int), .bool (invB a p)]) ∧ Below w.heap.size w w' := minv_is a p _ _ ha hp (inv_is a p) w
end Go.Proofs.YtloipmieaefcpaaGreatDoor
namespace Go.Proofs.YtloipmieaefcpaaGreatDoor
open Go.RowKit
attribute [local irreducible] lo hs sm s64 c64 d64 b64 mh ml pd pc qd qc val hiB str cmpI srD lz nb isq zl zh zs rsd subN invV invB
set_option maxHeartbeats 4000000 in
set_option maxRecDepth 100000 in
theorem ofint_w (z y q r p k : Int) (b c : Bool) (HO : ∀ w, Calls Tryz.prog 11 #[.int .i64 p] w fun xe w' => xe = .returned (intV y) ∧ Below w.heap.size w w') (HD : ∀ w, Calls Tryz.prog 36 #[intV z, intV y] w fun xe w' => xe = .returned (.tuple #[intV q, intV r, .bool b]) ∧ Below w.heap.size w w') (HI : ∀ w, Calls Tryz.prog 17 #[intV r] w fun xe w' => xe = .returned (.tuple #[.int .i64 k, .bool c]) ∧ Below w.heap.size w w') (hw1 : IntKind.i64.wrap p = p) (hw2 : IntKind.u32.wrap k = k) (w : World) :
  Calls Tryz.prog 68 #[intV z, .int .u32 p] w fun xe w' => xe = .returned (.int .u32 k) ∧ Below w.heap.size w w' := by
 have hL0 : GL w w [] := GL.start w
 replace HO := Lib.hid HO
 replace HD := Lib.hid HD
 replace HI := Lib.hid HI
 replace hL0 := (hL0.new rfl [.int .u64 ((zl z : Nat) : Int), .string (zh z), .bool (zs z)] 28)
 generalize hweq : (w.alloc (.cells #[.int .u64 ((zl z : Nat) : Int), .string (zh z), .bool (zs z)] 28)) = x1 at hL0
 go_enter Tryz.func68, Tryz.ntmps68
 go_upto_region 1 with fail
 clear hweq
 refine region_gh (by kernel_rfl) (by kernel_rfl) ?_
 refine lex_seg (gl := []) 9 (by kernel_rfl) ?_
 intro α iα F hF1 hF2
 have hq := GL.seg hF1 hL0
 simp only [fcC, cellsC, and_true, Nat.zero_add, Nat.reduceAdd] at hq
 simp only [List.take_succ_cons, List.take_zero, List.drop_succ_cons, List.drop_zero, List.take_nil, List.drop_nil]
 repeat (go_big_quiet_step (first | fail | (go_at_call 11; with_reducible exact seg_call hF2 HO.out _) | (go_at_call 36; with_reducible exact seg_call hF2 HD.out _)))
 refine wpQuiet_nil ?_
 clear hq hF1 hF2 iα F α
 refine lex_new [.int .u64 0, .string ⟨#[]⟩, .bool false] 5 28 28 rfl rfl (of_decide_eq_true (by kernel_rfl)) (by kernel_rfl) rfl new_int ?_
 simp only [Act.put, List.setIfInBounds_toArray, List.set_cons_succ, List.set_cons_zero]
 refine lex_new [.int .u64 0, .string ⟨#[]⟩, .bool false] 6 28 28 rfl rfl (of_decide_eq_true (by kernel_rfl)) (by kernel_rfl) rfl new_int ?_
 simp only [Act.put, List.setIfInBounds_toArray, List.set_cons_succ, List.set_cons_zero]
 refine lex_put [.int .u64 ((zl q : Nat) : Int), .string (zh q), .bool (zs q)] [.int .u64 0, .string ⟨#[]⟩, .bool false] 5 28 (.tmp 16) rfl (by kernel_rfl) (by simp [toG, upd]) rfl (fun w k h => put_int _ _ _ _ _ _ w k h) ?_
 simp only [Act.put]
 refine lex_put [.int .u64 ((zl r : Nat) : Int), .string (zh r), .bool (zs r)] [.int .u64 0, .string ⟨#[]⟩, .bool false] 6 28 (.tmp 17) rfl (by kernel_rfl) (by simp [toG, upd]) rfl (fun w k h => put_int _ _ _ _ _ _ w k h) ?_
 simp only [Act.put]
 refine lex_seg (gl := [(6, [.int .u64 ((zl r : Nat) : Int), .string (zh r), .bool (zs r)], true), (5, [.int .u64 ((zl q : Nat) : Int), .string (zh q), .bool (zs q)], true), (6, [.int .u64 0, .string ⟨#[]⟩, .bool false], false), (5, [.int .u64 0, .string ⟨#[]⟩, .bool false], false)]) 1 (by kernel_rfl) ?_
 intro α iα F hF1 hF2
 have hq := GL.seg hF1 hL0
 simp only [fcC, cellsC, and_true, Nat.zero_add, Nat.reduceAdd] at hq
 simp only [List.take_succ_cons, List.take_zero, List.drop_succ_cons, List.drop_zero, List.take_nil, List.drop_nil]
 repeat (go_big_quiet_step (first | fail | (go_at_call 11; with_reducible exact seg_call hF2 HO.out _) | (go_at_call 36; with_reducible exact seg_call hF2 HD.out _)))
 refine wpQuiet_nil ?_
 clear hq hF1 hF2 iα F α
 refine lexG_nil ?_
 intro κ x2 hS
 replace hL0 := hL0.ghs hS [(6, [.int .u64 ((zl r : Nat) : Int), .string (zh r), .bool (zs r)]), (5, [.int .u64 ((zl q : Nat) : Int), .string (zh q), .bool (zs q)])] (by simp) (by intro p hp; simp only [List.mem_cons, List.not_mem_nil, or_false] at hp; rcases hp with rfl | rfl <;> exact ⟨_, by simp only [toG, upd]; rfl⟩)
 simp only [List.map_cons, List.map_nil, List.cons_append, List.nil_append] at hL0
 simp only [over_toG, over_nil, Act.put, List.setIfInBounds_toArray, List.set_cons_succ, List.set_cons_zero]
 clear hS
 generalize κ 6 = k2_6 at *
 generalize κ 5 = k2_5 at *
 have hN0 := cells_of _ 0 [] rfl (hL0.get _ _ List.mem_cons_self)
 simp only [cellsF, and_true, Nat.zero_add, Nat.reduceAdd] at hN0
 go_wp2_with fail
 clear hN0
 with_reducible refine Calls.mono (HI.out _) ?_
 rintro e x3 ⟨rfl, hb⟩
 replace hL0 := hL0.call hb
 clear hb
 go_wp2_with fail
 exact bodyPost_ret (v := .int .u32 k) (by simp [results, Tryz.results68, go_sem]) rfl ⟨rfl, hL0.bl⟩
set_option maxHeartbeats 4000000 in
set_option maxRecDepth 100000 in
theorem offrac_no (n y p r v : Int) (e d : Nat) (HD : ∀ w, Calls Tryz.prog 18 #[frV n e] w fun xe w' => xe = .returned (natV d) ∧ Below w.heap.size w w') (HF : ∀ w, Calls Tryz.prog 31 #[.bool false, natV d] w fun xe w' => xe = .returned (intV y) ∧ Below w.heap.size w w') (HO : ∀ w, Calls Tryz.prog 68 #[intV y, .int .u32 p] w fun xe w' => xe = .returned (.int .u32 r) ∧ Below w.heap.size w w') (HI : ∀ w, Calls Tryz.prog 67 #[.int .u32 r, .int .u32 p] w fun xe w' => xe = .returned (.tuple #[.int .u32 v, .bool false]) ∧ Below w.heap.size w w') (w : World) :
  Calls Tryz.prog 40 #[frV n e, .int .u32 p] w fun xe w' => xe = .returned (.tuple #[.int .u32 0, .bool false]) ∧ Below w.heap.size w w' := by
 have hL0 : GL w w [] := GL.start w
 replace HD := Lib.hid HD
 replace HF := Lib.hid HF
 replace HO := Lib.hid HO
 replace HI := Lib.hid HI
 replace hL0 := (hL0.new rfl [.int .u64 ((zl n : Nat) : Int), .string (zh n), .bool (zs n), .int .u64 ((lo e : Nat) : Int), .string (hs e)] 30)
 generalize hweq : (w.alloc (.cells #[.int .u64 ((zl n : Nat) : Int), .string (zh n), .bool (zs n), .int .u64 ((lo e : Nat) : Int), .string (hs e)] 30)) = x1 at hL0
 go_enter Tryz.func40, Tryz.ntmps40
 have hN0 := cells_of _ 0 [] rfl (hL0.get _ _ List.mem_cons_self)
 simp only [cellsF, and_true, Nat.zero_add, Nat.reduceAdd] at hN0
 go_wp2_with fail
 clear hN0
 with_reducible refine Calls.mono (HD.out _) ?_
 rintro e x2 ⟨rfl, hb⟩
 replace hL0 := hL0.call hb
 clear hb hweq
 go_wp2_with fail
 with_reducible refine Calls.mono (HF.out _) ?_
 rintro e x3 ⟨rfl, hb⟩
 replace hL0 := hL0.call hb
 clear hb
 go_wp2_with fail
 with_reducible refine Calls.mono (HO.out _) ?_
 rintro e x4 ⟨rfl, hb⟩
 replace hL0 := hL0.call hb
 clear hb
 go_wp2_with fail
 with_reducible refine Calls.mono (HI.out _) ?_
 rintro e x5 ⟨rfl, hb⟩
 replace hL0 := hL0.call hb
 clear hb
 go_wp2_with fail
 exact bodyPost_ret (v := .tuple #[.int .u32 0, .bool false]) (by simp [results, Tryz.results40, go_sem]) rfl ⟨rfl, hL0.bl⟩
set_option maxHeartbeats 4000000 in
set_option maxRecDepth 100000 in
theorem offrac_yes (n y p r v s t : Int) (e d : Nat) (HD : ∀ w, Calls Tryz.prog 18 #[frV n e] w fun xe w' => xe = .returned (natV d) ∧ Below w.heap.size w w') (HF : ∀ w, Calls Tryz.prog 31 #[.bool false, natV d] w fun xe w' => xe = .returned (intV y) ∧ Below w.heap.size w w') (HO : ∀ w, Calls Tryz.prog 68 #[intV y, .int .u32 p] w fun xe w' => xe = .returned (.int .u32 r) ∧ Below w.heap.size w w') (HI : ∀ w, Calls Tryz.prog 67 #[.int .u32 r, .int .u32 p] w fun xe w' => xe = .returned (.tuple #[.int .u32 v, .bool true]) ∧ Below w.heap.size w w') (HN : ∀ w, Calls Tryz.prog 16 #[frV n e] w fun xe w' => xe = .returned (intV n) ∧ Below w.heap.size w w') (HP : ∀ w, Calls Tryz.prog 68 #[intV n, .int .u32 p] w fun xe w' => xe = .returned (.int .u32 s) ∧ Below w.heap.size w w') (HM : ∀ w, Calls Tryz.prog 69 #[.int .u32 s, .int .u32 v, .int .u32 p] w fun xe w' => xe = .returned (.int .u32 t) ∧ Below w.heap.size w w') (w : World) :
  Calls Tryz.prog 40 #[frV n e, .int .u32 p] w fun xe w' => xe = .returned (.tuple #[.int .u32 t, .bool true]) ∧ Below w.heap.size w w' := by
 have hL0 : GL w w [] := GL.start w
 replace HD := Lib.hid HD
 replace HF := Lib.hid HF
 replace HO := Lib.hid HO
 replace HI := Lib.hid HI
 replace HN := Lib.hid HN
 replace HP := Lib.hid HP
 replace HM := Lib.hid HM
 replace hL0 := (hL0.new rfl [.int .u64 ((zl n : Nat) : Int), .string (zh n), .bool (zs n), .int .u64 ((lo e : Nat) : Int), .string (hs e)] 30)
 generalize hweq : (w.alloc (.cells #[.int .u64 ((zl n : Nat) : Int), .string (zh n), .bool (zs n), .int .u64 ((lo e : Nat) : Int), .string (hs e)] 30)) = x1 at hL0
 go_enter Tryz.func40, Tryz.ntmps40
 have hN0 := cells_of _ 0 [] rfl (hL0.get _ _ List.mem_cons_self)
 simp only [cellsF, and_true, Nat.zero_add, Nat.reduceAdd] at hN0
 go_wp2_with fail
 clear hN0
 with_reducible refine Calls.mono (HD.out _) ?_
 rintro e x2 ⟨rfl, hb⟩
 replace hL0 := hL0.call hb
 clear hb hweq
 go_wp2_with fail
 with_reducible refine Calls.mono (HF.out _) ?_
 rintro e x3 ⟨rfl, hb⟩
 replace hL0 := hL0.call hb
 clear hb
 go_wp2_with fail
 with_reducible refine Calls.mono (HO.out _) ?_
 rintro e x4 ⟨rfl, hb⟩
 replace hL0 := hL0.call hb
 clear hb
 go_wp2_with fail
 with_reducible refine Calls.mono (HI.out _) ?_
 rintro e x5 ⟨rfl, hb⟩
 replace hL0 := hL0.call hb
 clear hb
 have hN0 := cells_of _ 0 [] rfl (hL0.get _ _ List.mem_cons_self)
 simp only [cellsF, and_true, Nat.zero_add, Nat.reduceAdd] at hN0
 go_wp2_with fail
 clear hN0
 with_reducible refine Calls.mono (HN.out _) ?_
 rintro e x6 ⟨rfl, hb⟩
 replace hL0 := hL0.call hb
 clear hb
 go_wp2_with fail
 with_reducible refine Calls.mono (HP.out _) ?_
 rintro e x7 ⟨rfl, hb⟩
 replace hL0 := hL0.call hb
 clear hb
 go_wp2_with fail
 with_reducible refine Calls.mono (HM.out _) ?_
 rintro e x8 ⟨rfl, hb⟩
 replace hL0 := hL0.call hb
 clear hb
 go_wp2_with fail
 exact bodyPost_ret (v := .tuple #[.int .u32 t, .bool true]) (by simp [results, Tryz.results40, go_sem]) rfl ⟨rfl, hL0.bl⟩
end Go.Proofs.YtloipmieaefcpaaGreatDoor
namespace Go.Proofs.YtloipmieaefcpaaGreatDoor
open Go.RowKit
/-- The residue of an integer modulo p; it is 0 modulo 0. -/
def rsz (z : Int) (p : Nat) : Nat := if p = 0 then 0 else (z % (p : Int)).toNat
theorem rsz_lt32 (z : Int) {p : Nat} (hp : p < 4294967296) : rsz z p < 4294967296 := by
 unfold rsz; split
 ·omega
 ·have := Int.emod_lt_of_pos z (show (0 : Int) < (p : Int) by omega); omega
theorem rsz_nat (n p : Nat) : rsz (n : Int) p = rsd n p := by
 unfold rsz rsd; split
 ·rfl
 ·rw [show (n : Int) % (p : Int) = ((n % p : Nat) : Int) by push_cast; rfl, Int.toNat_natCast]
theorem rsz_cast {z : Int} {p : Nat} (h : p ≠ 0) : ((rsz z p : Nat) : Int) = z % (p : Int) := by
 unfold rsz; rw [if_neg h]; exact Int.toNat_of_nonneg (Int.emod_nonneg z (by omega))
/-- Whether a fraction has a residue modulo p. -/
noncomputable def frB (q : Rat) (p : Nat) : Bool := invB q.den p
/-- The residue of a fraction modulo p; it is 0 if there is none. -/
noncomputable def frR (q : Rat) (p : Nat) : Nat := if frB q p = true then rsd (rsz q.num p * invV q.den p) p else 0
theorem frR_lt32 (q : Rat) {p : Nat} (hp : p < 4294967296) : frR q p < 4294967296 := by
 unfold frR; split
 ·exact rsd_lt32 _ hp
 ·omega
theorem inv_rsd (a p : Nat) : invV (rsd a p) p = invV a p ∧ invB (rsd a p) p = invB a p := by
 by_cases h0 : p = 0
 ·subst h0
  have h1 : IsInv (rsd a 0) 0 0 false := .inr ⟨rfl, rfl, .inl rfl⟩
  have h2 : IsInv a 0 0 false := .inr ⟨rfl, rfl, .inl rfl⟩
  rw [(inv_eq h1).1, (inv_eq h1).2, (inv_eq h2).1, (inv_eq h2).2]; exact ⟨rfl, rfl⟩
 ·refine inv_eq ?_
  have hm : ∀ v, rsd a p * v % p = a * v % p := fun v => by rw [rsd_pos h0, Nat.mod_mul_mod]
  have hg : Nat.gcd (rsd a p) p = Nat.gcd a p := by rw [rsd_pos h0, ← Nat.gcd_rec p a, Nat.gcd_comm]
  rcases inv_is a p with ⟨h, h1, h2⟩ | ⟨h, h1, h2⟩
  ·exact .inl ⟨h, h1, by rw [hm]; exact h2⟩
  ·exact .inr ⟨h, h1, by rw [hg]; exact h2⟩
theorem ofintM (z : Int) (p : Nat) (hz : dI z ≤ 1000000000) (hp : p < 4294967296) (w : World) :
  Calls Tryz.prog 68 #[intV z, .int .u32 (p : Int)] w fun x w' => x = .returned (.int .u32 ((rsz z p : Nat) : Int)) ∧ Below w.heap.size w w' := by
 have hO := fun w => ofI (p : Int) (by omega) (by omega) w
 have hw1 : IntKind.i64.wrap (p : Int) = (p : Int) := by simp [IntKind.wrap, IntKind.signed, IntKind.bits]; omega
 have hl := rsz_lt32 z hp
 have hw2 : IntKind.u32.wrap ((rsz z p : Nat) : Int) = ((rsz z p : Nat) : Int) := by simp [IntKind.wrap, IntKind.signed, IntKind.bits]; omega
 by_cases h0 : p = 0
 ·subst h0
  have e : rsz z 0 = 0 := rfl
  rw [e] at hw2 ⊢
  exact ofint_w z 0 0 0 0 0 false true hO (div0I z) (fun w => i64I 0 w) hw1 hw2 w
 ·have hn : 0 ≤ z % (p : Int) := Int.emod_nonneg z (by omega)
  have hl2 : z % (p : Int) < (p : Int) := Int.emod_lt_of_pos z (by omega)
  have hi : in64 (z % (p : Int)) = true := by unfold in64; rw [decide_eq_true_iff]; omega
  have hI := fun w => i64I (z % (p : Int)) w
  rw [hi, if_pos rfl, ← rsz_cast h0] at hI
  refine ofint_w z (p : Int) (z / (p : Int)) ((rsz z p : Nat) : Int) (p : Int) ((rsz z p : Nat) : Int) true true hO (fun w => ?_) hI hw1 hw2 w
  have := divI z (p : Int) (by omega) hz (Nat.le_trans (i64_dI (by omega) (by omega)) (by omega)) w
  rw [← rsz_cast h0] at this
  exact this
theorem offracM (q : Rat) (p k : Nat) (hq : Sz q k) (hk : k ≤ 1000000000) (hp : p < 4294967296) (w : World) :
  Calls Tryz.prog 40 #[fracV q, .int .u32 (p : Int)] w fun x w' => x = .returned (.tuple #[.int .u32 ((frR q p : Nat) : Int), .bool (frB q p)]) ∧ Below w.heap.size w w' := by
 have hD := fun w => denF q w
 have hF := fun w => fromI false q.den (q.den : Int) rfl w
 have hO := fun w => ofintM (q.den : Int) p (by rw [dI_nat]; exact Nat.le_trans hq.d hk) hp w
 rw [rsz_nat] at hO
 have hI := fun w => minv_any (rsd q.den p) p (rsd_lt32 _ hp) hp w
 rw [(inv_rsd q.den p).1, (inv_rsd q.den p).2] at hI
 by_cases hb : frB q p = true
 ·have hb2 : invB q.den p = true := hb
  rw [hb2] at hI
  have hR : frR q p = rsd (rsz q.num p * invV q.den p) p := by unfold frR; rw [if_pos hb]
  rw [hb, hR]
  exact offrac_yes q.num (q.den : Int) p ((rsd q.den p : Nat) : Int) ((invV q.den p : Nat) : Int) ((rsz q.num p : Nat) : Int) ((rsd (rsz q.num p * invV q.den p) p : Nat) : Int) (fe q) q.den hD hF hO hI (numF q) (fun w => ofintM q.num p (Nat.le_trans hq.n hk) hp w)
   (fun w => (mmul_any (rsz q.num p) (invV q.den p) p (rsz_lt32 _ hp) (inv_lt _ _ hp) hp w).mono fun e w' h => ⟨h.1, by rw [h.2]; exact Below.refl _ _⟩) w
 ·have hb2 : invB q.den p = false := by
   rcases hc : invB q.den p with _ | _
   ·rfl
   ·exact absurd hc hb
  rw [hb2] at hI
  have hR : frR q p = 0 := by unfold frR; rw [if_neg hb]
  have hb3 : frB q p = false := hb2
  rw [hb3, hR]
  exact offrac_no q.num (q.den : Int) p ((rsd q.den p : Nat) : Int) ((invV q.den p : Nat) : Int) (fe q) q.den hD hF hO hI w
end Go.Proofs.YtloipmieaefcpaaGreatDoor
namespace Go.Proofs.YtloipmieaefcpaaGreatDoor
open Go.RowKit
attribute [local irreducible] lo hs sm s64 c64 d64 b64 mh ml pd pc qd qc val hiB str cmpI srD lz nb isq zl zh zs
theorem dvd_cancelP {p t : Nat} {z : Int} (hg : Nat.gcd t p = 1) (h : (p : Int) ∣ z * (t : Int)) : (p : Int) ∣ z := by
 rw [Int.ofNat_dvd_left] at h ⊢
 rw [Int.natAbs_mul, Int.natAbs_natCast] at h
 exact Nat.Coprime.dvd_of_dvd_mul_right (Nat.Coprime.symm hg) h
theorem frS_spec {q : Rat} {p : Nat} (hp : p ≠ 0) (h : frB q p = true) : frR q p < p ∧ Nat.gcd q.den p = 1 ∧ (p : Int) ∣ (frR q p : Int) * (q.den : Int) - q.num := by
 have hg := invB_iff.1 (show invB q.den p = true from h)
 have hi := inv_is q.den p
 rw [show invB q.den p = true from h] at hi
 have e : frR q p = rsd (rsz q.num p * invV q.den p) p := by unfold frR; rw [if_pos h]
 refine ⟨by rw [e]; exact rsd_lt hp, hg.2, ?_⟩
 rcases hi with ⟨_, h1, h2⟩ | ⟨h1, _⟩
 ·rw [e, rsd_pos hp]
  have h3 : (((q.den * invV q.den p % p : Nat) : Nat) : Int) = ((1 % p : Nat) : Int) := by rw [h2]
  push_cast at h3 ⊢
  rw [rsz_cast hp]
  have h4 : (p : Int) ∣ (q.den : Int) * (invV q.den p : Int) - 1 := Int.dvd_of_emod_eq_zero (Int.emod_eq_emod_iff_emod_sub_eq_zero.1 h3)
  obtain ⟨k, hk⟩ := h4
  have e1 := Int.emod_add_mul_ediv q.num (p : Int)
  have e2 := Int.emod_add_mul_ediv (q.num % (p : Int) * (invV q.den p : Int)) (p : Int)
  generalize q.num % (p : Int) * (invV q.den p : Int) % (p : Int) = A at *
  generalize q.num % (p : Int) * (invV q.den p : Int) / (p : Int) = B at *
  generalize q.num % (p : Int) = C at *
  generalize q.num / (p : Int) = F at *
  generalize (invV q.den p : Int) = v at *
  generalize (q.den : Int) = d at *
  refine ⟨C * k - B * d - F, ?_⟩
  rw [← e1]
  have e3 : A = C * v - p * B := by omega
  rw [e3]
  grind
 ·cases h1
/-- The law's primes. -/
def prP (i : Nat) : Nat := [2, 3, 5, 7, 11, 101, 257, 10007, 65537, 1000003, 16777259, 2147483629, 2147483647].getD (i % 13) 0
theorem prP_lt (i : Nat) : prP i < 4294967296 ∧ prP i ≠ 0 := by
 have h : i % 13 < 13 := Nat.mod_lt _ (by omega)
 unfold prP
 generalize i % 13 = j at h
 obtain rfl | rfl | rfl | rfl | rfl | rfl | rfl | rfl | rfl | rfl | rfl | rfl | rfl : j = 0 ∨ j = 1 ∨ j = 2 ∨ j = 3 ∨ j = 4 ∨ j = 5 ∨ j = 6 ∨ j = 7 ∨ j = 8 ∨ j = 9 ∨ j = 10 ∨ j = 11 ∨ j = 12 := by omega
 all_goals exact ⟨by decide, by decide⟩
set_option maxHeartbeats 8000000 in
set_option maxRecDepth 100000 in
theorem mprP_any (i : Nat) (hi : i < 4294967296) (w : World) :
  Calls Tryz.prog 39 #[.int .u32 (i : Int)] w fun e w' => e = .returned (.int .u32 ((prP i : Nat) : Int)) ∧ Below w.heap.size w w' := by
 have h : i % 13 < 13 := Nat.mod_lt _ (by omega)
 have e0 : (i : Int) % 13 = ((i % 13 : Nat) : Int) := by push_cast; rfl
 have e1 : prP i = [2, 3, 5, 7, 11, 101, 257, 10007, 65537, 1000003, 16777259, 2147483629, 2147483647].getD (i % 13) 0 := rfl
 have hb : Below w.heap.size w (w.alloc (.cells #[.int .u32 2, .int .u32 3, .int .u32 5, .int .u32 7, .int .u32 11, .int .u32 101, .int .u32 257, .int .u32 10007, .int .u32 65537, .int .u32 1000003, .int .u32 16777259, .int .u32 2147483629, .int .u32 2147483647] 54)) := (Below.refl _ _).alloc (Nat.le_refl _) _
 generalize i % 13 = j at *
 obtain rfl | rfl | rfl | rfl | rfl | rfl | rfl | rfl | rfl | rfl | rfl | rfl | rfl : j = 0 ∨ j = 1 ∨ j = 2 ∨ j = 3 ∨ j = 4 ∨ j = 5 ∨ j = 6 ∨ j = 7 ∨ j = 8 ∨ j = 9 ∨ j = 10 ∨ j = 11 ∨ j = 12 := by omega
 all_goals (
  replace e1 := Lib.hid e1
  clear h
  go_enter Tryz.func39, Tryz.ntmps39
  go_wp2_with fail
  go_ret
  exact ⟨by rw [e1.out]; rfl, hb⟩)
noncomputable def prE (f : Rat) (i : Nat) : List (Int × Nat) := if frB f (prP i) = true then [(((frR f (prP i) : Nat) : Int), prP i)] else []
noncomputable def prL (f : Rat) (l : List Nat) : List (Int × Nat) := l.flatMap (prE f)
theorem prL_snoc (f : Rat) (l : List Nat) (i : Nat) : prL f (l ++ [i]) = prL f l ++ prE f i := by unfold prL; rw [List.flatMap_append]; simp
theorem prE_len (f : Rat) (i : Nat) : (prE f i).length ≤ 1 := by unfold prE; split <;> simp
theorem prL_len (f : Rat) : ∀ l : List Nat, (prL f l).length ≤ l.length
 | [] => Nat.le_refl _
 | i :: l => by
  have h1 := prL_len f l
  have h2 := prE_len f i
  unfold prL at h1 ⊢
  rw [List.flatMap_cons, List.length_append, List.length_cons]; omega
theorem prL_mem {f : Rat} {l : List Nat} {c : Int × Nat} (h : c ∈ prL f l) : ∃ i, frB f (prP i) = true ∧ c = (((frR f (prP i) : Nat) : Int), prP i) := by
 unfold prL at h
 obtain ⟨i, -, hi⟩ := List.mem_flatMap.1 h
 unfold prE at hi
 by_cases hb : frB f (prP i) = true
 ·rw [if_pos hb] at hi
  exact ⟨i, hb, List.mem_singleton.1 hi⟩
 ·rw [if_neg hb] at hi; cases hi
theorem prL_cop {d : Nat} : ∀ {l : List (Int × Nat)}, (∀ c ∈ l, Nat.gcd d c.2 = 1) → Nat.gcd d (lcmL l) = 1
 | [], _ => Nat.gcd_one_right _
 | c :: l, h => by
  have h1 : Nat.Coprime d c.2 := h c List.mem_cons_self
  have h2 : Nat.Coprime d (lcmL l) := prL_cop fun e he => h e (List.mem_cons_of_mem _ he)
  exact Nat.Coprime.coprime_dvd_right (Nat.lcm_dvd (Nat.dvd_mul_right _ _) (Nat.dvd_mul_left _ _)) (Nat.Coprime.mul_right h1 h2)
theorem prL_key (f : Rat) (l : List Nat) : ∃ x : Int, Holds (prL f l) x ∧ fitsB f (x % (lcmL (prL f l) : Int)) (lcmL (prL f l)) = true := by
 have hsp : ∀ c ∈ prL f l, 0 < c.2 ∧ Nat.gcd f.den c.2 = 1 ∧ (c.2 : Int) ∣ c.1 * (f.den : Int) - f.num := fun c hc => by
  obtain ⟨i, hb, rfl⟩ := prL_mem hc
  obtain ⟨h1, h2, h3⟩ := frS_spec (prP_lt i).2 hb
  exact ⟨Nat.pos_of_ne_zero (prP_lt i).2, h2, h3⟩
 have hL := lcmL_pos fun c hc => (hsp c hc).1
 have hg := prL_cop fun c hc => (hsp c hc).2.1
 obtain ⟨b1, b2⟩ := xgcd_bez _ (f.den : Int) (lcmL (prL f l) : Int) (Nat.le_refl _)
 rw [b2, Int.natAbs_natCast, Int.natAbs_natCast, hg] at b1
 obtain ⟨L, eL⟩ : ∃ L, L = lcmL (prL f l) := ⟨_, rfl⟩
 have hdv : ∀ c ∈ prL f l, c.2 ∣ L := fun c hc => by rw [eL]; exact lcmL_dvd.1 (Nat.dvd_refl _) c hc
 rw [← eL] at b1 hL ⊢
 generalize (xgcd (f.den : Int) (L : Int)).2.1 = u at *
 generalize (xgcd (f.den : Int) (L : Int)).2.2 = v at *
 have hx : (L : Int) ∣ f.num - f.num * u * (f.den : Int) := ⟨f.num * v, by
  have : (f.den : Int) * u = 1 - (L : Int) * v := by omega
  have e : f.num - f.num * u * (f.den : Int) = f.num - f.num * ((f.den : Int) * u) := by grind
  rw [e, this]; grind⟩
 refine ⟨f.num * u, fun c hc => ?_, ?_⟩
 ·obtain ⟨h1, h2, h3⟩ := hsp c hc
  refine dvd_cancelP h2 ?_
  have k1 : (c.2 : Int) ∣ f.num - f.num * u * (f.den : Int) := Int.dvd_trans (Int.natCast_dvd_natCast.2 (hdv c hc)) hx
  have k2 := Int.dvd_add k1 h3
  have e : (f.num * u - c.1) * (f.den : Int) = -(f.num - f.num * u * (f.den : Int) + (c.1 * (f.den : Int) - f.num)) := by grind
  rw [e]; exact Int.dvd_neg.2 k2
 ·rw [fitsB_iff]
  refine ⟨hL, ?_⟩
  obtain ⟨-, -, k, hk⟩ := res_mod hL (f.num * u)
  have e : f.num - f.num * u % (L : Int) * (f.den : Int) = (f.num - f.num * u * (f.den : Int)) + (L : Int) * (k * (f.den : Int)) := by
   have : f.num * u % (L : Int) = f.num * u - (L : Int) * k := by omega
   rw [this]; grind
  rw [e]
  exact Int.dvd_add hx ⟨_, rfl⟩
attribute [local irreducible] prP prL prE frR frB
set_option maxRecDepth 100000 in
theorem ppr_any (x y : Int) (x1 : -9223372036854775808 ≤ x) (x2 : x < 9223372036854775808) (y1 : 0 ≤ y) (y2 : y < 4294967296) (ao : Option Addr) (n c : Nat) (ll : List Nat) (w : World) (hT : Tab w) (hw : Ws w (.slice ao n c) ll) :
  Calls Tryz.prog 9 #[.agg #[.int .i64 x, .int .u32 y], .slice ao n c] w fun xe w' => xe = .returned (.bool true) ∧ Below w.heap.size w w' := by
 have hlen := hw.len
 by_cases h8 : 8 < n
 ·exact ppr_big x y ao n c Tab Keeps.tab pworks_any (decide_eq_true (by omega)) (decide_eq_true h8) w hT
 have hlt := hw.lt
 have hq : 0 < n → ∃ a, ao = some a ∧ Wd w a ll := fun h => by
  rcases hw with ⟨a2, c2, h1, h2⟩ | ⟨a, c2, h1, h2⟩
  ·simp only [Value.slice.injEq] at h1; omega
  ·simp only [Value.slice.injEq] at h1; exact ⟨a, h1.1, h2⟩
 have HQ := fun w => qof_any x y x1 x2 y1 y2 w
 have sf : Sz (qmade x y.toNat) 1 := by
  unfold qmade
  have f1 := mk_num_le (n := x) (d := if y.toNat < 1 then 1 else y.toNat) (by split <;> omega)
  have f2 := mk_den_le (n := x) (d := if y.toNat < 1 then 1 else y.toNat) (by split <;> omega)
  have hd : (if y.toNat < 1 then 1 else y.toNat) ≤ 4294967296 := by split <;> omega
  exact ⟨digs_length_iff.2 (by rw [Nat.pow_one]; unfold Bs; omega), digs_length_iff.2 (by rw [Nat.pow_one]; unfold Bs; omega)⟩
 generalize qmade x y.toNat = f at *
 have hs : ∀ c ∈ prL f ll, dI c.1 ≤ 1 ∧ (digs c.2).length ≤ 1 := fun c hc => by
  obtain ⟨i, hb, rfl⟩ := prL_mem hc
  have h1 := frR_lt32 f (prP_lt i).1
  have h2 := (prP_lt i).1
  exact ⟨i64_dI (by show (-9223372036854775808 : Int) ≤ ((frR f (prP i) : Nat) : Int); omega) (by show ((frR f (prP i) : Nat) : Int) < 9223372036854775808; omega), digs_length_iff.2 (by rw [Nat.pow_one]; unfold Bs; show prP i < _; omega)⟩
 have hll := prL_len f ll
 have HC := fun v w hv => chinP (prL f ll) 1 (by omega) (by omega) hs v w hv
 obtain ⟨x0, k1, k2⟩ := prL_key f ll
 obtain ⟨c1, c2⟩ := ch_holds (fun c hc => by obtain ⟨i, hb, rfl⟩ := prL_mem hc; exact Nat.pos_of_ne_zero (prP_lt i).2) k1
 obtain ⟨z1, z2⟩ := chV_sz (prL f ll) 1 (by omega) (fun c hc => (hs c hc).2)
 rw [c1] at HC z1 z2
 rw [c2] at HC
 have HF := fun w => fitsP f (x0 % (lcmL (prL f ll) : Int)) (lcmL (prL f ll)) 20 (sf.mono (by omega)) (Nat.le_trans z1 (by omega)) (by omega) (Nat.le_trans z2 (by omega)) w
 rw [k2] at HF
 have HB := fun w => backP (x0 % (lcmL (prL f ll) : Int)) (lcmL (prL f ll)) (Nat.le_trans z1 (by omega)) (Nat.le_trans z2 (by omega)) w
 have HR := fun w => farP f (lcmL (prL f ll)) 1 sf (by omega) w
 have hpp : ∀ i, i < n → prP (ll.getD i 0) < 4294967296 ∧ 0 ≤ ((frR f (prP (ll.getD i 0)) : Nat) : Int) ∧ ((frR f (prP (ll.getD i 0)) : Nat) : Int) < 4294967296 := fun i _ => ⟨(prP_lt _).1, by omega, by have := frR_lt32 f (prP_lt (ll.getD i 0)).1; omega⟩
 have htk : ∀ i (h : i < n), prL f (ll.take (i + 1)) = prL f (ll.take i) ++ prE f (ll.getD i 0) := fun i h => by
  rw [List.take_succ_eq_append_getElem (by omega), prL_snoc, show ll.getD i 0 = ll[i]'(by omega) by simp [List.getD, show i < ll.length by omega]]
 have hs1 : ∀ i, i < n → frB f (prP (ll.getD i 0)) = true → prL f (ll.take (i + 1)) = prL f (ll.take i) ++ [(((frR f (prP (ll.getD i 0)) : Nat) : Int), prP (ll.getD i 0))] := fun i h hb => by rw [htk i h]; unfold prE; rw [if_pos hb]
 have hs0 : ∀ i, i < n → frB f (prP (ll.getD i 0)) = false → prL f (ll.take (i + 1)) = prL f (ll.take i) := fun i h hb => by rw [htk i h]; unfold prE; rw [if_neg (by rw [hb]; simp), List.append_nil]
 have hl3 : ∀ i, i < n → (prL f (ll.take i)).length ≤ 1000 := fun i h => by have := prL_len f (ll.take i); rw [List.length_take] at this; omega
 have HP : ∀ i (h : i < ll.length) (w : World), Calls Tryz.prog 39 #[.int .u32 ((ll[i]'h : Nat) : Int)] w fun xe w' => xe = .returned (.int .u32 ((prP (ll.getD i 0) : Nat) : Int)) ∧ Below w.heap.size w w' := fun i h w => by
  rw [show ll.getD i 0 = ll[i]'h by simp [List.getD, h]]
  exact mprP_any _ (hlt _ (List.getElem_mem h)) w
 have HO := fun i (h : i < n) w => offracM f (prP (ll.getD i 0)) 1 sf (by omega) (prP_lt _).1 w
 have hqn : prL f (ll.take n) = prL f ll := by rw [List.take_of_length_le (by omega)]
 have HC2 := fun v w (hv : SlR w v (prL f (ll.take n))) => HC v w (by rw [hqn] at hv; exact hv)
 have hz0 : prL f (ll.take 0) = [] := by rw [List.take_zero]; unfold prL; rfl
 cases hf : farB f (lcmL (prL f ll)) with
 | true =>
  obtain ⟨b1, b2⟩ := back_find k2 hf
  rw [b1, b2] at HB
  rw [hf] at HR
  exact ppr_far x y ao n c ll (fun i => prL f (ll.take i)) (fun i => prP (ll.getD i 0)) (fun i => ((frR f (prP (ll.getD i 0)) : Nat) : Int)) (fun i => frB f (prP (ll.getD i 0))) f (x0 % (lcmL (prL f ll) : Int)) (lcmL (prL f ll)) hlen (by omega) hz0 hpp hs1 hs0 hl3 HP HO (fun x a1 a2 w => ofI x (by omega) (by omega) w) (fun m a w => of_val (m : Int) m rfl (Nat.lt_trans a (by decide)) w) HQ HC2 HF HB HR Tab Keeps.tab pworks_any w hT hq
 | false =>
  rw [hf] at HR
  exact ppr_not x y ao n c ll (fun i => prL f (ll.take i)) (fun i => prP (ll.getD i 0)) (fun i => ((frR f (prP (ll.getD i 0)) : Nat) : Int)) (fun i => frB f (prP (ll.getD i 0))) f (x0 % (lcmL (prL f ll) : Int)) (lcmL (prL f ll)) _ _ hlen (by omega) hz0 hpp hs1 hs0 hl3 HP HO (fun x a1 a2 w => ofI x (by omega) (by omega) w) (fun m a w => of_val (m : Int) m rfl (Nat.lt_trans a (by decide)) w) HQ HC2 HF HB HR Tab Keeps.tab pworks_any w hT hq
end Go.Proofs.YtloipmieaefcpaaGreatDoor
