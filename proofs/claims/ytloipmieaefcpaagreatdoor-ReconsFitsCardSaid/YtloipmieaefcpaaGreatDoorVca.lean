/-
  The law answers true at every input, and leaves its arguments as they were: a part of the proof. CONDITIONS: the package-level tables start as the program's text lays them (the card ties them).
-/
import Derived.Test.YtloipmieaefcpaaGreatDoorZad
import Derived.Test.YtloipmieaefcpaaGreatDoorRows
set_option linter.unusedVariables false
set_option linter.unusedSimpArgs false
namespace Go.Proofs.YtloipmieaefcpaaGreatDoor
open Go.RowKit
theorem u64_small (n : Nat) (h : n < Bs) (w : World) :
  Calls Tryz.prog 19 #[natV n] w fun e w' => e = .returned (.tuple #[.int .u64 ((n : Nat) : Int), .bool true]) ∧ Below w.heap.size w w' := by
 have hsm := sm_true.2 h
 have HL := Lib.hid (lo_small h)
 go_enter Tryz.func19, Tryz.ntmps19
 go_wp2_with fail
 refine (small_any n _).mono ?_
 rintro e w1 ⟨rfl, hb1⟩
 obtain ⟨hc1, hf1⟩ := bcell hb1
 go_wp2
 go_ret2
 exact ⟨congrArg (fun k : Nat => Ending.returned (.tuple #[.int .u64 (k : Int), .bool true])) HL.out, ((Below.refl _ _).alloc (Nat.le_refl _) _).trans (hb1.mono (by simp))⟩
theorem u64_big (n : Nat) (h : Bs ≤ n) (w : World) :
  Calls Tryz.prog 19 #[natV n] w fun e w' => e = .returned (.tuple #[.int .u64 0, .bool false]) ∧ Below w.heap.size w w' := by
 have hsm := sm_false.2 h
 go_enter Tryz.func19, Tryz.ntmps19
 go_wp2_with fail
 refine (small_any n _).mono ?_
 rintro e w1 ⟨rfl, hb1⟩
 obtain ⟨hc1, hf1⟩ := bcell hb1
 go_wp2
 go_ret2
 exact ⟨rfl, ((Below.refl _ _).alloc (Nat.le_refl _) _).trans (hb1.mono (by simp))⟩
end Go.Proofs.YtloipmieaefcpaaGreatDoor
namespace Go.Proofs.YtloipmieaefcpaaGreatDoor
open Go.RowKit
attribute [local irreducible] lo hs sm s64 c64 d64 b64 mh ml pd pc qd qc val hiB str cmpI srD lz nb isq
set_option maxHeartbeats 4000000 in
set_option maxRecDepth 100000 in
theorem i64_true_big (m : Nat) (h : Bs ≤ m) (w : World) :
  Calls Tryz.prog 17 #[zV true m] w fun e w' => e = .returned (.tuple #[.int .i64 0, .bool false]) ∧ Below w.heap.size w w' := by
 have hL0 : GL w w [] := GL.start w
 have HU := Lib.hid (fun w => u64_big m h w)
 clear h
 replace hL0 := (hL0.new rfl [.int .u64 ((lo m : Nat) : Int), .string (hs m), .bool true] 28)
 generalize hweq : (w.alloc (.cells #[.int .u64 ((lo m : Nat) : Int), .string (hs m), .bool true] 28)) = x1 at hL0
 go_enter Tryz.func17, Tryz.ntmps17
 have hA := hL0.fc
 simp only [fcG, cellsF, neK, and_true, ne_eq, Nat.zero_add, Nat.reduceAdd] at hA
 go_wp2_with fail
 clear hA
 with_reducible refine Calls.mono (HU.out _) ?_
 rintro e x2 ⟨rfl, hb⟩
 replace hL0 := hL0.call hb
 clear hb hweq
 have hA := hL0.fc
 simp only [fcG, cellsF, neK, and_true, ne_eq, Nat.zero_add, Nat.reduceAdd] at hA
 go_wp2_with fail
 exact bodyPost_ret (v := .tuple #[.int .i64 0, .bool false]) (by simp [results, Tryz.results17, go_sem, hA]) rfl ⟨rfl, hL0.bl⟩
set_option maxHeartbeats 4000000 in
set_option maxRecDepth 100000 in
theorem i64_true_out (m : Nat) (h : m < Bs) (h1 : (9223372036854775808 : Int) < (m : Int)) (w : World) :
  Calls Tryz.prog 17 #[zV true m] w fun e w' => e = .returned (.tuple #[.int .i64 0, .bool false]) ∧ Below w.heap.size w w' := by
 have hL0 : GL w w [] := GL.start w
 have HU := Lib.hid (fun w => u64_small m h w)
 have k1 : decide ((m : Int) ≤ 9223372036854775808) = false := decide_eq_false (by omega)
 clear h h1
 replace hL0 := (hL0.new rfl [.int .u64 ((lo m : Nat) : Int), .string (hs m), .bool true] 28)
 generalize hweq : (w.alloc (.cells #[.int .u64 ((lo m : Nat) : Int), .string (hs m), .bool true] 28)) = x1 at hL0
 go_enter Tryz.func17, Tryz.ntmps17
 have hA := hL0.fc
 simp only [fcG, cellsF, neK, and_true, ne_eq, Nat.zero_add, Nat.reduceAdd] at hA
 go_wp2_with fail
 clear hA
 with_reducible refine Calls.mono (HU.out _) ?_
 rintro e x2 ⟨rfl, hb⟩
 replace hL0 := hL0.call hb
 clear hb hweq
 have hA := hL0.fc
 simp only [fcG, cellsF, neK, and_true, ne_eq, Nat.zero_add, Nat.reduceAdd] at hA
 go_wp2_with fail
 exact bodyPost_ret (v := .tuple #[.int .i64 0, .bool false]) (by simp [results, Tryz.results17, go_sem, hA]) rfl ⟨rfl, hL0.bl⟩
set_option maxHeartbeats 4000000 in
set_option maxRecDepth 100000 in
theorem i64_false_big (m : Nat) (h : Bs ≤ m) (w : World) :
  Calls Tryz.prog 17 #[zV false m] w fun e w' => e = .returned (.tuple #[.int .i64 0, .bool false]) ∧ Below w.heap.size w w' := by
 have hL0 : GL w w [] := GL.start w
 have HU := Lib.hid (fun w => u64_big m h w)
 clear h
 replace hL0 := (hL0.new rfl [.int .u64 ((lo m : Nat) : Int), .string (hs m), .bool false] 28)
 generalize hweq : (w.alloc (.cells #[.int .u64 ((lo m : Nat) : Int), .string (hs m), .bool false] 28)) = x1 at hL0
 go_enter Tryz.func17, Tryz.ntmps17
 have hA := hL0.fc
 simp only [fcG, cellsF, neK, and_true, ne_eq, Nat.zero_add, Nat.reduceAdd] at hA
 go_wp2_with fail
 clear hA
 with_reducible refine Calls.mono (HU.out _) ?_
 rintro e x2 ⟨rfl, hb⟩
 replace hL0 := hL0.call hb
 clear hb hweq
 have hA := hL0.fc
 simp only [fcG, cellsF, neK, and_true, ne_eq, Nat.zero_add, Nat.reduceAdd] at hA
 go_wp2_with fail
 exact bodyPost_ret (v := .tuple #[.int .i64 0, .bool false]) (by simp [results, Tryz.results17, go_sem, hA]) rfl ⟨rfl, hL0.bl⟩
set_option maxHeartbeats 4000000 in
set_option maxRecDepth 100000 in
theorem i64_false_out (m : Nat) (h : m < Bs) (h1 : (9223372036854775807 : Int) < (m : Int)) (w : World) :
  Calls Tryz.prog 17 #[zV false m] w fun e w' => e = .returned (.tuple #[.int .i64 0, .bool false]) ∧ Below w.heap.size w w' := by
 have hL0 : GL w w [] := GL.start w
 have HU := Lib.hid (fun w => u64_small m h w)
 have k1 : decide ((m : Int) ≤ 9223372036854775807) = false := decide_eq_false (by omega)
 clear h h1
 replace hL0 := (hL0.new rfl [.int .u64 ((lo m : Nat) : Int), .string (hs m), .bool false] 28)
 generalize hweq : (w.alloc (.cells #[.int .u64 ((lo m : Nat) : Int), .string (hs m), .bool false] 28)) = x1 at hL0
 go_enter Tryz.func17, Tryz.ntmps17
 have hA := hL0.fc
 simp only [fcG, cellsF, neK, and_true, ne_eq, Nat.zero_add, Nat.reduceAdd] at hA
 go_wp2_with fail
 clear hA
 with_reducible refine Calls.mono (HU.out _) ?_
 rintro e x2 ⟨rfl, hb⟩
 replace hL0 := hL0.call hb
 clear hb hweq
 have hA := hL0.fc
 simp only [fcG, cellsF, neK, and_true, ne_eq, Nat.zero_add, Nat.reduceAdd] at hA
 go_wp2_with fail
 exact bodyPost_ret (v := .tuple #[.int .i64 0, .bool false]) (by simp [results, Tryz.results17, go_sem, hA]) rfl ⟨rfl, hL0.bl⟩
set_option maxHeartbeats 4000000 in
set_option maxRecDepth 100000 in
theorem i64_false_in (m : Nat) (h : m < Bs) (h1 : (m : Int) ≤ 9223372036854775807) (w : World) :
  Calls Tryz.prog 17 #[zV false m] w fun e w' => e = .returned (.tuple #[.int .i64 (m : Int), .bool true]) ∧ Below w.heap.size w w' := by
 have hL0 : GL w w [] := GL.start w
 have HU := Lib.hid (fun w => u64_small m h w)
 have k1 : decide ((m : Int) ≤ 9223372036854775807) = true := decide_eq_true h1
 have kw : IntKind.i64.wrap (m : Int) = (m : Int) := IntWalk.i64_in _ (by omega)
 clear h h1
 replace hL0 := (hL0.new rfl [.int .u64 ((lo m : Nat) : Int), .string (hs m), .bool false] 28)
 generalize hweq : (w.alloc (.cells #[.int .u64 ((lo m : Nat) : Int), .string (hs m), .bool false] 28)) = x1 at hL0
 go_enter Tryz.func17, Tryz.ntmps17
 have hA := hL0.fc
 simp only [fcG, cellsF, neK, and_true, ne_eq, Nat.zero_add, Nat.reduceAdd] at hA
 go_wp2_with fail
 clear hA
 with_reducible refine Calls.mono (HU.out _) ?_
 rintro e x2 ⟨rfl, hb⟩
 replace hL0 := hL0.call hb
 clear hb hweq
 have hA := hL0.fc
 simp only [fcG, cellsF, neK, and_true, ne_eq, Nat.zero_add, Nat.reduceAdd] at hA
 go_wp2_with fail
 exact bodyPost_ret (v := .tuple #[.int .i64 (m : Int), .bool true]) (by simp [results, Tryz.results17, go_sem, hA]) rfl ⟨rfl, hL0.bl⟩
set_option maxHeartbeats 4000000 in
set_option maxRecDepth 100000 in
theorem i64_true_in (m : Nat) (h : m < Bs) (h1 : (m : Int) ≤ 9223372036854775808) (h2 : m ≠ 0) (w : World) :
  Calls Tryz.prog 17 #[zV true m] w fun e w' => e = .returned (.tuple #[.int .i64 (-(m : Int)), .bool true]) ∧ Below w.heap.size w w' := by
 have hL0 : GL w w [] := GL.start w
 have HU := Lib.hid (fun w => u64_small m h w)
 have k1 : decide ((m : Int) ≤ 9223372036854775808) = true := decide_eq_true h1
 obtain ⟨q, hq⟩ : ∃ q : Nat, (q : Int) = 18446744073709551616 - m := ⟨(18446744073709551616 - (m : Int)).toNat, by omega⟩
 have kw : IntKind.u64.wrap (-(m : Int)) = (q : Int) := by rw [IntKind.wrap_u64]; omega
 have kw2 : IntKind.i64.wrap (q : Int) = -(m : Int) := by rw [IntKind.wrap_i64]; omega
 clear hq
 clear h h1 h2
 replace hL0 := (hL0.new rfl [.int .u64 ((lo m : Nat) : Int), .string (hs m), .bool true] 28)
 generalize hweq : (w.alloc (.cells #[.int .u64 ((lo m : Nat) : Int), .string (hs m), .bool true] 28)) = x1 at hL0
 go_enter Tryz.func17, Tryz.ntmps17
 have hA := hL0.fc
 simp only [fcG, cellsF, neK, and_true, ne_eq, Nat.zero_add, Nat.reduceAdd] at hA
 go_wp2_with fail
 clear hA
 with_reducible refine Calls.mono (HU.out _) ?_
 rintro e x2 ⟨rfl, hb⟩
 replace hL0 := hL0.call hb
 clear hb hweq
 have hA := hL0.fc
 simp only [fcG, cellsF, neK, and_true, ne_eq, Nat.zero_add, Nat.reduceAdd] at hA
 go_wp2_with fail
 exact bodyPost_ret (v := .tuple #[.int .i64 (-(m : Int)), .bool true]) (by simp [results, Tryz.results17, go_sem, hA]) rfl ⟨rfl, hL0.bl⟩
end Go.Proofs.YtloipmieaefcpaaGreatDoor
namespace Go.Proofs.YtloipmieaefcpaaGreatDoor
open Go.RowKit
attribute [local irreducible] lo hs
def in64 (z : Int) : Bool := decide (-9223372036854775808 ≤ z ∧ z ≤ 9223372036854775807)
theorem i64I (z : Int) (w : World) : Calls Tryz.prog 17 #[intV z] w fun e w' => e = .returned (.tuple #[.int .i64 (if in64 z then z else 0), .bool (in64 z)]) ∧ Below w.heap.size w w' := by
 have hB : (Bs : Int) = 18446744073709551616 := rfl
 rcases int_cases z with ⟨m, rfl, h⟩ | ⟨m, h0, rfl, h⟩ <;> rw [h]
 ·by_cases h1 : (m : Int) ≤ 9223372036854775807
  ·rw [show in64 (m : Int) = true from decide_eq_true ⟨by omega, h1⟩, if_pos rfl]
   exact i64_false_in m (by omega) h1 w
  ·rw [show in64 (m : Int) = false from decide_eq_false (fun h => h1 h.2), if_neg Bool.false_ne_true]
   by_cases h2 : m < Bs
   ·exact i64_false_out m h2 (by omega) w
   ·exact i64_false_big m (by omega) w
 ·by_cases h1 : (m : Int) ≤ 9223372036854775808
  ·rw [show in64 (-(m : Int)) = true from decide_eq_true ⟨by omega, by omega⟩, if_pos rfl]
   exact i64_true_in m (by omega) h1 h0 w
  ·rw [show in64 (-(m : Int)) = false from decide_eq_false (fun h => h1 (by omega)), if_neg Bool.false_ne_true]
   by_cases h2 : m < Bs
   ·exact i64_true_out m h2 (by omega) w
   ·exact i64_true_big m (by omega) w
end Go.Proofs.YtloipmieaefcpaaGreatDoor
namespace Go.Proofs.YtloipmieaefcpaaGreatDoor
open Go.RowKit
attribute [local irreducible] lo hs
end Go.Proofs.YtloipmieaefcpaaGreatDoor
namespace Go.Proofs.YtloipmieaefcpaaGreatDoor
open Go.RowKit
theorem cls_callK {α : Type} {F : α → World} {w0 : World} {K : World → Prop} (hK : Keeps K) (h1 : ∀ x, Below w0.heap.size w0 (F x)) (h2 : ∀ W, Below w0.heap.size w0 W → ∃ x, W = F x) (hk : K w0) {P : Program} {f : FuncId} {args : Array Value} {v : Value}
  (h : ∀ w, K w → Calls P f args w fun e w' => e = .returned v ∧ Below w.heap.size w w') (x : α) : Calls P f args (F x) fun e w'' => e = .returned v ∧ ∃ y, w'' = F y :=
 (h (F x) (hK _ _ (h1 x) hk)).mono fun _ _ ⟨he, hb⟩ => ⟨he, h2 _ ((h1 x).trans (hb.mono (h1 x).size))⟩
end Go.Proofs.YtloipmieaefcpaaGreatDoor
namespace Go.Proofs.YtloipmieaefcpaaGreatDoor
/-- What Euclid's algorithm finds is congruent; and coprime to m if it is in lowest terms. -/
theorem Euc.fits {m r0 r1 T0 T1 : Nat} {a s : Int} (h : Euc m a r0 r1 T0 T1 s) (hg : Nat.gcd r1 T1 = 1) : (m : Int) ∣ s * (r1 : Int) - a * (T1 : Int) ∧ Nat.gcd T1 m = 1 := by
 have hss : s * s = 1 := by rcases h.sgn with e | e <;> rw [e] <;> rfl
 constructor
 ·have e : s * (r1 : Int) - a * (T1 : Int) = s * ((r1 : Int) - a * (s * (T1 : Int))) := by
   have : s * ((r1 : Int) - a * (s * (T1 : Int))) = s * r1 - a * ((s * s) * T1) := by grind
   rw [this, hss, Int.one_mul]
  rw [e]
  exact Int.dvd_mul_of_dvd_right h.c1
 ·have h1 : ((Nat.gcd T1 m : Nat) : Int) ∣ (r1 : Int) := by
   have k1 : ((Nat.gcd T1 m : Nat) : Int) ∣ (T1 : Int) := Int.natCast_dvd_natCast.2 (Nat.gcd_dvd_left _ _)
   have k2 : ((Nat.gcd T1 m : Nat) : Int) ∣ (m : Int) := Int.natCast_dvd_natCast.2 (Nat.gcd_dvd_right _ _)
   have k3 := Int.dvd_trans k2 h.c1
   have k4 : ((Nat.gcd T1 m : Nat) : Int) ∣ a * (s * (T1 : Int)) := Int.dvd_mul_of_dvd_right (Int.dvd_mul_of_dvd_right k1)
   have := Int.dvd_add k3 k4
   rwa [Int.sub_add_cancel] at this
  have h2 : Nat.gcd T1 m ∣ r1 := Int.natCast_dvd_natCast.1 h1
  have := Nat.dvd_gcd h2 (Nat.gcd_dvd_left T1 m)
  rw [hg] at this
  exact Nat.dvd_one.1 this
end Go.Proofs.YtloipmieaefcpaaGreatDoor
namespace Go.Proofs.YtloipmieaefcpaaGreatDoor
open Go.RowKit
attribute [local irreducible] lo hs sm s64 c64 d64 b64 mh ml pd pc qd qc val hiB str cmpI srD lz nb isq zl zh zs fe fitsB farB backB backQ
set_option maxHeartbeats 4000000 in
set_option maxRecDepth 100000 in
theorem pfl_w (n a d m i j j0 x y p q z : Int) (k e : Nat) (f : Rat) (b1 b2 c1 c2 : Bool) (HF : ∀ w, Calls Tryz.prog 14 #[.int .i64 i, .int .i64 j] w fun xe w' => xe = .returned (fracV f) ∧ Below w.heap.size w w') (HN : ∀ w, Calls Tryz.prog 16 #[fracV f] w fun xe w' => xe = .returned (.agg #[.int .u64 ((zl f.num : Nat) : Int), .string (zh f.num), .bool (zs f.num)]) ∧ Below w.heap.size w w') (HI : ∀ w, Calls Tryz.prog 17 #[.agg #[.int .u64 ((zl f.num : Nat) : Int), .string (zh f.num), .bool (zs f.num)]] w fun xe w' => xe = .returned (.tuple #[.int .i64 p, .bool c1]) ∧ Below w.heap.size w w') (HD : ∀ w, Calls Tryz.prog 18 #[fracV f] w fun xe w' => xe = .returned (natV e) ∧ Below w.heap.size w w') (HU : ∀ w, Calls Tryz.prog 19 #[natV e] w fun xe w' => xe = .returned (.tuple #[.int .u64 q, .bool c2]) ∧ Below w.heap.size w w') (HO : ∀ w, Calls Tryz.prog 11 #[.int .i64 x] w fun xe w' => xe = .returned (intV z) ∧ Below w.heap.size w w') (HK : ∀ w, Calls Tryz.prog 12 #[.int .u64 y] w fun xe w' => xe = .returned (natV k) ∧ Below w.heap.size w w') (H1 : ∀ w, Calls Tryz.prog 20 #[fracV f, intV z, natV k] w fun xe w' => xe = .returned (.bool b1) ∧ Below w.heap.size w w') (H2 : ∀ w, Calls Tryz.prog 21 #[.int .i64 p, .int .i64 q, .int .i64 x, .int .i64 y] w fun xe w' => xe = .returned (.bool b1) ∧ Below w.heap.size w w') (H3 : ∀ w, Calls Tryz.prog 22 #[fracV f, natV k] w fun xe w' => xe = .returned (.bool b2) ∧ Below w.heap.size w w') (H4 : ∀ w, Calls Tryz.prog 23 #[.int .i64 p, .int .i64 q, .int .i64 y] w fun xe w' => xe = .returned (.bool b2) ∧ Below w.heap.size w w') (KT : World → Prop) (hKT : Keeps KT) (HW : ∀ w, KT w → Calls Tryz.prog 15 #[] w fun xe w' => xe = .returned (.bool true) ∧ Below w.heap.size w w') (n1 : -32768 ≤ n) (n2 : n ≤ 32767) (a1 : -32768 ≤ a) (a2 : a ≤ 32767) (d1 : 0 ≤ d) (d2 : d ≤ 65535) (m1 : 0 ≤ m) (m2 : m ≤ 65535) (hi : n.tmod 301 = i) (hj0 : d % 60 = j0) (hj : j0 + 1 = j) (j1 : 0 ≤ j0) (j2 : j0 < 60) (hx : a.tmod 301 = x) (hy : m % 401 = y) (y1 : 0 ≤ y) (y2 : y ≤ 400) (hy2 : y % 18446744073709551616 = y) (q1 : 0 ≤ q) (q2 : q ≤ 100) (w : World) (kKT : KT w) :
  Calls Tryz.prog 4 #[.int .i16 n, .int .i16 a, .int .u16 d, .int .u16 m] w fun xe w' => xe = .returned (.bool true) ∧ Below w.heap.size w w' := by
 have hL0 : GL w w [] := GL.start w
 replace HF := Lib.hid HF
 replace HN := Lib.hid HN
 replace HI := Lib.hid HI
 replace HD := Lib.hid HD
 replace HU := Lib.hid HU
 replace HO := Lib.hid HO
 replace HK := Lib.hid HK
 replace H1 := Lib.hid H1
 replace H2 := Lib.hid H2
 replace H3 := Lib.hid H3
 replace H4 := Lib.hid H4
 replace hKT := Lib.hid hKT
 replace HW := Lib.hid HW
 go_enter Tryz.func4, Tryz.ntmps4
 go_wp2_with fail
 with_reducible refine Calls.mono (HF.out _) ?_
 rintro e x1 ⟨rfl, hb⟩
 replace hL0 := hL0.call hb
 clear hb
 replace hL0 := (hL0.new rfl [.int .u64 ((zl f.num : Nat) : Int), .string (zh f.num), .bool (zs f.num), .int .u64 ((lo (fe f) : Nat) : Int), .string (hs (fe f))] 30)
 generalize hweq : (x1.alloc (.cells #[.int .u64 ((zl f.num : Nat) : Int), .string (zh f.num), .bool (zs f.num), .int .u64 ((lo (fe f) : Nat) : Int), .string (hs (fe f))] 30)) = x2 at hL0
 have hN0 := cells_of _ 0 [] rfl (hL0.get _ _ List.mem_cons_self)
 simp only [cellsF, and_true, Nat.zero_add, Nat.reduceAdd] at hN0
 go_wp2_with fail
 clear hN0
 with_reducible refine Calls.mono (HN.out _) ?_
 rintro e x3 ⟨rfl, hb⟩
 replace hL0 := hL0.call hb
 clear hb hweq
 go_wp2_with fail
 with_reducible refine Calls.mono (HI.out _) ?_
 rintro e x4 ⟨rfl, hb⟩
 replace hL0 := hL0.call hb
 clear hb
 have hN0 := cells_of _ 0 [] rfl (hL0.get _ _ List.mem_cons_self)
 simp only [cellsF, and_true, Nat.zero_add, Nat.reduceAdd] at hN0
 go_wp2_with fail
 clear hN0
 with_reducible refine Calls.mono (HD.out _) ?_
 rintro e x5 ⟨rfl, hb⟩
 replace hL0 := hL0.call hb
 clear hb
 go_wp2_with fail
 with_reducible refine Calls.mono (HU.out _) ?_
 rintro e x6 ⟨rfl, hb⟩
 replace hL0 := hL0.call hb
 clear hb
 go_upto_region 5 with fail
 have kKT1 := hKT.out.at hL0.bl kKT
 obtain ⟨α, iα, F, hF1, hF2⟩ := cls x6
 have hq0 := cls_box hF1 hL0 _ _ List.mem_cons_self
 simp only [cellsC, and_true, Nat.zero_add, Nat.reduceAdd] at hq0
 refine region_qs 31 (C := fun w' => ∃ x, w' = F x) (by kernel_rfl) (by kernel_rfl) (cls_drew hF2) ?_
 simp only [List.take_succ_cons, List.take_zero, List.drop_succ_cons, List.drop_zero, List.take_nil, List.drop_nil]
 repeat (go_big_quiet_step (first | fail | (go_at_call 11; with_reducible exact cls_call hF1 hF2 HO.out _) | (go_at_call 12; with_reducible exact cls_call hF1 hF2 HK.out _) | (go_at_call 20; with_reducible exact cls_call hF1 hF2 H1.out _) | (go_at_call 21; with_reducible exact cls_call hF1 hF2 H2.out _) | (go_at_call 22; with_reducible exact cls_call hF1 hF2 H3.out _) | (go_at_call 23; with_reducible exact cls_call hF1 hF2 H4.out _) | (go_at_call 15; with_reducible exact cls_callK hKT.out hF1 hF2 kKT1 HW.out _)))
 refine wpQuiet_nil ?_
 rintro wq ⟨xq, rfl⟩
 replace hL0 := hL0.call (hF1 xq)
 clear  hq0 hF2
 generalize F xq = x7 at hL0 ⊢
 clear hF1 xq iα F α
 clear kKT1
 go_wp2_with fail
 exact bodyPost_ret (v := .bool true) (by simp [results, Tryz.results4, go_sem]) rfl ⟨rfl, hL0.bl⟩
end Go.Proofs.YtloipmieaefcpaaGreatDoor
namespace Go.Proofs.YtloipmieaefcpaaGreatDoor
open Go.RowKit
attribute [local irreducible] lo hs sm s64 c64 d64 b64 mh ml pd pc qd qc val hiB str cmpI srD lz nb isq zl zh zs
theorem w64 {x : Int} (h1 : -9223372036854775808 ≤ x) (h2 : x < 9223372036854775808) : wrap64 x = x := by unfold wrap64; omega
theorem tmod_twice (a m : Int) (hm : 0 < m) : (a.tmod m + m).tmod m = a % m := by
 have h0 := Int.tmod_lt_of_pos a hm
 have h1 : -m < a.tmod m := by
  have e := Int.natAbs_tmod a m
  have e2 := Nat.mod_lt a.natAbs (show 0 < m.natAbs by omega)
  omega
 rw [Int.tmod_eq_emod_of_nonneg (by omega), Int.add_emod_right, Int.tmod_def, Int.sub_mul_emod_self_left]
set_option maxHeartbeats 1000000 in
theorem rmod_any (a m : Int) (hm : 0 < m) (hm2 : m ≤ 100000) (h1 : -1000000000000 ≤ a) (h2 : a ≤ 1000000000000) (w : World) :
  Calls Tryz.prog 49 #[.int .i64 a, .int .i64 m] w fun e w' => e = .returned (.int .i64 (a % m)) ∧ Below w.heap.size w w' := by
 have hz : (m == 0) = false := beq_eq_false_iff_ne.2 (by omega)
 have hz2 : ¬ m = 0 := by omega
 have hw : (wrap64 (a.tmod m + m)).tmod m = a % m := by
  have h0 := Int.tmod_lt_of_pos a hm
  have h1 : -m < a.tmod m := by
   have e := Int.natAbs_tmod a m
   have e2 := Nat.mod_lt a.natAbs (show 0 < m.natAbs by omega)
   omega
  rw [w64 (by omega) (by omega)]; exact tmod_twice a m hm
 go_enter Tryz.func49, Tryz.ntmps49
 go_wp2_with fail
 exact bodyPost_ret (v := .int .i64 (a % m)) (by simp [results, Tryz.results49, go_sem, hw]) rfl ⟨rfl, Below.refl _ _⟩
def gcdR (a b : Nat) : Nat := if Nat.gcd a b = 0 then 1 else Nat.gcd a b
theorem gcdR_hit {a b d : Nat} (h1 : 1 < d) (ha : d ∣ a) (hb : d ∣ b) (hd : d ≤ max a b) (h : ∀ k, d < k → k ∣ a → k ∣ b → a = 0 ∧ b = 0) : gcdR a b = d := by
 have hg := Nat.dvd_gcd ha hb
 have hne : Nat.gcd a b ≠ 0 := fun e => by obtain ⟨rfl, rfl⟩ := Nat.gcd_eq_zero_iff.1 e; omega
 have hle := Nat.le_of_dvd (Nat.pos_of_ne_zero hne) hg
 unfold gcdR
 rw [if_neg hne]
 rcases Nat.lt_or_ge d (Nat.gcd a b) with h2 | h2
 ·obtain ⟨rfl, rfl⟩ := h _ h2 (Nat.gcd_dvd_left _ _) (Nat.gcd_dvd_right _ _)
  omega
 ·omega
theorem gcdR_miss {a b d : Nat} (h1 : d ≤ 1) (h : ∀ k, d < k → k ∣ a → k ∣ b → a = 0 ∧ b = 0) : gcdR a b = 1 := by
 unfold gcdR
 by_cases hne : Nat.gcd a b = 0
 ·rw [if_pos hne]
 ·rw [if_neg hne]
  rcases Nat.lt_or_ge 1 (Nat.gcd a b) with h2 | h2
  ·obtain ⟨rfl, rfl⟩ := h _ (show d < Nat.gcd a b by omega) (Nat.gcd_dvd_left _ _) (Nat.gcd_dvd_right _ _)
   simp at hne
  ·omega
set_option maxHeartbeats 4000000 in
theorem rgcd_any (a b : Nat) (ha : a ≤ 100000) (hb : b ≤ 100000) (w : World) :
  Calls Tryz.prog 42 #[.int .i64 (a : Int), .int .i64 (b : Int)] w fun e w' => e = .returned (.int .i64 ((gcdR a b : Nat) : Int)) ∧ Below w.heap.size w w' := by
 go_enter Tryz.func42, Tryz.ntmps42
 go_wp2_with fail
 go_loopw [5] (fun v wr => ∃ (d : Nat) (z : Int), v = .int .i64 z ∧ z = (d : Int) ∧ d ≤ max a b ∧ (∀ k, d < k → k ∣ a → k ∣ b → a = 0 ∧ b = 0) ∧ w = wr) (fun v _ => (intOf v).toNat)
 case atStart => exact ⟨max a b, _, rfl, by omega, Nat.le_refl _, fun k hk h1 h2 => by
  constructor
  ·rcases Nat.eq_zero_or_pos a with h | h
   ·exact h
   ·have := Nat.le_of_dvd h h1; omega
  ·rcases Nat.eq_zero_or_pos b with h | h
   ·exact h
   ·have := Nat.le_of_dvd h h2; omega, rfl⟩
 case round =>
  obtain ⟨d, z, rfl, rfl, hd, hk, rfl⟩ := hrel
  by_cases h1 : 1 < d
  ·have k1 : (1 : Int) < (d : Int) := by omega
   have kb : (d : Int) ≤ 100000 := by omega
   have k0 : ((d : Int) == 0) = false := beq_eq_false_iff_ne.2 (by omega)
   have k2 : ¬ (d : Int) = 0 := by omega
   have ta : (a : Int) % (d : Int) = ((a % d : Nat) : Int) := rfl
   have tb : (b : Int) % (d : Int) = ((b % d : Nat) : Int) := rfl
   by_cases ca : a % d = 0
   ·have ea : (((a % d : Nat) : Int) == 0) = true := by rw [ca]; rfl
    rw [← ta] at ea
    by_cases cb : b % d = 0
    ·have eb : (((b % d : Nat) : Int) == 0) = true := by rw [cb]; rfl
     rw [← tb] at eb
     have hR := Lib.hid (gcdR_hit h1 (Nat.dvd_of_mod_eq_zero ca) (Nat.dvd_of_mod_eq_zero cb) hd hk)
     clear hd hk h1 ta tb ca cb
     go_wp2_with fail
     exact bodyPost_ret (v := .int .i64 (d : Int)) (by simp [results, Tryz.results42, go_sem]) rfl ⟨by rw [hR.out], Below.refl _ _⟩
    ·have eb : (((b % d : Nat) : Int) == 0) = false := beq_eq_false_iff_ne.2 (by omega)
     rw [← tb] at eb
     have hk2 := Lib.hid (show ∀ k, d - 1 < k → k ∣ a → k ∣ b → a = 0 ∧ b = 0 from fun k g1 g2 g3 => by
      rcases Nat.lt_or_ge d k with g | g
      ·exact hk k g g2 g3
      ·obtain rfl : k = d := by omega
       exact absurd (Nat.mod_eq_zero_of_dvd g3) cb)
     replace hd := Lib.hid hd
     replace h1 := Lib.hid h1
     clear hk ta tb ca cb
     go_wp2_with fail
     go_roundw
     case rel => exact ⟨d - 1, _, by first | rfl | go_num, by have := h1.out; first | omega | (rw [w64 (by omega) (by omega)]; omega), by have := hd.out; omega, hk2.out, by first | rfl | trivial⟩
     case measure => have := h1.out; simp [intOf] <;> omega
   ·have ea : (((a % d : Nat) : Int) == 0) = false := beq_eq_false_iff_ne.2 (by omega)
    rw [← ta] at ea
    have hk2 := Lib.hid (show ∀ k, d - 1 < k → k ∣ a → k ∣ b → a = 0 ∧ b = 0 from fun k g1 g2 g3 => by
     rcases Nat.lt_or_ge d k with g | g
     ·exact hk k g g2 g3
     ·obtain rfl : k = d := by omega
      exact absurd (Nat.mod_eq_zero_of_dvd g2) ca)
    replace hd := Lib.hid hd
    replace h1 := Lib.hid h1
    clear hk ta tb ca
    go_wp2_with fail
    go_roundw
    case rel => exact ⟨d - 1, _, by first | rfl | go_num, by have := h1.out; first | omega | (rw [w64 (by omega) (by omega)]; omega), by have := hd.out; omega, hk2.out, by first | rfl | trivial⟩
    case measure => have := h1.out; simp [intOf] <;> omega
  ·have k1 : ¬ (1 : Int) < (d : Int) := by omega
   have hR := Lib.hid (gcdR_miss (by omega) hk)
   clear hd hk h1
   go_wp2_with fail
   exact bodyPost_ret (v := .int .i64 1) (by simp [results, Tryz.results42, go_sem]) rfl ⟨by rw [hR.out]; rfl, Below.refl _ _⟩
def rfB (n : Int) (d : Nat) (a : Int) (m : Nat) : Bool := decide (0 < m ∧ gcdR d m = 1 ∧ (n - a * (d : Int)) % (m : Int) = 0)
set_option maxHeartbeats 4000000 in
theorem rfits_any (n : Int) (d : Nat) (a : Int) (m : Nat) (hn : -100000 ≤ n ∧ n ≤ 100000) (hd : d ≤ 100000) (ha : -100000 ≤ a ∧ a ≤ 100000) (hm : m ≤ 100000) (w : World) :
  Calls Tryz.prog 21 #[.int .i64 n, .int .i64 (d : Int), .int .i64 a, .int .i64 (m : Int)] w fun e w' => e = .returned (.bool (rfB n d a m)) ∧ Below w.heap.size w w' := by
 by_cases hm0 : 0 < m
 ·have k0 : (0 : Int) < (m : Int) := by omega
  have HG := Lib.hid (fun w => rgcd_any d m hd hm w)
  by_cases hg : gcdR d m = 1
  ·have p1 : -10000000000 ≤ a * (d : Int) ∧ a * (d : Int) ≤ 10000000000 := by
    have e1 : a * (d : Int) ≤ 100000 * (d : Int) := Int.mul_le_mul_of_nonneg_right ha.2 (by omega)
    have e2 : -100000 * (d : Int) ≤ a * (d : Int) := Int.mul_le_mul_of_nonneg_right ha.1 (by omega)
    omega
   obtain ⟨s, hs⟩ : ∃ s, s = n - a * (d : Int) := ⟨_, rfl⟩
   have hw1 : wrap64 (a * (d : Int)) = a * (d : Int) := w64 (by omega) (by omega)
   have hw2 : wrap64 (n - a * (d : Int)) = s := by rw [hs]; exact w64 (by omega) (by omega)
   have HM := Lib.hid (fun w => rmod_any s (m : Int) k0 (by omega) (by omega) (by omega) w)
   have g1 : (((gcdR d m : Nat) : Int) == 1) = true := by rw [hg]; rfl
   have hR : rfB n d a m = (s % (m : Int) == 0) := by unfold rfB; rw [← hs]; rw [show (s % (m : Int) == 0) = decide (s % (m : Int) = 0) from rfl]; exact decide_eq_decide.2 ⟨fun h => h.2.2, fun h => ⟨hm0, hg, h⟩⟩
   rw [hR]
   clear hs hR hg p1
   generalize gcdR d m = g at *
   generalize s % (m : Int) = t at *
   go_enter Tryz.func21, Tryz.ntmps21
   go_wp2_with fail
   with_reducible refine Calls.mono (HG.out _) ?_
   rintro e w1 ⟨rfl, hb⟩
   go_wp2_with fail
   with_reducible refine Calls.mono (HM.out _) ?_
   rintro e w2 ⟨rfl, hb2⟩
   go_wp2_with fail
   exact bodyPost_ret (v := .bool (t == 0)) (by simp [results, Tryz.results21, go_sem]) rfl ⟨rfl, hb.trans (hb2.mono hb.size)⟩
  ·have g1 : (((gcdR d m : Nat) : Int) == 1) = false := beq_eq_false_iff_ne.2 (by omega)
   rw [show rfB n d a m = false from decide_eq_false (fun h => hg h.2.1)]
   clear hg
   generalize gcdR d m = g at *
   go_enter Tryz.func21, Tryz.ntmps21
   go_wp2_with fail
   with_reducible refine Calls.mono (HG.out _) ?_
   rintro e w1 ⟨rfl, hb⟩
   go_wp2_with fail
   exact bodyPost_ret (v := .bool false) (by simp [results, Tryz.results21, go_sem]) rfl ⟨rfl, hb⟩
 ·obtain rfl : m = 0 := by omega
  rw [show rfB n d a 0 = false from decide_eq_false (fun h => by omega)]
  go_enter Tryz.func21, Tryz.ntmps21
  go_wp2_with fail
  exact bodyPost_ret (v := .bool false) (by simp [results, Tryz.results21, go_sem]) rfl ⟨rfl, Below.refl _ _⟩
set_option maxHeartbeats 4000000 in
theorem rfar_any (n : Int) (d m : Nat) (hn : -100000 ≤ n ∧ n ≤ 100000) (hd : d ≤ 100000) (w : World) :
  Calls Tryz.prog 23 #[.int .i64 n, .int .i64 (d : Int), .int .i64 (m : Int)] w fun e w' => e = .returned (.bool (decide (2 * (n.natAbs * n.natAbs) < m ∧ 2 * (d * d) < m))) ∧ Below w.heap.size w w' := by
 have n1 : n.natAbs ≤ 100000 := by omega
 have q1 : n.natAbs * n.natAbs ≤ 100000 * 100000 := Nat.mul_le_mul n1 n1
 have q2 : d * d ≤ 100000 * 100000 := Nat.mul_le_mul hd hd
 have e1 : 2 * n * n = 2 * ((n.natAbs * n.natAbs : Nat) : Int) := by rw [Int.natCast_mul, Int.mul_assoc, ← Int.natAbs_mul_self' n]
 have e2 : 2 * (d : Int) * (d : Int) = 2 * ((d * d : Nat) : Int) := by rw [Int.natCast_mul, Int.mul_assoc]
 have w1 : wrap64 (2 * n) = 2 * n := w64 (by omega) (by omega)
 have w2 : wrap64 (2 * n * n) = 2 * ((n.natAbs * n.natAbs : Nat) : Int) := by rw [e1]; exact w64 (by omega) (by omega)
 have w3 : wrap64 (2 * (d : Int)) = 2 * (d : Int) := w64 (by omega) (by omega)
 have w4 : wrap64 (2 * (d : Int) * (d : Int)) = 2 * ((d * d : Nat) : Int) := by rw [e2]; exact w64 (by omega) (by omega)
 clear e1 e2
 generalize n.natAbs * n.natAbs = x at *
 generalize d * d = y at *
 by_cases h1 : 2 * x < m
 ·have k1 : decide (2 * (x : Int) < (m : Int)) = true := decide_eq_true (by omega)
  have k2 : decide (2 * (y : Int) < (m : Int)) = decide (2 * x < m ∧ 2 * y < m) := decide_eq_decide.2 ⟨fun h => ⟨h1, by omega⟩, fun h => by omega⟩
  generalize decide (2 * x < m ∧ 2 * y < m) = b at *
  clear h1 q1 q2 n1
  go_enter Tryz.func23, Tryz.ntmps23
  go_wp2_with fail
  exact bodyPost_ret (v := .bool b) (by simp [results, Tryz.results23, go_sem, k2]) rfl ⟨rfl, Below.refl _ _⟩
 ·have k1 : decide (2 * (x : Int) < (m : Int)) = false := decide_eq_false (by omega)
  rw [show decide (2 * x < m ∧ 2 * y < m) = false from decide_eq_false (fun h => h1 h.1)]
  clear h1 q1 q2 n1
  go_enter Tryz.func23, Tryz.ntmps23
  go_wp2_with fail
  exact bodyPost_ret (v := .bool false) (by simp [results, Tryz.results23, go_sem]) rfl ⟨rfl, Below.refl _ _⟩
end Go.Proofs.YtloipmieaefcpaaGreatDoor
namespace Go.Proofs.YtloipmieaefcpaaGreatDoor
open Go.RowKit
attribute [local irreducible] lo hs sm s64 c64 d64 b64 mh ml pd pc qd qc val hiB str cmpI srD lz nb isq zl zh zs rfB gcdR
/-- Nothing that fits has been met: all small numerators under the denominators below d. -/
def Tried (a : Int) (m d : Nat) : Prop := ∀ e n : Nat, 1 ≤ e → e < d → 2 * (n * n) < m → gcdR n e = 1 → rfB (n : Int) e a m = false ∧ rfB (-(n : Int)) e a m = false
def TriedN (a : Int) (m d k : Nat) : Prop := ∀ n : Nat, n < k → gcdR n d = 1 → rfB (n : Int) d a m = false ∧ rfB (-(n : Int)) d a m = false
theorem TriedN.start (a : Int) (m d : Nat) : TriedN a m d 0 := fun n h => by omega
theorem TriedN.next {a : Int} {m d k : Nat} (h : TriedN a m d k) (h2 : gcdR k d = 1 → rfB (k : Int) d a m = false ∧ rfB (-(k : Int)) d a m = false) : TriedN a m d (k + 1) := fun n hn hg => by
 rcases Nat.lt_or_ge n k with g | g
 ·exact h n g hg
 ·obtain rfl : n = k := by omega
  exact h2 hg
theorem sq_mono {a b : Nat} (h : a ≤ b) : a * a ≤ b * b := Nat.mul_le_mul h h
theorem Tried.next {a : Int} {m d k : Nat} (h : Tried a m d) (h2 : TriedN a m d k) (hk : ¬ 2 * (k * k) < m) : Tried a m (d + 1) := fun e n h1 he hn hg => by
 rcases Nat.lt_or_ge e d with g | g
 ·exact h e n h1 g hn hg
 ·obtain rfl : e = d := by omega
  refine h2 n ?_ hg
  rcases Nat.lt_or_ge n k with g2 | g2
  ·exact g2
  ·have := sq_mono g2; omega
end Go.Proofs.YtloipmieaefcpaaGreatDoor
namespace Go.Proofs.YtloipmieaefcpaaGreatDoor
open Go.RowKit
attribute [local irreducible] lo hs sm s64 c64 d64 b64 mh ml pd pc qd qc val hiB str cmpI srD lz nb isq zl zh zs
theorem gcdR_one {a b : Nat} (hb : 0 < b) : gcdR a b = 1 ↔ Nat.gcd a b = 1 := by
 unfold gcdR
 have := Nat.gcd_pos_of_pos_right a hb
 rw [if_neg (by omega)]
/-- What the reference looks at is what the program looks at. -/
theorem rf_fits (q : Rat) (a : Int) (m : Nat) : rfB q.num q.den a m = fitsB q a m := by
 have h : rfB q.num q.den a m = true ↔ fitsB q a m = true := by
  rw [fitsB_iff]
  unfold rfB
  rw [decide_eq_true_iff]
  constructor
  ·rintro ⟨h1, -, h3⟩
   exact ⟨h1, Int.dvd_of_emod_eq_zero h3⟩
  ·rintro ⟨h1, h2⟩
   refine ⟨h1, (gcdR_one h1).2 ?_, Int.emod_eq_zero_of_dvd h2⟩
   have k1 : ((Nat.gcd q.den m : Nat) : Int) ∣ (q.den : Int) := Int.natCast_dvd_natCast.2 (Nat.gcd_dvd_left _ _)
   have k2 : ((Nat.gcd q.den m : Nat) : Int) ∣ (m : Int) := Int.natCast_dvd_natCast.2 (Nat.gcd_dvd_right _ _)
   have k3 := Int.dvd_add (Int.dvd_trans k2 h2) (show ((Nat.gcd q.den m : Nat) : Int) ∣ a * (q.den : Int) from Int.dvd_mul_of_dvd_right k1)
   rw [Int.sub_add_cancel] at k3
   have k4 : Nat.gcd q.den m ∣ q.num.natAbs := Int.ofNat_dvd_left.1 k3
   have k5 := Nat.dvd_gcd k4 (Nat.gcd_dvd_left q.den m)
   have hr : Nat.gcd q.num.natAbs q.den = 1 := q.reduced
   rw [hr] at k5
   exact Nat.dvd_one.1 k5
 cases h1 : rfB q.num q.den a m <;> cases h2 : fitsB q a m <;> simp_all
theorem tmod_abs (a : Int) (k : Nat) (hk : 0 < k) : (a.tmod (k : Int)).natAbs < k := by
 have e := Int.natAbs_tmod a (k : Int)
 rw [Int.natAbs_natCast] at e
 rw [e]; exact Nat.mod_lt _ hk
theorem pfl_any (n a d m : Int) (n1 : -32768 ≤ n) (n2 : n ≤ 32767) (a1 : -32768 ≤ a) (a2 : a ≤ 32767) (d1 : 0 ≤ d) (d2 : d ≤ 65535) (m1 : 0 ≤ m) (m2 : m ≤ 65535) (w : World) (hT : Tab w) :
  Calls Tryz.prog 4 #[.int .i16 n, .int .i16 a, .int .u16 d, .int .u16 m] w fun xe w' => xe = .returned (.bool true) ∧ Below w.heap.size w w' := by
 have hi := tmod_abs n 301 (by decide)
 have hx := tmod_abs a 301 (by decide)
 have hj1 := Int.emod_nonneg d (show (60 : Int) ≠ 0 by decide)
 have hj2 := Int.emod_lt_of_pos d (show (0 : Int) < 60 by decide)
 have hy1 := Int.emod_nonneg m (show (401 : Int) ≠ 0 by decide)
 have hy2 := Int.emod_lt_of_pos m (show (0 : Int) < 401 by decide)
 obtain ⟨i, ei⟩ : ∃ x, x = n.tmod 301 := ⟨_, rfl⟩
 obtain ⟨x, ex⟩ : ∃ x, x = a.tmod 301 := ⟨_, rfl⟩
 obtain ⟨j0, ej⟩ : ∃ k : Nat, (k : Int) = d % 60 := ⟨(d % 60).toNat, by omega⟩
 obtain ⟨k, ek⟩ : ∃ k : Nat, (k : Int) = m % 401 := ⟨(m % 401).toNat, by omega⟩
 rw [show ((301 : Nat) : Int) = 301 from rfl, ← ei] at hi
 rw [show ((301 : Nat) : Int) = 301 from rfl, ← ex] at hx
 have dk : (digs k).length ≤ 1 := digs_length_iff.2 (by rw [Nat.pow_one]; unfold Bs; omega)
 have dx : dI x ≤ 1 := i64_dI (by omega) (by omega)
 have hq := (of_val_q i ((j0 : Int) + 1) (by omega)).symm
 rw [if_neg (by omega), show ((j0 : Int) + 1).natAbs = j0 + 1 by omega] at hq
 have HF := fun w => fracL i ((j0 : Int) + 1) (by omega) (by omega) (by omega) (by omega) (by omega) w
 rw [hq] at HF
 have f1 := mk_num_le (n := i) (d := j0 + 1) (by omega)
 have f2 := mk_den_le (n := i) (d := j0 + 1) (by omega)
 generalize mkRat i (j0 + 1) = f at *
 have hden := f.den_pos
 have sf : Sz f 1 := ⟨digs_length_iff.2 (by rw [Nat.pow_one]; unfold Bs; omega), digs_length_iff.2 (by rw [Nat.pow_one]; unfold Bs; omega)⟩
 have HI := fun w => i64I f.num w
 rw [show in64 f.num = true from decide_eq_true (by omega)] at HI
 simp only [if_true] at HI
 have HU := fun w => u64_small f.den (by unfold Bs; omega) w
 have HO := fun w => ofI x (by omega) (by omega) w
 have HK := fun w => of_val (k : Int) k rfl (by unfold Bs; omega) w
 have H1 := fun w => fitsP f x k 1 sf dx (by omega) (by omega) w
 have H2 := fun w => rfits_any f.num f.den x k (by omega) (by omega) (by omega) (by omega) w
 rw [rf_fits] at H2
 have H3 := fun w => farP f k 1 sf (by omega) w
 have H4 := fun w => rfar_any f.num f.den k (by omega) (by omega) w
 exact pfl_w n a d m i ((j0 : Int) + 1) j0 x k f.num f.den x k f.den f _ _ _ _ HF (fun w => numF f w) HI (fun w => denF f w) HU HO HK H1 H2 H3 H4 Tab Keeps.tab pworks_any n1 n2 a1 a2 d1 d2 m1 m2 ei.symm ej.symm rfl (by omega) (by omega) ex.symm ek.symm (by omega) (by omega) (by omega) (by omega) (by omega) w hT
end Go.Proofs.YtloipmieaefcpaaGreatDoor
