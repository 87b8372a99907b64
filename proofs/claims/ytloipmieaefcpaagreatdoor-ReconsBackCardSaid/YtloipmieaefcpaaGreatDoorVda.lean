/-
  The law answers true at every input, and leaves its arguments as they were: a part of the proof. CONDITIONS: the package-level tables start as the program's text lays them (the card ties them).
-/
import Derived.Test.YtloipmieaefcpaaGreatDoorZad
set_option linter.unusedVariables false
set_option linter.unusedSimpArgs false
namespace Go.Proofs.YtloipmieaefcpaaGreatDoor
open Go.RowKit
theorem cls_callK {α : Type} {F : α → World} {w0 : World} {K : World → Prop} (hK : Keeps K) (h1 : ∀ x, Below w0.heap.size w0 (F x)) (h2 : ∀ W, Below w0.heap.size w0 W → ∃ x, W = F x) (hk : K w0) {P : Program} {f : FuncId} {args : Array Value} {v : Value}
  (h : ∀ w, K w → Calls P f args w fun e w' => e = .returned v ∧ Below w.heap.size w w') (x : α) : Calls P f args (F x) fun e w'' => e = .returned v ∧ ∃ y, w'' = F y :=
 (h (F x) (hK _ _ (h1 x) hk)).mono fun _ _ ⟨he, hb⟩ => ⟨he, h2 _ ((h1 x).trans (hb.mono (h1 x).size))⟩
end Go.Proofs.YtloipmieaefcpaaGreatDoor
namespace Go.Proofs.YtloipmieaefcpaaGreatDoor
/-- What Euclid's algorithm finds is congruent; and coprime to m if it is in lowest terms. -/
theorem Euc.fits {m r0 r1 T0 T1 : Nat} {a s : Int} (h : Euc m a r0 r1 T0 T1 s) (hg : Nat.gcd r1 T1 = 1) : (m : Int) ∣ s * (r1 : Int) - a * (T1 : Int) ∧ Nat.gcd T1 m = 1 := by
 have hss : s * s = 1 := by rcases h.sgn with e | e <;> rw [e] <;> rfl
 constructor
 ·have e : s * (r1 : Int) - a * (T1 : Int) = s * ((r1 : Int) - a * (s * (T1 : Int))) := by
   have : s * ((r1 : Int) - a * (s * (T1 : Int))) = s * r1 - a * ((s * s) * T1) := by grind
   rw [this, hss, Int.one_mul]
  rw [e]
  exact Int.dvd_mul_of_dvd_right h.c1
 ·have h1 : ((Nat.gcd T1 m : Nat) : Int) ∣ (r1 : Int) := by
   have k1 : ((Nat.gcd T1 m : Nat) : Int) ∣ (T1 : Int) := Int.natCast_dvd_natCast.2 (Nat.gcd_dvd_left _ _)
   have k2 : ((Nat.gcd T1 m : Nat) : Int) ∣ (m : Int) := Int.natCast_dvd_natCast.2 (Nat.gcd_dvd_right _ _)
   have k3 := Int.dvd_trans k2 h.c1
   have k4 : ((Nat.gcd T1 m : Nat) : Int) ∣ a * (s * (T1 : Int)) := Int.dvd_mul_of_dvd_right (Int.dvd_mul_of_dvd_right k1)
   have := Int.dvd_add k3 k4
   rwa [Int.sub_add_cancel] at this
  have h2 : Nat.gcd T1 m ∣ r1 := Int.natCast_dvd_natCast.1 h1
  have := Nat.dvd_gcd h2 (Nat.gcd_dvd_left T1 m)
  rw [hg] at this
  exact Nat.dvd_one.1 this
end Go.Proofs.YtloipmieaefcpaaGreatDoor
namespace Go.Proofs.YtloipmieaefcpaaGreatDoor
theorem back_find {a : Int} {m : Nat} {q : Rat} (h1 : fitsB q a m = true) (h2 : farB q m = true) : backB a m = true ∧ backQ a m = q := by
 unfold backB backQ
 rw [backO_iff.2 ⟨h1, h2⟩]
 exact ⟨rfl, rfl⟩
end Go.Proofs.YtloipmieaefcpaaGreatDoor
namespace Go.Proofs.YtloipmieaefcpaaGreatDoor
open Go.RowKit
attribute [local irreducible] lo hs sm s64 c64 d64 b64 mh ml pd pc qd qc val hiB str cmpI srD lz nb isq zl zh zs fe fitsB farB backB backQ
set_option maxHeartbeats 4000000 in
set_option maxRecDepth 100000 in
theorem pbl_no (a m x y z n d : Int) (k : Nat) (HO : ∀ w, Calls Tryz.prog 11 #[.int .i64 x] w fun xe w' => xe = .returned (intV z) ∧ Below w.heap.size w w') (HK : ∀ w, Calls Tryz.prog 12 #[.int .u64 y] w fun xe w' => xe = .returned (natV k) ∧ Below w.heap.size w w') (H1 : ∀ w, Calls Tryz.prog 10 #[intV z, natV k] w fun xe w' => xe = .returned (.tuple #[.agg #[.int .u64 0, .string ⟨#[]⟩, .bool false, .int .u64 0, .string ⟨#[]⟩], .bool false]) ∧ Below w.heap.size w w') (H2 : ∀ w, Calls Tryz.prog 13 #[.int .i64 x, .int .i64 y] w fun xe w' => xe = .returned (.tuple #[.int .i64 n, .int .i64 d, .bool false]) ∧ Below w.heap.size w w') (KT : World → Prop) (hKT : Keeps KT) (HW : ∀ w, KT w → Calls Tryz.prog 15 #[] w fun xe w' => xe = .returned (.bool true) ∧ Below w.heap.size w w') (a1 : -32768 ≤ a) (a2 : a ≤ 32767) (m1 : 0 ≤ m) (m2 : m ≤ 65535) (hx : a.tmod 2001 = x) (hy : m % 401 = y) (y1 : 0 ≤ y) (y2 : y ≤ 400) (hy2 : y % 18446744073709551616 = y) (w : World) (kKT : KT w) :
  Calls Tryz.prog 3 #[.int .i16 a, .int .u16 m] w fun xe w' => xe = .returned (.bool true) ∧ Below w.heap.size w w' := by
 have hL0 : GL w w [] := GL.start w
 replace HO := Lib.hid HO
 replace HK := Lib.hid HK
 replace H1 := Lib.hid H1
 replace H2 := Lib.hid H2
 replace hKT := Lib.hid hKT
 replace HW := Lib.hid HW
 go_enter Tryz.func3, Tryz.ntmps3
 go_wp2_with fail
 with_reducible refine Calls.mono (HO.out _) ?_
 rintro e x1 ⟨rfl, hb⟩
 replace hL0 := hL0.call hb
 clear hb
 go_wp2_with fail
 with_reducible refine Calls.mono (HK.out _) ?_
 rintro e x2 ⟨rfl, hb⟩
 replace hL0 := hL0.call hb
 clear hb
 go_wp2_with fail
 with_reducible refine Calls.mono (H1.out _) ?_
 rintro e x3 ⟨rfl, hb⟩
 replace hL0 := hL0.call hb
 clear hb
 replace hL0 := (hL0.new rfl [.int .u64 0, .string ⟨#[]⟩, .bool false, .int .u64 0, .string ⟨#[]⟩] 30)
 generalize hweq : (x3.alloc (.cells #[.int .u64 0, .string ⟨#[]⟩, .bool false, .int .u64 0, .string ⟨#[]⟩] 30)) = x4 at hL0
 have hA := hL0.fc
 simp only [fcG, cellsF, neK, and_true, ne_eq, Nat.zero_add, Nat.reduceAdd] at hA
 have hP := hL0.put 0 (x3.heap.size) _ rfl [.int .u64 0, .string ⟨#[]⟩, .bool false, .int .u64 0, .string ⟨#[]⟩] rfl
 simp only [setAll, List.set_cons_zero, List.set_cons_succ] at hP
 generalize hput1 : (((((x4.setCell ⟨x3.heap.size, 0, none⟩ (.int .u64 0)).setCell ⟨x3.heap.size, 1, none⟩ (.string ⟨#[]⟩)).setCell ⟨x3.heap.size, 2, none⟩ (.bool false)).setCell ⟨x3.heap.size, 3, none⟩ (.int .u64 0)).setCell ⟨x3.heap.size, 4, none⟩ (.string ⟨#[]⟩)) = x5 at hP
 have hB1 := hP.fc
 simp only [fcG, cellsF, neK, and_true, ne_eq, Nat.zero_add, Nat.reduceAdd] at hB1
 replace hL0 := hP
 go_wp2_with fail
 clear hA
 with_reducible refine Calls.mono (H2.out _) ?_
 rintro e x6 ⟨rfl, hb⟩
 replace hL0 := hL0.call hb
 clear hb hweq hput1 hB1
 go_upto_region 6 with fail
 have kKT1 := hKT.out.at hL0.bl kKT
 obtain ⟨α, iα, F, hF1, hF2⟩ := cls x6
 have hq0 := cls_box hF1 hL0 _ _ List.mem_cons_self
 simp only [cellsC, and_true, Nat.zero_add, Nat.reduceAdd] at hq0
 refine region_qs 21 (C := fun w' => ∃ x, w' = F x) (by kernel_rfl) (by kernel_rfl) (cls_drew hF2) ?_
 simp only [List.take_succ_cons, List.take_zero, List.drop_succ_cons, List.drop_zero, List.take_nil, List.drop_nil]
 repeat (go_big_quiet_step (first | fail | (go_at_call 15; with_reducible exact cls_callK hKT.out hF1 hF2 kKT1 HW.out _)))
 refine wpQuiet_nil ?_
 rintro wq ⟨xq, rfl⟩
 replace hL0 := hL0.call (hF1 xq)
 clear  hq0 hF2
 generalize F xq = x7 at hL0 ⊢
 clear hF1 xq iα F α
 clear kKT1
 go_wp2_with fail
 exact bodyPost_ret (v := .bool true) (by simp [results, Tryz.results3, go_sem]) rfl ⟨rfl, hL0.bl⟩
set_option maxHeartbeats 4000000 in
set_option maxRecDepth 100000 in
theorem pbl_yes (a m x y z n d : Int) (k : Nat) (f : Rat) (HO : ∀ w, Calls Tryz.prog 11 #[.int .i64 x] w fun xe w' => xe = .returned (intV z) ∧ Below w.heap.size w w') (HK : ∀ w, Calls Tryz.prog 12 #[.int .u64 y] w fun xe w' => xe = .returned (natV k) ∧ Below w.heap.size w w') (H1 : ∀ w, Calls Tryz.prog 10 #[intV z, natV k] w fun xe w' => xe = .returned (.tuple #[fracV f, .bool true]) ∧ Below w.heap.size w w') (H2 : ∀ w, Calls Tryz.prog 13 #[.int .i64 x, .int .i64 y] w fun xe w' => xe = .returned (.tuple #[.int .i64 n, .int .i64 d, .bool true]) ∧ Below w.heap.size w w') (HF : ∀ w, Calls Tryz.prog 14 #[.int .i64 n, .int .i64 d] w fun xe w' => xe = .returned (fracV f) ∧ Below w.heap.size w w') (KT : World → Prop) (hKT : Keeps KT) (HW : ∀ w, KT w → Calls Tryz.prog 15 #[] w fun xe w' => xe = .returned (.bool true) ∧ Below w.heap.size w w') (a1 : -32768 ≤ a) (a2 : a ≤ 32767) (m1 : 0 ≤ m) (m2 : m ≤ 65535) (hx : a.tmod 2001 = x) (hy : m % 401 = y) (y1 : 0 ≤ y) (y2 : y ≤ 400) (hy2 : y % 18446744073709551616 = y) (w : World) (kKT : KT w) :
  Calls Tryz.prog 3 #[.int .i16 a, .int .u16 m] w fun xe w' => xe = .returned (.bool true) ∧ Below w.heap.size w w' := by
 have hL0 : GL w w [] := GL.start w
 replace HO := Lib.hid HO
 replace HK := Lib.hid HK
 replace H1 := Lib.hid H1
 replace H2 := Lib.hid H2
 replace HF := Lib.hid HF
 replace hKT := Lib.hid hKT
 replace HW := Lib.hid HW
 go_enter Tryz.func3, Tryz.ntmps3
 go_wp2_with fail
 with_reducible refine Calls.mono (HO.out _) ?_
 rintro e x1 ⟨rfl, hb⟩
 replace hL0 := hL0.call hb
 clear hb
 go_wp2_with fail
 with_reducible refine Calls.mono (HK.out _) ?_
 rintro e x2 ⟨rfl, hb⟩
 replace hL0 := hL0.call hb
 clear hb
 go_wp2_with fail
 with_reducible refine Calls.mono (H1.out _) ?_
 rintro e x3 ⟨rfl, hb⟩
 replace hL0 := hL0.call hb
 clear hb
 replace hL0 := (hL0.new rfl [.int .u64 ((zl f.num : Nat) : Int), .string (zh f.num), .bool (zs f.num), .int .u64 ((lo (fe f) : Nat) : Int), .string (hs (fe f))] 30)
 generalize hweq : (x3.alloc (.cells #[.int .u64 ((zl f.num : Nat) : Int), .string (zh f.num), .bool (zs f.num), .int .u64 ((lo (fe f) : Nat) : Int), .string (hs (fe f))] 30)) = x4 at hL0
 go_wp2_with fail
 with_reducible refine Calls.mono (H2.out _) ?_
 rintro e x5 ⟨rfl, hb⟩
 replace hL0 := hL0.call hb
 clear hb hweq
 go_upto_region 6 with fail
 have kKT1 := hKT.out.at hL0.bl kKT
 obtain ⟨α, iα, F, hF1, hF2⟩ := cls x5
 have hq0 := cls_box hF1 hL0 _ _ List.mem_cons_self
 simp only [cellsC, and_true, Nat.zero_add, Nat.reduceAdd] at hq0
 refine region_qs 21 (C := fun w' => ∃ x, w' = F x) (by kernel_rfl) (by kernel_rfl) (cls_drew hF2) ?_
 simp only [List.take_succ_cons, List.take_zero, List.drop_succ_cons, List.drop_zero, List.take_nil, List.drop_nil]
 repeat (go_big_quiet_step (first | fail | (go_at_call 14; with_reducible exact cls_call hF1 hF2 HF.out _) | (go_at_call 15; with_reducible exact cls_callK hKT.out hF1 hF2 kKT1 HW.out _)))
 refine wpQuiet_nil ?_
 rintro wq ⟨xq, rfl⟩
 replace hL0 := hL0.call (hF1 xq)
 clear  hq0 hF2
 generalize F xq = x6 at hL0 ⊢
 clear hF1 xq iα F α
 clear kKT1
 go_wp2_with fail
 exact bodyPost_ret (v := .bool true) (by simp [results, Tryz.results3, go_sem]) rfl ⟨rfl, hL0.bl⟩
end Go.Proofs.YtloipmieaefcpaaGreatDoor
namespace Go.Proofs.YtloipmieaefcpaaGreatDoor
open Go.RowKit
attribute [local irreducible] lo hs sm s64 c64 d64 b64 mh ml pd pc qd qc val hiB str cmpI srD lz nb isq zl zh zs
theorem w64 {x : Int} (h1 : -9223372036854775808 ≤ x) (h2 : x < 9223372036854775808) : wrap64 x = x := by unfold wrap64; omega
theorem tmod_twice (a m : Int) (hm : 0 < m) : (a.tmod m + m).tmod m = a % m := by
 have h0 := Int.tmod_lt_of_pos a hm
 have h1 : -m < a.tmod m := by
  have e := Int.natAbs_tmod a m
  have e2 := Nat.mod_lt a.natAbs (show 0 < m.natAbs by omega)
  omega
 rw [Int.tmod_eq_emod_of_nonneg (by omega), Int.add_emod_right, Int.tmod_def, Int.sub_mul_emod_self_left]
set_option maxHeartbeats 1000000 in
theorem rmod_any (a m : Int) (hm : 0 < m) (hm2 : m ≤ 100000) (h1 : -1000000000000 ≤ a) (h2 : a ≤ 1000000000000) (w : World) :
  Calls Tryz.prog 49 #[.int .i64 a, .int .i64 m] w fun e w' => e = .returned (.int .i64 (a % m)) ∧ Below w.heap.size w w' := by
 have hz : (m == 0) = false := beq_eq_false_iff_ne.2 (by omega)
 have hz2 : ¬ m = 0 := by omega
 have hw : (wrap64 (a.tmod m + m)).tmod m = a % m := by
  have h0 := Int.tmod_lt_of_pos a hm
  have h1 : -m < a.tmod m := by
   have e := Int.natAbs_tmod a m
   have e2 := Nat.mod_lt a.natAbs (show 0 < m.natAbs by omega)
   omega
  rw [w64 (by omega) (by omega)]; exact tmod_twice a m hm
 go_enter Tryz.func49, Tryz.ntmps49
 go_wp2_with fail
 exact bodyPost_ret (v := .int .i64 (a % m)) (by simp [results, Tryz.results49, go_sem, hw]) rfl ⟨rfl, Below.refl _ _⟩
def gcdR (a b : Nat) : Nat := if Nat.gcd a b = 0 then 1 else Nat.gcd a b
theorem gcdR_hit {a b d : Nat} (h1 : 1 < d) (ha : d ∣ a) (hb : d ∣ b) (hd : d ≤ max a b) (h : ∀ k, d < k → k ∣ a → k ∣ b → a = 0 ∧ b = 0) : gcdR a b = d := by
 have hg := Nat.dvd_gcd ha hb
 have hne : Nat.gcd a b ≠ 0 := fun e => by obtain ⟨rfl, rfl⟩ := Nat.gcd_eq_zero_iff.1 e; omega
 have hle := Nat.le_of_dvd (Nat.pos_of_ne_zero hne) hg
 unfold gcdR
 rw [if_neg hne]
 rcases Nat.lt_or_ge d (Nat.gcd a b) with h2 | h2
 ·obtain ⟨rfl, rfl⟩ := h _ h2 (Nat.gcd_dvd_left _ _) (Nat.gcd_dvd_right _ _)
  omega
 ·omega
theorem gcdR_miss {a b d : Nat} (h1 : d ≤ 1) (h : ∀ k, d < k → k ∣ a → k ∣ b → a = 0 ∧ b = 0) : gcdR a b = 1 := by
 unfold gcdR
 by_cases hne : Nat.gcd a b = 0
 ·rw [if_pos hne]
 ·rw [if_neg hne]
  rcases Nat.lt_or_ge 1 (Nat.gcd a b) with h2 | h2
  ·obtain ⟨rfl, rfl⟩ := h _ (show d < Nat.gcd a b by omega) (Nat.gcd_dvd_left _ _) (Nat.gcd_dvd_right _ _)
   simp at hne
  ·omega
set_option maxHeartbeats 4000000 in
theorem rgcd_any (a b : Nat) (ha : a ≤ 100000) (hb : b ≤ 100000) (w : World) :
  Calls Tryz.prog 42 #[.int .i64 (a : Int), .int .i64 (b : Int)] w fun e w' => e = .returned (.int .i64 ((gcdR a b : Nat) : Int)) ∧ Below w.heap.size w w' := by
 go_enter Tryz.func42, Tryz.ntmps42
 go_wp2_with fail
 go_loopw [5] (fun v wr => ∃ (d : Nat) (z : Int), v = .int .i64 z ∧ z = (d : Int) ∧ d ≤ max a b ∧ (∀ k, d < k → k ∣ a → k ∣ b → a = 0 ∧ b = 0) ∧ w = wr) (fun v _ => (intOf v).toNat)
 case atStart => exact ⟨max a b, _, rfl, by omega, Nat.le_refl _, fun k hk h1 h2 => by
  constructor
  ·rcases Nat.eq_zero_or_pos a with h | h
   ·exact h
   ·have := Nat.le_of_dvd h h1; omega
  ·rcases Nat.eq_zero_or_pos b with h | h
   ·exact h
   ·have := Nat.le_of_dvd h h2; omega, rfl⟩
 case round =>
  obtain ⟨d, z, rfl, rfl, hd, hk, rfl⟩ := hrel
  by_cases h1 : 1 < d
  ·have k1 : (1 : Int) < (d : Int) := by omega
   have kb : (d : Int) ≤ 100000 := by omega
   have k0 : ((d : Int) == 0) = false := beq_eq_false_iff_ne.2 (by omega)
   have k2 : ¬ (d : Int) = 0 := by omega
   have ta : (a : Int) % (d : Int) = ((a % d : Nat) : Int) := rfl
   have tb : (b : Int) % (d : Int) = ((b % d : Nat) : Int) := rfl
   by_cases ca : a % d = 0
   ·have ea : (((a % d : Nat) : Int) == 0) = true := by rw [ca]; rfl
    rw [← ta] at ea
    by_cases cb : b % d = 0
    ·have eb : (((b % d : Nat) : Int) == 0) = true := by rw [cb]; rfl
     rw [← tb] at eb
     have hR := Lib.hid (gcdR_hit h1 (Nat.dvd_of_mod_eq_zero ca) (Nat.dvd_of_mod_eq_zero cb) hd hk)
     clear hd hk h1 ta tb ca cb
     go_wp2_with fail
     exact bodyPost_ret (v := .int .i64 (d : Int)) (by simp [results, Tryz.results42, go_sem]) rfl ⟨by rw [hR.out], Below.refl _ _⟩
    ·have eb : (((b % d : Nat) : Int) == 0) = false := beq_eq_false_iff_ne.2 (by omega)
     rw [← tb] at eb
     have hk2 := Lib.hid (show ∀ k, d - 1 < k → k ∣ a → k ∣ b → a = 0 ∧ b = 0 from fun k g1 g2 g3 => by
      rcases Nat.lt_or_ge d k with g | g
      ·exact hk k g g2 g3
      ·obtain rfl : k = d := by omega
       exact absurd (Nat.mod_eq_zero_of_dvd g3) cb)
     replace hd := Lib.hid hd
     replace h1 := Lib.hid h1
     clear hk ta tb ca cb
     go_wp2_with fail
     go_roundw
     case rel => exact ⟨d - 1, _, by first | rfl | go_num, by have := h1.out; first | omega | (rw [w64 (by omega) (by omega)]; omega), by have := hd.out; omega, hk2.out, by first | rfl | trivial⟩
     case measure => have := h1.out; simp [intOf] <;> omega
   ·have ea : (((a % d : Nat) : Int) == 0) = false := beq_eq_false_iff_ne.2 (by omega)
    rw [← ta] at ea
    have hk2 := Lib.hid (show ∀ k, d - 1 < k → k ∣ a → k ∣ b → a = 0 ∧ b = 0 from fun k g1 g2 g3 => by
     rcases Nat.lt_or_ge d k with g | g
     ·exact hk k g g2 g3
     ·obtain rfl : k = d := by omega
      exact absurd (Nat.mod_eq_zero_of_dvd g2) ca)
    replace hd := Lib.hid hd
    replace h1 := Lib.hid h1
    clear hk ta tb ca
    go_wp2_with fail
    go_roundw
    case rel => exact ⟨d - 1, _, by first | rfl | go_num, by have := h1.out; first | omega | (rw [w64 (by omega) (by omega)]; omega), by have := hd.out; omega, hk2.out, by first | rfl | trivial⟩
    case measure => have := h1.out; simp [intOf] <;> omega
  ·have k1 : ¬ (1 : Int) < (d : Int) := by omega
   have hR := Lib.hid (gcdR_miss (by omega) hk)
   clear hd hk h1
   go_wp2_with fail
   exact bodyPost_ret (v := .int .i64 1) (by simp [results, Tryz.results42, go_sem]) rfl ⟨by rw [hR.out]; rfl, Below.refl _ _⟩
def rfB (n : Int) (d : Nat) (a : Int) (m : Nat) : Bool := decide (0 < m ∧ gcdR d m = 1 ∧ (n - a * (d : Int)) % (m : Int) = 0)
set_option maxHeartbeats 4000000 in
theorem rfits_any (n : Int) (d : Nat) (a : Int) (m : Nat) (hn : -100000 ≤ n ∧ n ≤ 100000) (hd : d ≤ 100000) (ha : -100000 ≤ a ∧ a ≤ 100000) (hm : m ≤ 100000) (w : World) :
  Calls Tryz.prog 21 #[.int .i64 n, .int .i64 (d : Int), .int .i64 a, .int .i64 (m : Int)] w fun e w' => e = .returned (.bool (rfB n d a m)) ∧ Below w.heap.size w w' := by
 by_cases hm0 : 0 < m
 ·have k0 : (0 : Int) < (m : Int) := by omega
  have HG := Lib.hid (fun w => rgcd_any d m hd hm w)
  by_cases hg : gcdR d m = 1
  ·have p1 : -10000000000 ≤ a * (d : Int) ∧ a * (d : Int) ≤ 10000000000 := by
    have e1 : a * (d : Int) ≤ 100000 * (d : Int) := Int.mul_le_mul_of_nonneg_right ha.2 (by omega)
    have e2 : -100000 * (d : Int) ≤ a * (d : Int) := Int.mul_le_mul_of_nonneg_right ha.1 (by omega)
    omega
   obtain ⟨s, hs⟩ : ∃ s, s = n - a * (d : Int) := ⟨_, rfl⟩
   have hw1 : wrap64 (a * (d : Int)) = a * (d : Int) := w64 (by omega) (by omega)
   have hw2 : wrap64 (n - a * (d : Int)) = s := by rw [hs]; exact w64 (by omega) (by omega)
   have HM := Lib.hid (fun w => rmod_any s (m : Int) k0 (by omega) (by omega) (by omega) w)
   have g1 : (((gcdR d m : Nat) : Int) == 1) = true := by rw [hg]; rfl
   have hR : rfB n d a m = (s % (m : Int) == 0) := by unfold rfB; rw [← hs]; rw [show (s % (m : Int) == 0) = decide (s % (m : Int) = 0) from rfl]; exact decide_eq_decide.2 ⟨fun h => h.2.2, fun h => ⟨hm0, hg, h⟩⟩
   rw [hR]
   clear hs hR hg p1
   generalize gcdR d m = g at *
   generalize s % (m : Int) = t at *
   go_enter Tryz.func21, Tryz.ntmps21
   go_wp2_with fail
   with_reducible refine Calls.mono (HG.out _) ?_
   rintro e w1 ⟨rfl, hb⟩
   go_wp2_with fail
   with_reducible refine Calls.mono (HM.out _) ?_
   rintro e w2 ⟨rfl, hb2⟩
   go_wp2_with fail
   exact bodyPost_ret (v := .bool (t == 0)) (by simp [results, Tryz.results21, go_sem]) rfl ⟨rfl, hb.trans (hb2.mono hb.size)⟩
  ·have g1 : (((gcdR d m : Nat) : Int) == 1) = false := beq_eq_false_iff_ne.2 (by omega)
   rw [show rfB n d a m = false from decide_eq_false (fun h => hg h.2.1)]
   clear hg
   generalize gcdR d m = g at *
   go_enter Tryz.func21, Tryz.ntmps21
   go_wp2_with fail
   with_reducible refine Calls.mono (HG.out _) ?_
   rintro e w1 ⟨rfl, hb⟩
   go_wp2_with fail
   exact bodyPost_ret (v := .bool false) (by simp [results, Tryz.results21, go_sem]) rfl ⟨rfl, hb⟩
 ·obtain rfl : m = 0 := by omega
  rw [show rfB n d a 0 = false from decide_eq_false (fun h => by omega)]
  go_enter Tryz.func21, Tryz.ntmps21
  go_wp2_with fail
  exact bodyPost_ret (v := .bool false) (by simp [results, Tryz.results21, go_sem]) rfl ⟨rfl, Below.refl _ _⟩
end Go.Proofs.YtloipmieaefcpaaGreatDoor
namespace Go.Proofs.YtloipmieaefcpaaGreatDoor
open Go.RowKit
attribute [local irreducible] lo hs sm s64 c64 d64 b64 mh ml pd pc qd qc val hiB str cmpI srD lz nb isq zl zh zs rfB gcdR
/-- Nothing that fits has been met: all small numerators under the denominators below d. -/
def Tried (a : Int) (m d : Nat) : Prop := ∀ e n : Nat, 1 ≤ e → e < d → 2 * (n * n) < m → gcdR n e = 1 → rfB (n : Int) e a m = false ∧ rfB (-(n : Int)) e a m = false
def TriedN (a : Int) (m d k : Nat) : Prop := ∀ n : Nat, n < k → gcdR n d = 1 → rfB (n : Int) d a m = false ∧ rfB (-(n : Int)) d a m = false
theorem small_le {x m : Nat} (h : 2 * (x * x) < m) : x ≤ m := by
 rcases Nat.eq_zero_or_pos x with rfl | hp
 ·omega
 ·have := Nat.le_mul_of_pos_left x hp; omega
theorem TriedN.start (a : Int) (m d : Nat) : TriedN a m d 0 := fun n h => by omega
theorem TriedN.next {a : Int} {m d k : Nat} (h : TriedN a m d k) (h2 : gcdR k d = 1 → rfB (k : Int) d a m = false ∧ rfB (-(k : Int)) d a m = false) : TriedN a m d (k + 1) := fun n hn hg => by
 rcases Nat.lt_or_ge n k with g | g
 ·exact h n g hg
 ·obtain rfl : n = k := by omega
  exact h2 hg
theorem sq_mono {a b : Nat} (h : a ≤ b) : a * a ≤ b * b := Nat.mul_le_mul h h
theorem Tried.next {a : Int} {m d k : Nat} (h : Tried a m d) (h2 : TriedN a m d k) (hk : ¬ 2 * (k * k) < m) : Tried a m (d + 1) := fun e n h1 he hn hg => by
 rcases Nat.lt_or_ge e d with g | g
 ·exact h e n h1 g hn hg
 ·obtain rfl : e = d := by omega
  refine h2 n ?_ hg
  rcases Nat.lt_or_ge n k with g2 | g2
  ·exact g2
  ·have := sq_mono g2; omega
set_option maxHeartbeats 16000000 in
set_option maxRecDepth 100000 in
theorem rback_any (a : Int) (m : Nat) (ha : -10000 ≤ a ∧ a ≤ 10000) (hm : m ≤ 1000) (R : Value)
  (hY : ∀ (n d : Nat), 1 ≤ d → 2 * (d * d) < m → 2 * (n * n) < m → gcdR n d = 1 → (rfB (n : Int) d a m = true → R = .tuple #[.int .i64 (n : Int), .int .i64 (d : Int), .bool true]) ∧ (rfB (-(n : Int)) d a m = true → R = .tuple #[.int .i64 (-(n : Int)), .int .i64 (d : Int), .bool true]))
  (hN : (∀ d n : Nat, 1 ≤ d → 2 * (d * d) < m → 2 * (n * n) < m → gcdR n d = 1 → rfB (n : Int) d a m = false ∧ rfB (-(n : Int)) d a m = false) → R = .tuple #[.int .i64 0, .int .i64 0, .bool false]) (w : World) :
  Calls Tryz.prog 13 #[.int .i64 a, .int .i64 (m : Int)] w fun e w' => e = .returned R ∧ Below w.heap.size w w' := by
 replace hY := Lib.hid hY
 replace hN := Lib.hid hN
 go_enter Tryz.func13, Tryz.ntmps13
 go_wp2_with fail
 go_loopw [7] (fun v wr => ∃ (d : Nat) (z : Int), v = .int .i64 z ∧ z = (d : Int) ∧ 1 ≤ d ∧ d ≤ 1001 ∧ Tried a m d ∧ Below w.heap.size w wr) (fun v _ => 1002 - (intOf v).toNat)
 case atStart => exact ⟨1, _, rfl, rfl, Nat.le_refl _, by omega, fun e n h1 h2 => by omega, Below.refl _ _⟩
 case round =>
  obtain ⟨d, z, rfl, rfl, hd1, hd2, hT, hb⟩ := hrel
  have e2 : 2 * (d : Int) * (d : Int) = 2 * ((d * d : Nat) : Int) := by rw [Int.natCast_mul, Int.mul_assoc]
  have q2 := sq_mono hd2
  have w3 : wrap64 (2 * (d : Int)) = 2 * (d : Int) := w64 (by omega) (by omega)
  have w4 : wrap64 (2 * (d : Int) * (d : Int)) = 2 * ((d * d : Nat) : Int) := by rw [e2]; exact w64 (by omega) (by omega)
  by_cases h1 : 2 * (d * d) < m
  ·have k1 : 2 * ((d * d : Nat) : Int) < (m : Int) := by omega
   have hdm := small_le h1
   replace hT := Lib.hid hT
   replace hd1 := Lib.hid hd1
   replace h1 := Lib.hid h1
   clear e2 q2
   generalize d * d = dd at w4 k1
   go_wp2_with fail
   clear w3 w4 k1
   go_loopw [8] (fun v wx => ∃ (n : Nat) (z : Int), v = .int .i64 z ∧ z = (n : Int) ∧ n ≤ 1001 ∧ TriedN a m d n ∧ Below w.heap.size w wx) (fun v _ => 1002 - (intOf v).toNat)
   case atStart => exact ⟨0, _, rfl, rfl, by omega, TriedN.start a m d, hb⟩
   case round =>
    clear hb
    obtain ⟨n, z, rfl, rfl, hn2, hTn, hb⟩ := hrel
    have e2 : 2 * (n : Int) * (n : Int) = 2 * ((n * n : Nat) : Int) := by rw [Int.natCast_mul, Int.mul_assoc]
    have q2 := sq_mono hn2
    have w5 : wrap64 (2 * (n : Int)) = 2 * (n : Int) := w64 (by omega) (by omega)
    have w6 : wrap64 (2 * (n : Int) * (n : Int)) = 2 * ((n * n : Nat) : Int) := by rw [e2]; exact w64 (by omega) (by omega)
    by_cases h2 : 2 * (n * n) < m
    ·have k2 : 2 * ((n * n : Nat) : Int) < (m : Int) := by omega
     have hnm := small_le h2
     have HG := Lib.hid (fun w => rgcd_any n d (by omega) (by omega) w)
     have F1 := Lib.hid (fun w => rfits_any (n : Int) d a m (by omega) (by omega) (by omega) (by omega) w)
     have F2 := Lib.hid (fun w => rfits_any (-(n : Int)) d a m (by omega) (by omega) (by omega) (by omega) w)
     have hyy := Lib.hid (hY.out n d hd1.out h1.out h2)
     replace hTn := Lib.hid hTn
     replace h2 := Lib.hid h2
     have kb : (n : Int) ≤ 1000 := by omega
     have k0 : (0 : Int) ≤ (n : Int) := by omega
     clear e2 q2
     generalize n * n = nn at w6 k2
     have wneg : wrap64 (-(n : Int)) = -(n : Int) := w64 (by omega) (by omega)
     by_cases hg : gcdR n d = 1
     ·have g1 : (((gcdR n d : Nat) : Int) != 1) = false := by rw [hg]; rfl
      have g2 : (((gcdR n d : Nat) : Int) == 1) = true := by rw [hg]; rfl
      have hyz := Lib.hid (hyy.out hg)
      have hnx := Lib.hid (fun h : rfB (n : Int) d a m = false ∧ rfB (-(n : Int)) d a m = false => hTn.out.next (k := n) (fun _ => h))
      replace hg := Lib.hid hg
      generalize gcdR n d = g at HG g1 g2
      cases c1 : rfB (n : Int) d a m with
      | true =>
       have hR := Lib.hid (hyz.out.1 c1)
       rw [c1] at F1
       replace F1 := Lib.hid F1.out
       clear c1
       go_wp2_with fail
       with_reducible refine Calls.mono (HG.out _) ?_
       rintro e x1 ⟨rfl, hb1⟩
       replace hb := hb.trans (hb1.mono hb.size)
       go_wp2_with fail
       with_reducible refine Calls.mono (F1.out _) ?_
       rintro e x2 ⟨rfl, hb2⟩
       replace hb := hb.trans (hb2.mono hb.size)
       clear hb1 hb2
       go_wp2_with fail
       exact bodyPost_ret (v := .tuple #[.int .i64 (n : Int), .int .i64 (d : Int), .bool true]) (by simp [results, Tryz.results13, go_sem]) rfl ⟨by rw [hR.out], hb⟩
      | false =>
       rw [c1] at F1
       replace F1 := Lib.hid F1.out
       cases c2 : rfB (-(n : Int)) d a m with
       | true =>
        have hR := Lib.hid (hyz.out.2 c2)
        rw [c2] at F2
        replace F2 := Lib.hid F2.out
        clear c1 c2
        go_wp2_with fail
        with_reducible refine Calls.mono (HG.out _) ?_
        rintro e x1 ⟨rfl, hb1⟩
        replace hb := hb.trans (hb1.mono hb.size)
        go_wp2_with fail
        with_reducible refine Calls.mono (F1.out _) ?_
        rintro e x2 ⟨rfl, hb2⟩
        replace hb := hb.trans (hb2.mono hb.size)
        go_wp2_with fail
        with_reducible refine Calls.mono (F2.out _) ?_
        rintro e x3 ⟨rfl, hb3⟩
        replace hb := hb.trans (hb3.mono hb.size)
        clear hb1 hb2 hb3
        go_wp2_with fail
        exact bodyPost_ret (v := .tuple #[.int .i64 (-(n : Int)), .int .i64 (d : Int), .bool true]) (by simp [results, Tryz.results13, go_sem]) rfl ⟨by rw [hR.out], hb⟩
       | false =>
        rw [c2] at F2
        replace F2 := Lib.hid F2.out
        have hn3 := Lib.hid (hnx.out ⟨c1, c2⟩)
        clear c1 c2
        go_wp2_with fail
        with_reducible refine Calls.mono (HG.out _) ?_
        rintro e x1 ⟨rfl, hb1⟩
        replace hb := hb.trans (hb1.mono hb.size)
        go_wp2_with fail
        with_reducible refine Calls.mono (F1.out _) ?_
        rintro e x2 ⟨rfl, hb2⟩
        replace hb := hb.trans (hb2.mono hb.size)
        go_wp2_with fail
        with_reducible refine Calls.mono (F2.out _) ?_
        rintro e x3 ⟨rfl, hb3⟩
        replace hb := hb.trans (hb3.mono hb.size)
        clear hb1 hb2 hb3
        go_wp2_with fail
        go_roundw
        case rel => exact ⟨n + 1, _, by first | rfl | go_num, by omega, by omega, hn3.out, hb⟩
        case measure => simp [intOf] <;> omega
     ·have g1 : (((gcdR n d : Nat) : Int) != 1) = true := by simp; omega
      have g2 : (((gcdR n d : Nat) : Int) == 1) = false := beq_eq_false_iff_ne.2 (by omega)
      have hn3 := Lib.hid (hTn.out.next (k := n) (fun h => absurd h hg))
      clear hg
      generalize gcdR n d = g at HG g1 g2
      go_wp2_with fail
      with_reducible refine Calls.mono (HG.out _) ?_
      rintro e x1 ⟨rfl, hb1⟩
      replace hb := hb.trans (hb1.mono hb.size)
      clear hb1
      go_wp2_with fail
      go_roundw
      case rel => exact ⟨n + 1, _, by first | rfl | go_num, by omega, by omega, hn3.out, hb⟩
      case measure => simp [intOf] <;> omega
    ·have k2 : ¬ 2 * ((n * n : Nat) : Int) < (m : Int) := by omega
     have hT2 := Lib.hid (hT.out.next hTn h2)
     clear hTn h2 e2 q2
     have kd : (d : Int) ≤ 1000 := by omega
     have kd0 : (0 : Int) ≤ (d : Int) := by omega
     generalize n * n = nn at w6 k2
     go_wp2_with fail
     go_roundw
     case rel => exact ⟨d + 1, _, by first | rfl | go_num, by omega, by omega, by omega, hT2.out, hb⟩
     case measure => simp [intOf] <;> omega
  ·have k1 : ¬ 2 * ((d * d : Nat) : Int) < (m : Int) := by omega
   have hR := Lib.hid (hN.out fun e n g1 g2 g3 g4 => hT e n g1 (by
    rcases Nat.lt_or_ge e d with g | g
    ·exact g
    ·have := sq_mono g; omega) g3 g4)
   clear hT h1 e2 q2
   generalize d * d = dd at w4 k1
   go_wp2_with fail
   exact bodyPost_ret (v := .tuple #[.int .i64 0, .int .i64 0, .bool false]) (by simp [results, Tryz.results13, go_sem]) rfl ⟨by rw [hR.out], hb⟩
end Go.Proofs.YtloipmieaefcpaaGreatDoor
namespace Go.Proofs.YtloipmieaefcpaaGreatDoor
open Go.RowKit
attribute [local irreducible] lo hs sm s64 c64 d64 b64 mh ml pd pc qd qc val hiB str cmpI srD lz nb isq zl zh zs
theorem gcdR_one {a b : Nat} (hb : 0 < b) : gcdR a b = 1 ↔ Nat.gcd a b = 1 := by
 unfold gcdR
 have := Nat.gcd_pos_of_pos_right a hb
 rw [if_neg (by omega)]
/-- What the reference looks at is what the program looks at. -/
theorem rf_fits (q : Rat) (a : Int) (m : Nat) : rfB q.num q.den a m = fitsB q a m := by
 have h : rfB q.num q.den a m = true ↔ fitsB q a m = true := by
  rw [fitsB_iff]
  unfold rfB
  rw [decide_eq_true_iff]
  constructor
  ·rintro ⟨h1, -, h3⟩
   exact ⟨h1, Int.dvd_of_emod_eq_zero h3⟩
  ·rintro ⟨h1, h2⟩
   refine ⟨h1, (gcdR_one h1).2 ?_, Int.emod_eq_zero_of_dvd h2⟩
   have k1 : ((Nat.gcd q.den m : Nat) : Int) ∣ (q.den : Int) := Int.natCast_dvd_natCast.2 (Nat.gcd_dvd_left _ _)
   have k2 : ((Nat.gcd q.den m : Nat) : Int) ∣ (m : Int) := Int.natCast_dvd_natCast.2 (Nat.gcd_dvd_right _ _)
   have k3 := Int.dvd_add (Int.dvd_trans k2 h2) (show ((Nat.gcd q.den m : Nat) : Int) ∣ a * (q.den : Int) from Int.dvd_mul_of_dvd_right k1)
   rw [Int.sub_add_cancel] at k3
   have k4 : Nat.gcd q.den m ∣ q.num.natAbs := Int.ofNat_dvd_left.1 k3
   have k5 := Nat.dvd_gcd k4 (Nat.gcd_dvd_left q.den m)
   have hr : Nat.gcd q.num.natAbs q.den = 1 := q.reduced
   rw [hr] at k5
   exact Nat.dvd_one.1 k5
 cases h1 : rfB q.num q.den a m <;> cases h2 : fitsB q a m <;> simp_all
theorem mk_parts {n : Int} {d : Nat} (hd : 1 ≤ d) (hg : Nat.gcd n.natAbs d = 1) : (mkRat n d).num = n ∧ (mkRat n d).den = d := by
 obtain ⟨h1, h2⟩ := canc (z := n) (d := d) (by omega)
 rw [hg] at h1 h2
 exact ⟨by rw [h1]; simp, by rw [h2, Nat.div_one]⟩
theorem pbl_ref (x : Int) (k : Nat) (hx : -10000 ≤ x ∧ x ≤ 10000) (hk : k ≤ 1000) (w : World) :
  Calls Tryz.prog 13 #[.int .i64 x, .int .i64 (k : Int)] w fun e w' => e = .returned (if backB x k = true then .tuple #[.int .i64 (backQ x k).num, .int .i64 ((backQ x k).den : Int), .bool true] else .tuple #[.int .i64 0, .int .i64 0, .bool false]) ∧ Below w.heap.size w w' := by
 have key : ∀ (z : Int) (n d : Nat), z.natAbs = n → 1 ≤ d → 2 * (d * d) < k → 2 * (n * n) < k → gcdR n d = 1 → rfB z d x k = true → backB x k = true ∧ backQ x k = mkRat z d ∧ (mkRat z d).num = z ∧ (mkRat z d).den = d := by
  intro z n d hz hd h1 h2 hg hr
  obtain ⟨p1, p2⟩ := mk_parts hd (by rw [hz]; exact (gcdR_one (by omega)).1 hg)
  have hf : fitsB (mkRat z d) x k = true := by rw [← rf_fits, p1, p2]; exact hr
  have hr2 : farB (mkRat z d) k = true := by
   unfold farB
   rw [decide_eq_true_iff, p1, p2, hz]
   exact ⟨h2, h1⟩
  obtain ⟨b1, b2⟩ := back_find hf hr2
  exact ⟨b1, b2, p1, p2⟩
 refine rback_any x k hx hk _ (fun n d hd h1 h2 hg => ⟨fun hr => ?_, fun hr => ?_⟩) (fun hall => ?_) w
 ·obtain ⟨b1, b2, p1, p2⟩ := key n n d (by simp) hd h1 h2 hg hr
  rw [if_pos b1, b2, p1, p2]
 ·obtain ⟨b1, b2, p1, p2⟩ := key (-(n : Int)) n d (by simp) hd h1 h2 hg hr
  rw [if_pos b1, b2, p1, p2]
 ·by_cases hb : backB x k = true
  ·exfalso
   obtain ⟨c1, c2⟩ := backB_true hb
   have c3 := farB_iff.1 c2
   have hden := (backQ x k).den_pos
   have hgg : gcdR (backQ x k).num.natAbs (backQ x k).den = 1 := (gcdR_one hden).2 (backQ x k).reduced
   obtain ⟨r1, r2⟩ := hall (backQ x k).den (backQ x k).num.natAbs hden c3.d c3.n hgg
   rw [← rf_fits] at c1
   rcases Int.natAbs_eq (backQ x k).num with e | e
   ·rw [← e] at r1; rw [r1] at c1; cases c1
   ·rw [← e] at r2; rw [r2] at c1; cases c1
  ·rw [if_neg hb]
theorem tmod_abs (a : Int) (k : Nat) (hk : 0 < k) : (a.tmod (k : Int)).natAbs < k := by
 have e := Int.natAbs_tmod a (k : Int)
 rw [Int.natAbs_natCast] at e
 rw [e]; exact Nat.mod_lt _ hk
theorem pbl_any (a m : Int) (a1 : -32768 ≤ a) (a2 : a ≤ 32767) (m1 : 0 ≤ m) (m2 : m ≤ 65535) (w : World) (hT : Tab w) :
  Calls Tryz.prog 3 #[.int .i16 a, .int .u16 m] w fun xe w' => xe = .returned (.bool true) ∧ Below w.heap.size w w' := by
 have hx := tmod_abs a 2001 (by decide)
 have hy1 := Int.emod_nonneg m (show (401 : Int) ≠ 0 by decide)
 have hy2 := Int.emod_lt_of_pos m (show (0 : Int) < 401 by decide)
 obtain ⟨x, ex⟩ : ∃ x, x = a.tmod 2001 := ⟨_, rfl⟩
 obtain ⟨k, ek⟩ : ∃ k : Nat, (k : Int) = m % 401 := ⟨(m % 401).toNat, by omega⟩
 rw [show ((2001 : Nat) : Int) = 2001 from rfl, ← ex] at hx
 have dk : (digs k).length ≤ 1 := digs_length_iff.2 (by rw [Nat.pow_one]; unfold Bs; omega)
 have dx : dI x ≤ 1 := i64_dI (by omega) (by omega)
 have HO := fun w => ofI x (by omega) (by omega) w
 have HK := fun w => of_val (k : Int) k rfl (by unfold Bs; omega) w
 have H1 := fun w => backP x k (by omega) (by omega) w
 have H2 := fun w => pbl_ref x k (by omega) (by omega) w
 cases hb : backB x k with
 | false =>
  rw [hb, backB_false hb, frV_q0] at H1
  rw [hb] at H2
  simp only [Bool.false_eq_true, if_false] at H2
  exact pbl_no a m x k x 0 0 k HO HK H1 H2 Tab Keeps.tab pworks_any a1 a2 m1 m2 ex.symm ek.symm (by omega) (by omega) (by omega) w hT
 | true =>
  rw [hb] at H1 H2
  simp only [if_true] at H2
  obtain ⟨c1, c2⟩ := backB_true hb
  have c3 := farB_iff.1 c2
  have g1 := small_le c3.n
  have g2 := small_le c3.d
  have hden := (backQ x k).den_pos
  have HF := fun w => fracL (backQ x k).num ((backQ x k).den : Int) (by omega) (by omega) (by omega) (by omega) (by omega) w
  rw [show (((backQ x k).num : Int) : Rat) / ((((backQ x k).den : Nat) : Int) : Rat) = backQ x k from (of_val_q (backQ x k).num ((backQ x k).den : Int) (by omega)).symm.trans (by rw [if_neg (by omega), Int.natAbs_natCast, Rat.mkRat_self])] at HF
  exact pbl_yes a m x k x _ _ k (backQ x k) HO HK H1 H2 HF Tab Keeps.tab pworks_any a1 a2 m1 m2 ex.symm ek.symm (by omega) (by omega) (by omega) w hT
end Go.Proofs.YtloipmieaefcpaaGreatDoor
