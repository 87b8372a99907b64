/-
  The law answers true at every input, and leaves its arguments as they were: a part of the proof. CONDITIONS: the package-level tables start as the program's text lays them (the card ties them).
-/
import Derived.Test.YtdmoadfnogdfnaaGreatDoorZac
import Derived.Test.YtdmoadfnogdfnaaGreatDoorRows
set_option linter.unusedVariables false
set_option linter.unusedSimpArgs false
namespace Go.Proofs.YtdmoadfnogdfnaaGreatDoor
theorem isq_lt {n r : Nat} (h : n < r * r) : isq n < r := by
 obtain ⟨g1, _⟩ := isq_spec n
 rcases Nat.lt_or_ge (isq n) r with h1 | h1
 ·exact h1
 ·have := Nat.mul_le_mul h1 h1; omega
theorem sq_sum (a b : Nat) : 4 * (a * b) ≤ (a + b) * (a + b) := by
 rcases Nat.le_total a b with h | h
 ·obtain ⟨c, rfl⟩ := Nat.exists_eq_add_of_le h
  have e : (a + (a + c)) * (a + (a + c)) = 4 * (a * (a + c)) + c * c := by
   rw [show a + (a + c) = 2 * a + c from by omega]
   simp only [Nat.add_mul, Nat.mul_add, Nat.mul_comm c (2 * a), Nat.mul_assoc]
   rw [show 2 * (a * (2 * a)) = 4 * (a * a) from by rw [← Nat.mul_assoc, ← Nat.mul_assoc, Nat.mul_comm _ 2, ← Nat.mul_assoc, ← Nat.mul_assoc]]; omega
  omega
 ·obtain ⟨c, rfl⟩ := Nat.exists_eq_add_of_le h
  have e : (b + c + b) * (b + c + b) = 4 * ((b + c) * b) + c * c := by
   rw [show b + c + b = 2 * b + c from by omega]
   simp only [Nat.add_mul, Nat.mul_add, Nat.mul_comm c (2 * b), Nat.mul_comm c b, Nat.mul_assoc]
   rw [show 2 * (b * (2 * b)) = 4 * (b * b) from by rw [← Nat.mul_assoc, ← Nat.mul_assoc, Nat.mul_comm _ 2, ← Nat.mul_assoc, ← Nat.mul_assoc]]; omega
  omega
/-- Newton's step stays at or above the root -/
theorem newton_ge (a r : Nat) (hr : 0 < r) : isq a ≤ (r + a / r) / 2 := by
 obtain ⟨g1, _⟩ := isq_spec a
 generalize hm : (r + a / r) / 2 = m
 have h1 : a < (a / r + 1) * r := by rw [Nat.mul_comm]; exact Nat.lt_mul_div_succ a hr
 have h2 : r + a / r + 1 ≤ 2 * (m + 1) := by omega
 have h3 := sq_sum r (a / r + 1)
 have h4 : (r + (a / r + 1)) * (r + (a / r + 1)) ≤ (2 * (m + 1)) * (2 * (m + 1)) := Nat.mul_le_mul (by omega) (by omega)
 have h5 : (2 * (m + 1)) * (2 * (m + 1)) = 4 * ((m + 1) * (m + 1)) := by
  rw [Nat.mul_mul_mul_comm]
 have h6 : a < (m + 1) * (m + 1) := by rw [Nat.mul_comm (a / r + 1) r] at h1; omega
 have := isq_lt h6; omega
/-- and goes down while it is above -/
theorem newton_lt (a r : Nat) (h : isq a < r) : (r + a / r) / 2 < r := by
 obtain ⟨_, g2⟩ := isq_spec a
 have h1 := Nat.mul_le_mul (show isq a + 1 ≤ r by omega) (show isq a + 1 ≤ r by omega)
 have h2 : a / r < r := (Nat.div_lt_iff_lt_mul (by omega)).2 (by omega)
 omega
theorem isq_pow {a n : Nat} (h : a < 2 ^ n) : isq a ≤ 2 ^ ((n + 1) / 2) := by
 refine Nat.le_of_lt (isq_lt ?_)
 rw [← Nat.pow_add]
 exact Nat.lt_of_lt_of_le h (Nat.pow_le_pow_right (by omega) (by omega))
end Go.Proofs.YtdmoadfnogdfnaaGreatDoor
namespace Go.Proofs.YtdmoadfnogdfnaaGreatDoor
open Go.RowKit
theorem u64_small (n : Nat) (h : n < Bs) (w : World) :
  Calls Tryz.prog 116 #[natV n] w fun e w' => e = .returned (.tuple #[.int .u64 ((n : Nat) : Int), .bool true]) ∧ Below w.heap.size w w' := by
 have hsm := sm_true.2 h
 have HL := Lib.hid (lo_small h)
 go_enter Tryz.func116, Tryz.ntmps116
 go_wp2_with fail
 refine (small_any n _).mono ?_
 rintro e w1 ⟨rfl, hb1⟩
 obtain ⟨hc1, hf1⟩ := bcell hb1
 go_wp2
 go_ret2
 exact ⟨congrArg (fun k : Nat => Ending.returned (.tuple #[.int .u64 (k : Int), .bool true])) HL.out, ((Below.refl _ _).alloc (Nat.le_refl _) _).trans (hb1.mono (by simp))⟩
theorem u64_big (n : Nat) (h : Bs ≤ n) (w : World) :
  Calls Tryz.prog 116 #[natV n] w fun e w' => e = .returned (.tuple #[.int .u64 0, .bool false]) ∧ Below w.heap.size w w' := by
 have hsm := sm_false.2 h
 go_enter Tryz.func116, Tryz.ntmps116
 go_wp2_with fail
 refine (small_any n _).mono ?_
 rintro e w1 ⟨rfl, hb1⟩
 obtain ⟨hc1, hf1⟩ := bcell hb1
 go_wp2
 go_ret2
 exact ⟨rfl, ((Below.refl _ _).alloc (Nat.le_refl _) _).trans (hb1.mono (by simp))⟩
end Go.Proofs.YtdmoadfnogdfnaaGreatDoor
namespace Go.Proofs
open Go.Shelf
def Tryz.lays125_ren : Go.Shelf.Ren := ⟨fun | 125 => 185 | 128 => 208 | 129 => 183 | n => n, fun | 46 => 116 | 3 => 3 | 51 => 22 | 53 => 30 | 4 => 4 | 5 => 5 | 9 => 9 | n => n, fun | n => n⟩
theorem Tryz.lays125 : Go.Proofs.Lays.n125 Tryz.prog Tryz.lays125_ren := {
 mixed := by kernel_rfl
 f125 := Tryz.func185.trans (congrArg some (by kernel_rfl))
 f128 := Tryz.func208.trans (congrArg some (by kernel_rfl))
 f129 := Tryz.func183.trans (congrArg some (by kernel_rfl))
 t3 := Tryz.underlying3
 a3 := Tryz.isAgg3
 z3 := Tryz.sizeOf3
 v3 := Tryz.zeroValue3
 t4 := Tryz.underlying4
 a4 := Tryz.isAgg4
 z4 := Tryz.sizeOf4
 v4 := Tryz.zeroValue4
 t5 := Tryz.underlying5
 a5 := Tryz.isAgg5
 z5 := Tryz.sizeOf5
 v5 := Tryz.zeroValue5
 t9 := Tryz.underlying9
 a9 := Tryz.isAgg9
 z9 := Tryz.sizeOf9
 v9 := Tryz.zeroValue9
 t46 := Tryz.underlying116
 a46 := Tryz.isAgg116
 z46 := Tryz.sizeOf116
 v46 := Tryz.zeroValue116
 t51 := Tryz.underlying22
 a51 := Tryz.isAgg22
 z51 := Tryz.sizeOf22
 v51 := Tryz.zeroValue22
 t53 := Tryz.underlying30
 a53 := Tryz.isAgg30
 z53 := Tryz.sizeOf30
 v53 := Tryz.zeroValue30 }
/-- bits.Len: "Len returns the minimum number of bits required to represent x; the result is 0 for x == 0.": IT RETURNS 'Lib.bitLen x'; the world is as it was. (A uint has 64 bits in the model.) ITS CALLEE bits.Len64 IS MET BY ITS OWN CONTRACT OFF THE SHELF (lay that first). (LAID: no walk: one application.) -/
theorem Tryz.bits_Len (x : Int) (w : World) (h0 : 0 ≤ x) (h1 : x ≤ 18446744073709551615) :
  Calls Tryz.prog 185 #[.int .u64 x] w fun e w' => e = .returned (.int .i64 (Lib.bitLen x.toNat)) ∧ w' = w := Any.bits_Len Tryz.lays125 x w h0 h1
def Tryz.lays129_ren : Go.Shelf.Ren := ⟨fun | 129 => 183 | n => n, fun | 53 => 30 | 3 => 3 | 4 => 4 | 46 => 116 | 5 => 5 | 9 => 9 | n => n, fun | n => n⟩
theorem Tryz.lays129 : Go.Proofs.Lays.n129 Tryz.prog Tryz.lays129_ren := {
 mixed := by kernel_rfl
 f129 := Tryz.func183.trans (congrArg some (by kernel_rfl))
 t3 := Tryz.underlying3
 a3 := Tryz.isAgg3
 z3 := Tryz.sizeOf3
 v3 := Tryz.zeroValue3
 t4 := Tryz.underlying4
 a4 := Tryz.isAgg4
 z4 := Tryz.sizeOf4
 v4 := Tryz.zeroValue4
 t5 := Tryz.underlying5
 a5 := Tryz.isAgg5
 z5 := Tryz.sizeOf5
 v5 := Tryz.zeroValue5
 t9 := Tryz.underlying9
 a9 := Tryz.isAgg9
 z9 := Tryz.sizeOf9
 v9 := Tryz.zeroValue9
 t46 := Tryz.underlying116
 a46 := Tryz.isAgg116
 z46 := Tryz.sizeOf116
 v46 := Tryz.zeroValue116
 t53 := Tryz.underlying30
 a53 := Tryz.isAgg30
 z53 := Tryz.sizeOf30
 v53 := Tryz.zeroValue30 }
/-- bits.Len64: "Len64 returns the minimum number of bits required to represent x; the result is 0 for x == 0.": IT RETURNS 'Lib.bitLen x'; the world is as it was. ('h0', 'h1': x is a uint64.) (LAID: no walk: one application.) -/
theorem Tryz.bits_Len64 (x : Int) (w : World) (h0 : 0 ≤ x) (h1 : x ≤ 18446744073709551615) :
  Calls Tryz.prog 183 #[.int .u64 x] w fun e w' => e = .returned (.int .i64 (Lib.bitLen x.toNat)) ∧ w' = w := Any.bits_Len64 Tryz.lays129 x w h0 h1
end Go.Proofs
namespace Go.Proofs.YtdmoadfnogdfnaaGreatDoor
open Go.RowKit
attribute [local irreducible] lo hs sm s64 c64 d64 b64 mh ml pd pc qd qc val hiB str
set_option maxHeartbeats 2000000 in
set_option maxRecDepth 100000 in
theorem div_zero (a : Nat) (w : World) :
  Calls Tryz.prog 106 #[natV a, natV 0] w fun e w' => e = .returned (.tuple #[natV 0, natV 0, .bool false]) ∧ Below w.heap.size w w' := by
 obtain ⟨w0, hw0, hA, hB, hC, hD, hbw, hsz⟩ := boxes4 w (.int .u64 ((lo a : Nat) : Int)) (.string (hs a)) (.int .u64 ((lo 0 : Nat) : Int)) (.string (hs 0)) (.int .u64 0) (.string ⟨#[]⟩) (.int .u64 0) (.string ⟨#[]⟩) 32
 go_enter Tryz.func106, Tryz.ntmps106
 go_wp2
 clear hw0
 obtain ⟨b0, b1, bf⟩ := hB
 go_region_held3 (fun w' => w'.cell? ⟨w.heap.size + 1, 0, none⟩ = some (.int .u64 ((lo 0 : Nat) : Int)) ∧ w'.cell? ⟨w.heap.size + 1, 1, none⟩ = some (.string (hs 0)))
  (first | exact ⟨b0, b1⟩ | exact ⟨b0', b1'⟩)
  (first
   | (go_at_call 81; ((with_reducible refine Calls.mono (of_zero _) ?_); rintro e w1 ⟨rfl, hb1⟩; obtain ⟨b0', b1', bf'⟩ := Bx.below (w := w0.drew) ⟨b0, b1, bf⟩ hb1 (by simp <;> omega))))
 have hb01 := (Below.refl w0.heap.size w0).drew.trans hb1
 obtain ⟨c0, c1, cf⟩ := hC.below hb01 (by omega)
 obtain ⟨d0, d1, df⟩ := hD.below hb01 (by omega)
 go_wp2
 exact bodyPost_ret (v := .tuple #[natV 0, natV 0, .bool false]) (by rw [natV_zero]; simp [results, Tryz.results106, go_sem, c0, c1, cf, d0, d1, df]) rfl ⟨rfl, ((((hbw.trans (hb01.mono (by omega))).setCell (by simp <;> omega) _).setCell (by simp <;> omega) _).setCell (by simp <;> omega) _).setCell (by simp <;> omega) _⟩
attribute [local irreducible] cmpI
end Go.Proofs.YtdmoadfnogdfnaaGreatDoor
namespace Go.Proofs.YtdmoadfnogdfnaaGreatDoor
open Go.RowKit
attribute [local irreducible] lo hs sm s64 c64 d64 b64 mh ml pd pc qd qc val hiB str cmpI srD
theorem above_val (D : List Nat) (hD : Dig D) (at_ s : Nat) (hs : s < 64) (h : at_ < D.length) :
  val D / 2 ^ (64 * at_ + s) % Bs = srD s D[at_] (D.getD (at_ + 1) 0) := by
 have h1 : val D / Bs ^ at_ = val (D.drop at_) := by
  have h2 : val D = val (D.take at_) + Bs ^ at_ * val (D.drop at_) := by
   have := val_append (D.take at_) (D.drop at_)
   rw [List.take_append_drop, List.length_take, Nat.min_eq_left (Nat.le_of_lt h)] at this
   exact this
  have h3 : val (D.take at_) < Bs ^ at_ := by
   have := val_lt (hD.take at_)
   rwa [List.length_take, Nat.min_eq_left (Nat.le_of_lt h)] at this
  rw [h2, Nat.add_mul_div_left _ _ (Nat.pow_pos Bs_pos), Nat.div_eq_of_lt h3, Nat.zero_add]
 rw [Nat.pow_add, Nat.pow_mul, show (2 : Nat) ^ 64 = Bs from Bs_pow.symm, ← Nat.div_div_eq_div_mul, h1, List.drop_eq_getElem_cons h, val_cons, srD_sum (Nat.le_of_lt hs), Nat.add_mul_mod_self_left, next_digit D (at_ + 1) hD]
 exact Nat.mod_eq_of_lt (srD_lt (Nat.le_of_lt hs) (hD.get at_ h))
theorem above_past (D : List Nat) (hD : Dig D) (at_ s : Nat) (h : D.length ≤ at_) : val D / 2 ^ (64 * at_ + s) % Bs = 0 := by
 have h1 := val_lt hD
 have h2 : val D < 2 ^ (64 * at_ + s) := by
  refine Nat.lt_of_lt_of_le h1 ?_
  rw [Bs_pow, ← Nat.pow_mul]
  exact Nat.pow_le_pow_right (by omega) (by omega)
 rw [Nat.div_eq_of_lt h2]; exact Nat.zero_mod _
set_option maxHeartbeats 2000000 in
set_option maxRecDepth 100000 in
theorem above_any (g c at_ s n : Nat) (D : List Nat) (hD : Dig D) (hn : n = 64 * at_ + s) (hs : s < 64) (hatl : at_ ≤ 1099511627776) (hl : D.length ≤ 1099511627776) (w : World) (hr : Rd w g 0 D) :
  Calls Tryz.prog 221 #[.slice (some ⟨g, 0, none⟩) D.length c, .int .i64 (n : Int)] w fun e w' =>
   e = .returned (.int .u64 ((val D / 2 ^ n % Bs : Nat) : Int)) ∧ w = w' := by
 have hm64 : min s 64 = s := by omega
 have hdq : (n : Int) / 64 = (at_ : Int) := by omega
 have hdm : (n : Int).tmod 64 = (s : Int) := by rw [Int.tmod_eq_emod_of_nonneg (by omega)]; omega
 by_cases hat : at_ < D.length
 ·have hv := above_val D hD at_ s hs hat
  rw [← hn] at hv
  rw [hv]
  clear hn hv
  have hx := hD.get at_ hat
  have hcell := hr at_ hat
  rw [Nat.zero_add] at hcell
  have hd0 : decide (D.length ≤ at_) = false := by rw [decide_eq_false_iff_not]; omega
  have e2 : ((D[at_] : Nat) : Int) / 2 ^ s = ((D[at_] / 2 ^ s : Nat) : Int) := by rw [Int.natCast_ediv, Int.natCast_pow]; rfl
  by_cases hlast : at_ + 1 < D.length
  ·have hor := srD_or (n := s) (z := D.getD (at_ + 1) 0) (Nat.le_of_lt hs) hx
   have hcell2 := hr (at_ + 1) hlast
   rw [Nat.zero_add, show D[at_ + 1] = D.getD (at_ + 1) 0 by simp [hlast]] at hcell2
   rw [e2] at hor
   generalize D[at_] / 2 ^ s = xq at *
   generalize D.getD (at_ + 1) 0 = z at *
   generalize D[at_] = x at *
   clear hx hr hD
   go_enter Tryz.func221, Tryz.ntmps221
   go_upto_region 2 with fail
   clear hdq hdm
   go_wp2
   go_ret
   exact ⟨rfl, rfl⟩
  ·have hz : D.getD (at_ + 1) 0 = 0 := by simp [hlast]
   have hsr : srD s D[at_] 0 = D[at_] / 2 ^ s := by unfold srD; simp
   rw [hz, hsr]
   generalize D[at_] / 2 ^ s = xq at *
   generalize D[at_] = x at *
   clear hx hr hD hz hsr
   go_enter Tryz.func221, Tryz.ntmps221
   go_upto_region 2 with fail
   clear hdq hdm
   go_wp2
   go_ret
   exact ⟨rfl, rfl⟩
 ·have hv := above_past D hD at_ s (Nat.le_of_not_lt hat)
  rw [← hn] at hv
  rw [hv]
  have hd0 : decide (D.length ≤ at_) = true := by rw [decide_eq_true_eq]; omega
  clear hn hv hr hD
  go_enter Tryz.func221, Tryz.ntmps221
  go_wp2
  go_ret
  exact ⟨rfl, rfl⟩
theorem aboveW (g c N a m : Nat) (X : List Nat) (hm : (digs a).length = m) (hl : m ≤ 1000000000000) (hN : N ≤ 64 * 1000000000000) (hv : a / 2 ^ N < Bs) (w : World) (hdx : DB w g (digs a ++ X)) :
  Calls Tryz.prog 221 #[.slice (some ⟨g, 0, none⟩) m c, .int .i64 (N : Int)] w fun e w' =>
   e = .returned (.int .u64 ((a / 2 ^ N : Nat) : Int)) ∧ w = w' := by
 subst hm
 refine (above_any g c (N / 64) (N % 64) N (digs a) (digs_dig a) (by omega) (by omega) (by omega) (by omega) w hdx.rdl).mono ?_
 rintro e w' ⟨rfl, rfl⟩
 rw [val_digs, Nat.mod_eq_of_lt hv]
 exact ⟨rfl, rfl⟩
theorem window (a m t : Nat) (hm : (digs a).length = m) (h2 : 2 ≤ m) (ht : t = (digs a)[m - 1]'(by omega)) :
  t < Bs ∧ ∃ N, 64 * m = N + 62 + lz t ∧ a / 2 ^ N < 4611686018427387904 ∧ 0 < a / 2 ^ N := by
 obtain ⟨n, rfl⟩ : ∃ n, m = n + 1 := ⟨m - 1, by omega⟩
 obtain ⟨h1, h3, h4, -, -⟩ := norm_div a n hm t ht
 have htB : t < Bs := by rw [ht]; exact (digs_dig a).get _ (by omega)
 refine ⟨htB, 64 * (n + 1) - 62 - lz t, by omega, ?_, ?_⟩
 ·rw [Nat.div_lt_iff_lt_mul (Nat.pow_pos (by omega))]
  have h5 : 4611686018427387904 * 2 ^ (64 * (n + 1) - 62 - lz t) * 2 ^ lz t = Bs ^ (n + 1) := by
   rw [show (4611686018427387904 : Nat) = 2 ^ 62 from rfl, ← Nat.pow_add, ← Nat.pow_add, Bs_pow, ← Nat.pow_mul]
   congr 1; omega
  exact Nat.lt_of_mul_lt_mul_right (a := 2 ^ lz t) (by rw [h5]; exact h3)
 ·rw [Nat.div_pos_iff]
  refine ⟨Nat.pow_pos (by omega), ?_⟩
  have h5 : 2 ^ (64 * (n + 1) - 62 - lz t) * 2 ^ 62 * 2 ^ lz t = Bs ^ (n + 1) := by
   rw [← Nat.pow_add, ← Nat.pow_add, Bs_pow, ← Nat.pow_mul]
   congr 1; omega
  have h6 : 2 ^ (64 * (n + 1) - 62 - lz t) * 2 ^ lz t * 4 ≤ a * 2 ^ lz t * 2 := by
   have h7 : 2 ^ (64 * (n + 1) - 62 - lz t) * 2 ^ lz t * 4 ≤ Bs ^ (n + 1) := by
    rw [← h5, Nat.mul_right_comm _ (2 ^ 62)]
    exact Nat.mul_le_mul_left (2 ^ (64 * (n + 1) - 62 - lz t) * 2 ^ lz t) (show 4 ≤ 2 ^ 62 by decide)
   omega
  exact Nat.le_of_mul_le_mul_right (c := 2 ^ lz t) (by omega) (Nat.pow_pos (by omega))
theorem put4 {w : World} {k : Nat} {x y z u : Value} (hA : Bx w k x y) (hB : Bx w (k + 1) z u) (x' y' z' u' : Value) :
  Bx ((((w.setCell ⟨k, 0, none⟩ x').setCell ⟨k, 1, none⟩ y').setCell ⟨k + 1, 0, none⟩ z').setCell ⟨k + 1, 1, none⟩ u') k x' y' ∧
  Bx ((((w.setCell ⟨k, 0, none⟩ x').setCell ⟨k, 1, none⟩ y').setCell ⟨k + 1, 0, none⟩ z').setCell ⟨k + 1, 1, none⟩ u') (k + 1) z' u' := by
 obtain ⟨a0, a1, af⟩ := hA
 obtain ⟨b0, b1, bf⟩ := hB
 constructor <;> refine ⟨?_, ?_, fun j => ?_⟩ <;> simp [go_sem, a0, a1, af, b0, b1, bf]
attribute [local irreducible] lz
set_option maxHeartbeats 2000000 in
set_option maxRecDepth 100000 in
theorem certain_any (gx gy cx cy a b m n : Nat) (X Y : List Nat) (hn : (digs b).length = n) (hn2 : 2 ≤ n) (hm : (digs a).length = m) (hab : b ≤ a) (hal : m ≤ 1000000000000) (w : World) (hdx : DB w gx (digs a ++ X)) (hdy : DB w gy (digs b ++ Y)) :
  Calls Tryz.prog 206 #[.slice (some ⟨gx, 0, none⟩) m cx, .slice (some ⟨gy, 0, none⟩) n cy] w fun e w' =>
   ∃ A B C D p q p0 q0 : Int, e = .returned (.tuple #[.agg #[.int .i64 A, .int .i64 B], .agg #[.int .i64 C, .int .i64 D]]) ∧ CS a b p0 q0 A B C D p q ∧ p0 ≤ 4611686018427387904 ∧ Below w.heap.size w w' := by
 obtain ⟨w0, hw0, hA, hB, hbw, hsz⟩ := boxes2 w (.int .i64 0) (.int .i64 0) (.int .i64 0) (.int .i64 0) 235
 have hnm : n ≤ m := by rw [← hn, ← hm]; exact digs_mono hab
 obtain ⟨t, ht⟩ : ∃ t, t = (digs a)[m - 1]'(by omega) := ⟨_, rfl⟩
 obtain ⟨htB, N, hN, hP, hP0⟩ := window a m t hm (by omega) ht
 have hlz : lz t ≤ 63 := (norm_div a (m - 1) (by omega) t ht).1
 have hdx0 := hdx.below hbw hdx.lt
 have hdy0 := hdy.below hbw hdy.lt
 have hcell := hdx0.cell (m - 1) (by simp; omega)
 rw [List.getElem_append_left (by omega), ← ht] at hcell
 have hQ : b / 2 ^ N ≤ a / 2 ^ N := Nat.div_le_div_right hab
 have H1 := fun w h => aboveW gx cx N a m X hm hal (by omega) (by unfold Bs; omega) w h
 have H2 := fun w h => aboveW gy cy N b n Y hn (by omega) (by omega) (by unfold Bs; omega) w h
 replace H1 := Lib.hid H1
 replace H2 := Lib.hid H2
 have hxT : (a : Int) = ((a / 2 ^ N : Nat) : Int) * ((2 ^ N : Nat) : Int) + ((a % 2 ^ N : Nat) : Int) := by
  have := Nat.div_add_mod a (2 ^ N)
  rw [← Int.natCast_mul, ← Int.natCast_add, Nat.mul_comm, this]
 have hyT : (b : Int) = ((b / 2 ^ N : Nat) : Int) * ((2 ^ N : Nat) : Int) + ((b % 2 ^ N : Nat) : Int) := by
  have := Nat.div_add_mod b (2 ^ N)
  rw [← Int.natCast_mul, ← Int.natCast_add, Nat.mul_comm, this]
 have hxl : a % 2 ^ N < 2 ^ N := Nat.mod_lt _ (Nat.pow_pos (by omega))
 have hyl : b % 2 ^ N < 2 ^ N := Nat.mod_lt _ (Nat.pow_pos (by omega))
 generalize a / 2 ^ N = P at *
 generalize b / 2 ^ N = Q at *
 generalize a % 2 ^ N = xl at *
 generalize b % 2 ^ N = yl at *
 generalize 2 ^ N = T at *
 have hS := CS.start (p0 := ((P : Nat) : Int)) (q0 := ((Q : Nat) : Int)) hab (by omega) (by omega) (by omega)
 have hwP : IntKind.i64.wrap ((P : Nat) : Int) = ((P : Nat) : Int) := IntWalk.i64_in _ (by omega)
 have hwQ : IntKind.i64.wrap ((Q : Nat) : Int) = ((Q : Nat) : Int) := IntWalk.i64_in _ (by omega)
 have HS := Lib.hid hS
 have HX := Lib.hid hxT
 have HY := Lib.hid hyT
 have HD := Lib.hid (And.intro hdx0 hdy0)
 have HDrop : (m : Int) * 64 - (lz t : Int) - 62 = (N : Int) := by omega
 have HL := Lib.hid (lz_any t htB)
 clear hS hxT hyT hdx0 hdy0 hdx hdy htB ht hN
 go_enter Tryz.func206, Tryz.ntmps206
 go_wp2_with fail
 refine (HL.out _).mono ?_
 rintro e w1 ⟨rfl, rfl⟩
 go_wp2_with fail
 refine (H1.out _ HD.out.1).mono ?_
 rintro e w1 ⟨rfl, rfl⟩
 go_wp2_with fail
 refine (H2.out _ HD.out.2).mono ?_
 rintro e w1 ⟨rfl, rfl⟩
 obtain ⟨a0, a1, af⟩ := id hA
 obtain ⟨b0, b1, bf⟩ := id hB
 clear HL H1 H2 HDrop hcell hlz
 go_wp2_with fail
 go_loopw [7, 8, 9] (fun z7 z8 _ wr => ∃ A B C D p q : Int, z7 = .int .i64 p ∧ z8 = .int .i64 q ∧ CS a b P Q A B C D p q ∧
  Bx wr w.heap.size (.int .i64 A) (.int .i64 B) ∧ Bx wr (w.heap.size + 1) (.int .i64 C) (.int .i64 D) ∧ Below w.heap.size w wr ∧ w.heap.size + 2 ≤ wr.heap.size) (fun _ z8 _ _ => (intOf z8).toNat)
 case atStart =>
  have hp := put4 hA hB (.int .i64 1) (.int .i64 0) (.int .i64 0) (.int .i64 1)
  exact ⟨1, 0, 0, 1, P, Q, rfl, rfl, HS.out, hp.1, hp.2, (((hbw.setCell (by simp <;> omega) _).setCell (by simp <;> omega) _).setCell (by simp <;> omega) _).setCell (by simp <;> omega) _, by simp; omega⟩
 case round =>
  obtain ⟨A, B, C, D, p, q, rfl, rfl, hCS, hA, hB, hbw, hsz⟩ := hrel
  clear a0 a1 af b0 b1 bf HS
  have hbd := hCS.bounds
  have hCS := Lib.hid hCS
  obtain ⟨u, hu⟩ : ∃ u, u = q + C := ⟨_, rfl⟩
  obtain ⟨v, hv⟩ : ∃ v, v = q + D := ⟨_, rfl⟩
  obtain ⟨f, hf⟩ : ∃ f, f = p + A := ⟨_, rfl⟩
  obtain ⟨g, hg⟩ : ∃ g, g = p + B := ⟨_, rfl⟩
  have wu : IntKind.i64.wrap (q + C) = u := by rw [hu]; exact IntWalk.i64_in _ (by omega)
  have wv : IntKind.i64.wrap (q + D) = v := by rw [hv]; exact IntWalk.i64_in _ (by omega)
  have wf : IntKind.i64.wrap (p + A) = f := by rw [hf]; exact IntWalk.i64_in _ (by omega)
  have wg : IntKind.i64.wrap (p + B) = g := by rw [hg]; exact IntWalk.i64_in _ (by omega)
  have hu0 : 0 ≤ u := by omega
  have hv0 : 0 ≤ v := by omega
  have HBD := Lib.hid hbd
  have Hu := Lib.hid hu
  have Hv := Lib.hid hv
  have Hf := Lib.hid hf
  have Hg := Lib.hid hg
  obtain ⟨a0, a1, af⟩ := id hA
  obtain ⟨b0, b1, bf⟩ := id hB
  clear hbd hu hv hf hg
  by_cases hu1 : u = 0
  ·have hwu0 : decide (u = 0) = true := decide_eq_true hu1
   go_wp2_with fail
   go_region
   go_wp2_with fail
   have hp := put4 hA hB (.int .i64 A) (.int .i64 B) (.int .i64 C) (.int .i64 D)
   obtain ⟨⟨p0, p1, -⟩, ⟨p2, p3, -⟩⟩ := hp
   exact bodyPost_ret (v := .tuple #[.agg #[.int .i64 A, .int .i64 B], .agg #[.int .i64 C, .int .i64 D]]) (by simp [results, Tryz.results206, go_sem, a0, a1, b0, b1, af, bf]) rfl
    ⟨A, B, C, D, p, q, P, Q, rfl, hCS.out, by omega, ((((hbw.setCell (by simp <;> omega) _).setCell (by simp <;> omega) _).setCell (by simp <;> omega) _).setCell (by simp <;> omega) _).drew⟩
  ·have hwu0 : (u != 0) = true := bne_iff_ne.2 hu1
   by_cases hv1 : v = 0
   ·have hwv0 : decide (v = 0) = true := decide_eq_true hv1
    go_wp2_with fail
    go_region
    go_wp2_with fail
    have hp := put4 hA hB (.int .i64 A) (.int .i64 B) (.int .i64 C) (.int .i64 D)
    obtain ⟨⟨p0, p1, -⟩, ⟨p2, p3, -⟩⟩ := hp
    exact bodyPost_ret (v := .tuple #[.agg #[.int .i64 A, .int .i64 B], .agg #[.int .i64 C, .int .i64 D]]) (by simp [results, Tryz.results206, go_sem, a0, a1, b0, b1, af, bf]) rfl
     ⟨A, B, C, D, p, q, P, Q, rfl, hCS.out, by omega, ((((hbw.setCell (by simp <;> omega) _).setCell (by simp <;> omega) _).setCell (by simp <;> omega) _).setCell (by simp <;> omega) _).drew⟩
   ·have hwv0 : (v != 0) = true := bne_iff_ne.2 hv1
    have hf0 : 0 ≤ f := by have := HBD.out; have := Hf.out; omega
    have hg0 : 0 ≤ g := by have := HBD.out; have := Hg.out; omega
    obtain ⟨k, hk⟩ : ∃ k, k = f / u := ⟨_, rfl⟩
    obtain ⟨l, hl⟩ : ∃ l, l = g / v := ⟨_, rfl⟩
    have hkb : 0 ≤ k ∧ k ≤ f := ⟨by rw [hk]; exact Int.ediv_nonneg hf0 hu0, by rw [hk]; exact Int.ediv_le_self _ hf0⟩
    have hlb : 0 ≤ l ∧ l ≤ g := ⟨by rw [hl]; exact Int.ediv_nonneg hg0 hv0, by rw [hl]; exact Int.ediv_le_self _ hg0⟩
    have hff : f ≤ 9223372036854775807 ∧ g ≤ 9223372036854775807 := by have := HBD.out; have := Hf.out; have := Hg.out; omega
    have tk : f.tdiv u = k := by rw [hk]; exact Int.tdiv_eq_ediv_of_nonneg hf0
    have tl : g.tdiv v = l := by rw [hl]; exact Int.tdiv_eq_ediv_of_nonneg hg0
    have wk : IntKind.i64.wrap k = k := IntWalk.i64_in _ (by omega)
    have wl : IntKind.i64.wrap l = l := IntWalk.i64_in _ (by omega)
    have Hk := Lib.hid hk
    have Hl := Lib.hid hl
    clear hk hl hff hkb hlb
    by_cases hkl : k = l
    ·subst hkl
     have hstep := hCS.out.step (T := T) (xl := xl) (yl := yl) (k := k) (by have := Hu.out; omega) (by have := Hv.out; omega) (by rw [← Hf.out, ← Hu.out]; exact Hk.out) (by rw [← Hg.out, ← Hv.out]; exact Hl.out) HX.out HY.out hxl hyl
     obtain ⟨hn, n1, n2, n3, n4, n5⟩ := hstep
     have nb := hn.bounds
     have ob := HBD.out
     obtain ⟨kq, hkq⟩ : ∃ z, z = k * q := ⟨_, rfl⟩
     obtain ⟨kc, hkc⟩ : ∃ z, z = k * C := ⟨_, rfl⟩
     obtain ⟨kd, hkd⟩ : ∃ z, z = k * D := ⟨_, rfl⟩
     rw [← hkq, ← hkc, ← hkd] at nb
     rw [← hkq] at n2 n3 n4 n5
     rw [← hkq, ← hkc, ← hkd] at hn
     obtain ⟨q', hq'⟩ : ∃ z, z = p - kq := ⟨_, rfl⟩
     obtain ⟨C', hC'⟩ : ∃ z, z = A - kc := ⟨_, rfl⟩
     obtain ⟨D', hD'⟩ : ∃ z, z = B - kd := ⟨_, rfl⟩
     rw [← hq', ← hC', ← hD'] at nb hn
     rw [← hq'] at n3 n4
     have w1 : IntKind.i64.wrap (k * q) = kq := by rw [← hkq]; exact IntWalk.i64_in _ (by omega)
     have w2 : IntKind.i64.wrap (k * C) = kc := by rw [← hkc]; exact IntWalk.i64_in _ (by omega)
     have w3 : IntKind.i64.wrap (k * D) = kd := by rw [← hkd]; exact IntWalk.i64_in _ (by omega)
     have w4 : IntKind.i64.wrap (p - kq) = q' := by rw [← hq']; exact IntWalk.i64_in _ (by omega)
     have w5 : IntKind.i64.wrap (A - kc) = C' := by rw [← hC']; exact IntWalk.i64_in _ (by omega)
     have w6 : IntKind.i64.wrap (B - kd) = D' := by rw [← hD']; exact IntWalk.i64_in _ (by omega)
     have HN := Lib.hid hn
     have HM := Lib.hid (And.intro n3 n4)
     clear nb ob n1 n2 n3 n4 n5 hkq hkc hkd hq' hC' hD' hn hCS Hk Hl Hu Hv Hf Hg HBD
     go_wp2_with fail
     go_region
     go_wp2_with fail
     have hp := put4 hA hB (.int .i64 C) (.int .i64 D) (.int .i64 C') (.int .i64 D')
     refine ⟨⟨C, D, C', D', q, q', rfl, rfl, HN.out, hp.1, hp.2, ((((hbw.setCell (by simp <;> omega) _).setCell (by simp <;> omega) _).setCell (by simp <;> omega) _).setCell (by simp <;> omega) _).drew, by simp; omega⟩, ?_⟩
     have := HM.out
     simp [intOf]; omega
    ·have hkl0 : (k != l) = true := bne_iff_ne.2 hkl
     go_wp2_with fail
     go_region
     go_wp2_with fail
     have hp := put4 hA hB (.int .i64 A) (.int .i64 B) (.int .i64 C) (.int .i64 D)
     obtain ⟨⟨p0, p1, -⟩, ⟨p2, p3, -⟩⟩ := hp
     exact bodyPost_ret (v := .tuple #[.agg #[.int .i64 A, .int .i64 B], .agg #[.int .i64 C, .int .i64 D]]) (by simp [results, Tryz.results206, go_sem, a0, a1, b0, b1, af, bf]) rfl
      ⟨A, B, C, D, p, q, P, Q, rfl, hCS.out, by omega, ((((hbw.setCell (by simp <;> omega) _).setCell (by simp <;> omega) _).setCell (by simp <;> omega) _).setCell (by simp <;> omega) _).drew⟩
end Go.Proofs.YtdmoadfnogdfnaaGreatDoor
namespace Go.Proofs.YtdmoadfnogdfnaaGreatDoor
open Go.RowKit
attribute [local irreducible] lo hs sm s64 c64 d64 b64 mh ml pd pc qd qc val hiB str cmpI srD lz
theorem addP0 (g gy c cy f K n : Nat) (D Y : List Nat) (hK : D.length = K) (hn : Y.length = n) (hD : Dig D) (hY : Dig Y) (hf : f < Bs) (hle : n ≤ K) (hl : K ≤ 1099511627776) (hne : gy ≠ g) (w : World) (hdb : DB w g D) (hgy : gy < w.heap.size) (hr : Rd w gy 0 Y) :
  Calls Tryz.prog 174 #[.slice (some ⟨g, 0, none⟩) K c, .slice (some ⟨gy, 0, none⟩) n cy, .int .u64 (f : Int)] w fun e w' =>
   ∃ (carry : Nat) (P : List Nat), e = .returned (.int .u64 (carry : Int)) ∧ MulI D Y f n carry P ∧ DB w' g (P ++ D.drop n) ∧ w.grownBy w' (some g) := by
 subst hK; subst hn
 refine (addProduct_any g gy 0 c cy f [] D [] Y hD hY hf hle hl hne w (by simpa using hdb) hgy hr).mono ?_
 rintro e w' ⟨carry, P, h1, h2, h3, h4⟩
 exact ⟨carry, P, h1, h2, by simpa using h3, h4⟩
theorem takeP0 (g gy c cy f K n : Nat) (D Y : List Nat) (hK : D.length = K) (hn : Y.length = n) (hD : Dig D) (hY : Dig Y) (hf : f < Bs) (hle : n < K) (hl : K ≤ 1099511627776) (hne : gy ≠ g) (w : World) (hdb : DB w g D) (hgy : gy < w.heap.size) (hr : Rd w gy 0 Y) :
  Calls Tryz.prog 220 #[.slice (some ⟨g, 0, none⟩) K c, .slice (some ⟨gy, 0, none⟩) n cy, .int .u64 (f : Int)] w fun e w' =>
   ∃ (b : Bool) (D' : List Nat), e = .returned (.bool b) ∧ (D'.length = K ∧ Dig D' ∧ val D' + f * val Y = val D + if b then Bs ^ K else 0) ∧ DB w' g D' ∧ w.grownBy w' (some g) := by
 subst hK; subst hn
 refine (takeProduct_any g gy 0 c cy f [] D [] Y hD hY hf hle hl hne w (by simpa using hdb) hgy hr).mono ?_
 rintro e w' ⟨b, D', h1, h2, h3, h4⟩
 exact ⟨b, D', h1, h2, by simpa using h3, h4⟩
theorem trim0 (g c K : Nat) (l : List Nat) (hK : l.length = K) (hd : Dig l) (hl : K ≤ maxLen) (hcap : K ≤ c) (w : World) (hdb : DB w g l) :
  Calls Tryz.prog 130 #[.slice (some ⟨g, 0, none⟩) K c] w fun e w' =>
   e = .returned (.slice (some ⟨g, 0, none⟩) (digs (val l)).length c) ∧ w = w' := by
 subst hK
 exact trim_any g 0 c l hd hl hcap w hdb.rd0
/-- The first product, with its carry put at its place. -/
theorem dif_first {K n x a carry : Nat} {P : List Nat} (hn : (digs x).length = n) (hnK : n < K) (h : MulI (List.replicate K 0) (digs x) a n carry P) :
  ((P ++ List.drop n (List.replicate K 0)).set n carry).length = K ∧ Dig ((P ++ List.drop n (List.replicate K 0)).set n carry) ∧ val ((P ++ List.drop n (List.replicate K 0)).set n carry) = a * x := by
 have e : (P ++ List.drop n (List.replicate K 0)).set n carry = P ++ carry :: List.replicate (K - n - 1) 0 := by
  rw [List.set_append_right _ _ (by rw [h.len]; exact Nat.le_refl _), h.len, Nat.sub_self, List.drop_replicate]
  obtain ⟨j, hj⟩ : ∃ j, K - n = j + 1 := ⟨K - n - 1, by omega⟩
  rw [hj, List.replicate_succ, List.set_cons_zero]; rfl
 have he := h.eq
 rw [List.take_replicate, Nat.min_eq_left (Nat.le_of_lt hnK), val_zeros, ← hn, List.take_length, val_digs, Nat.zero_add, hn] at he
 rw [e]
 refine ⟨by simp [h.len]; omega, h.dig.app (Dig.cons h.le (Dig.zeros _)), ?_⟩
 rw [val_append, val_cons, val_zeros, h.len, Nat.mul_zero, Nat.add_zero]; exact he
theorem dif_last {K b y d v : Nat} {D' : List Nat} {c : Bool} (hK : D'.length = K) (hD : Dig D') (h : val D' + b * y = b * y + d + if c then v else 0) (hv : v = Bs ^ K) : val D' = d := by
 have h1 := val_lt hD
 rw [hK, ← hv] at h1
 cases c <;> simp at h <;> omega
set_option maxHeartbeats 2000000 in
set_option maxRecDepth 100000 in
theorem difference_any (gx gy cx cy a b x y d n m : Nat) (X Y : List Nat) (ha : a < Bs) (hb : b < Bs) (hn : (digs x).length = n) (hm : (digs y).length = m) (hnl : n ≤ 1000000000000) (hml : m ≤ 1000000000000)
  (hd : a * x = b * y + d) (w : World) (hdx : DB w gx (digs x ++ X)) (hdy : DB w gy (digs y ++ Y)) :
  Calls Tryz.prog 222 #[.slice (some ⟨gx, 0, none⟩) n cx, .slice (some ⟨gy, 0, none⟩) m cy, .int .u64 (a : Int), .int .u64 (b : Int)] w fun e w' =>
   ∃ g c z, e = .returned (.slice (some ⟨g, 0, none⟩) (digs d).length c) ∧ DB w' g (digs d ++ List.replicate z 0) ∧ (digs d).length ≤ c ∧ w.heap.size ≤ g ∧ Below w.heap.size w w' := by
 obtain ⟨K, hK⟩ : ∃ K, K = max n m + 1 := ⟨_, rfl⟩
 have hmk : (Instr.makeSlice 156 (.int .i64 (K : Int)) (.int .i64 (K : Int))).run Tryz.prog w = .ok (.slice (some ⟨w.heap.size, 0, none⟩) K K) (w.alloc (zobj K)) := make64 w _ K (by omega) (by omega)
 have hmax : max (n : Int) (m : Int) + 1 = (K : Int) := by omega
 have hz := DB.zeros w K
 have hbz : Below w.heap.size w (w.alloc (zobj K)) := (Below.refl _ _).alloc (Nat.le_refl _) _
 have hsz : w.heap.size < (w.alloc (zobj K)).heap.size := by simp
 have hdx0 := hdx.alloc (zobj K)
 have hdy0 := hdy.alloc (zobj K)
 have hgx : gx < w.heap.size := hdx.lt
 have hgy : gy < w.heap.size := hdy.lt
 have HA := Lib.hid (addP0 w.heap.size gx K cx a K n (List.replicate K 0) (digs x) (by simp) hn (Dig.zeros K) (digs_dig x) ha (by omega) (by omega) (by omega) (w.alloc (zobj K)) hz (by omega) hdx0.rdl)
 clear hdx hdx0 hz
 generalize hW : w.alloc (zobj K) = W1 at *
 have HB := fun D hD => takeP0 w.heap.size gy K cy b K m D (digs y) hD hm
 have HT := fun D hD => trim0 w.heap.size K K D hD
 replace HB := Lib.hid HB
 replace HT := Lib.hid HT
 replace hK := Lib.hid hK
 replace hd := Lib.hid hd
 replace hn := Lib.hid hn
 replace hm := Lib.hid hm
 go_enter Tryz.func222, Tryz.ntmps222
 go_wp2_with fail
 refine (HA.out).mono ?_
 rintro e w2 ⟨carry, P, rfl, hP, hdP, hg2⟩
 have hcb := hP.le
 have hPl := hP.len
 have hKn := hK.out
 have hset := hdP.set n (by simp [hPl]; omega) carry
 have hcell := hdP.cell n (by simp [hPl]; omega)
 have hfz := hdP.frozen n
 generalize hU : w2.setCell ⟨w.heap.size, n, none⟩ (.int .u64 (carry : Int)) = W3 at *
 have hnK : n < K := by omega
 clear hKn
 obtain ⟨q1, q2, q3⟩ := dif_first hn.out hnK hP
 generalize (P ++ List.drop n (List.replicate K 0)).set n carry = D3 at *
 have hg3 : W1.grownBy W3 (some w.heap.size) := by rw [← hU]; exact grown_trans hg2 (grown_set _ _ _ _)
 have hB3 := hbz.trans (grown_below hg3 (Nat.le_refl _) (Nat.le_of_lt hsz))
 have hdy3 := hdy.below hB3 hgy
 have HB3 := Lib.hid (HB.out D3 q1 q2 (digs_dig y) hb (by have := hK.out; omega) (by omega) (by omega) W3 hset hdy3.lt hdy3.rdl)
 have hB3 := Lib.hid hB3
 have hs3 : w.heap.size < W3.heap.size := hset.lt
 go_wp2_with fail
 refine (HB3.out).mono ?_
 rintro e w4 ⟨c, D4, rfl, ⟨h1, h2, h3⟩, hd4, hg4⟩
 rw [q3, hd.out, val_digs] at h3
 have hv := dif_last h1 h2 h3 rfl
 have HT4 := Lib.hid (HT.out D4 h1 h2 (by unfold maxLen; omega) (Nat.le_refl _) w4 hd4)
 rw [hv] at HT4
 clear hW hU HB HT HB3 hg2 hg3 h3 hcell hfz hP hdP
 go_wp2_with fail
 refine (HT4.out).mono ?_
 rintro e w5 ⟨rfl, rfl⟩
 go_wp2_with fail
 go_ret
 obtain ⟨z, hz⟩ := norm D4 h2
 rw [hv] at hz
 refine ⟨_, _, z, rfl, by rw [← hz]; exact hd4, ?_, Nat.le_refl _, hB3.out.trans (grown_below hg4 (Nat.le_refl _) (Nat.le_of_lt hs3))⟩
 have := congrArg List.length hz
 simp at this; omega
set_option maxHeartbeats 2000000 in
set_option maxRecDepth 100000 in
theorem combine_any (gx gy cx cy x y d n m : Nat) (A B : Int) (X Y : List Nat) (hn : (digs x).length = n) (hm : (digs y).length = m) (hnl : n ≤ 1000000000000) (hml : m ≤ 1000000000000)
  (hA1 : -4611686018427387904 ≤ A) (hA2 : A ≤ 4611686018427387904) (hB1 : -4611686018427387904 ≤ B) (hB2 : B ≤ 4611686018427387904) (hs1 : A ≤ 0 → 0 ≤ B) (hs2 : 0 < A → B ≤ 0)
  (hd : (d : Int) = A * x + B * y) (w : World) (hdx : DB w gx (digs x ++ X)) (hdy : DB w gy (digs y ++ Y)) :
  Calls Tryz.prog 207 #[.slice (some ⟨gx, 0, none⟩) n cx, .slice (some ⟨gy, 0, none⟩) m cy, .agg #[.int .i64 A, .int .i64 B]] w fun e w' =>
   ∃ g c z, e = .returned (.slice (some ⟨g, 0, none⟩) (digs d).length c) ∧ DB w' g (digs d ++ List.replicate z 0) ∧ (digs d).length ≤ c ∧ w.heap.size ≤ g ∧ Below w.heap.size w w' := by
 obtain ⟨w0, hw0, hbx, hbw, hsz⟩ := boxes1 w (.int .i64 A) (.int .i64 B) 235
 obtain ⟨a0, a1, af⟩ := hbx
 have hdx0 := hdx.below hbw hdx.lt
 have hdy0 := hdy.below hbw hdy.lt
 by_cases hA : A ≤ 0
 ·have hB := hs1 hA
  obtain ⟨a, ha⟩ := Int.eq_ofNat_of_zero_le (show 0 ≤ -A by omega)
  obtain ⟨b, hb⟩ := Int.eq_ofNat_of_zero_le hB
  have hsum : b * y = a * x + d := by
   have h1 : A * (x : Int) = -((a * x : Nat) : Int) := by rw [Int.natCast_mul, ← ha, Int.neg_mul, Int.neg_neg]
   have h2 : B * (y : Int) = ((b * y : Nat) : Int) := by rw [Int.natCast_mul, ← hb]
   rw [h1, h2] at hd; omega
  have HD := Lib.hid (difference_any gy gx cy cx b a y x d m n Y X (by unfold Bs; omega) (by unfold Bs; omega) hm hn hml hnl hsum w0 hdy0 hdx0)
  have hA0 : decide (A ≤ 0) = true := decide_eq_true hA
  have r1 : IntKind.i64.wrap (-A) = -A := IntWalk.i64_in _ (by omega)
  have r2 : IntKind.u64.wrap (-A) = (a : Int) := by rw [ha]; exact wrapN _ (by omega)
  have r3 : IntKind.u64.wrap B = (b : Int) := by rw [hb]; exact wrapN _ (by omega)
  clear hdx hdy hdx0 hdy0 hsum hd ha hb hA hB hA1 hA2 hB1 hB2 hs1 hs2
  go_enter Tryz.func207, Tryz.ntmps207
  go_wp2_with fail
  refine (HD.out).mono ?_
  rintro e w1 ⟨g, c, z, rfl, h1, h2, h3, h4⟩
  go_wp2_with fail
  go_ret
  exact ⟨g, c, z, rfl, h1, h2, by omega, hbw.trans (h4.mono (by omega))⟩
 ·have hB := hs2 (by omega)
  obtain ⟨a, ha⟩ := Int.eq_ofNat_of_zero_le (show 0 ≤ A by omega)
  obtain ⟨b, hb⟩ := Int.eq_ofNat_of_zero_le (show 0 ≤ -B by omega)
  have hsum : a * x = b * y + d := by
   have h1 : A * (x : Int) = ((a * x : Nat) : Int) := by rw [Int.natCast_mul, ← ha]
   have h2 : B * (y : Int) = -((b * y : Nat) : Int) := by rw [Int.natCast_mul, ← hb, Int.neg_mul, Int.neg_neg]
   rw [h1, h2] at hd; omega
  have HD := Lib.hid (difference_any gx gy cx cy a b x y d n m X Y (by unfold Bs; omega) (by unfold Bs; omega) hn hm hnl hml hsum w0 hdx0 hdy0)
  have hA0 : decide (A ≤ 0) = false := decide_eq_false hA
  have r1 : IntKind.i64.wrap (-B) = -B := IntWalk.i64_in _ (by omega)
  have r2 : IntKind.u64.wrap (-B) = (b : Int) := by rw [hb]; exact wrapN _ (by omega)
  have r3 : IntKind.u64.wrap A = (a : Int) := by rw [ha]; exact wrapN _ (by omega)
  clear hdx hdy hdx0 hdy0 hsum hd ha hb hB hA1 hA2 hB1 hB2 hs1 hs2
  go_enter Tryz.func207, Tryz.ntmps207
  go_wp2_with fail
  refine (HD.out).mono ?_
  rintro e w1 ⟨g, c, z, rfl, h1, h2, h3, h4⟩
  go_wp2_with fail
  go_ret
  exact ⟨g, c, z, rfl, h1, h2, by omega, hbw.trans (h4.mono (by omega))⟩
theorem digs_big {b : Nat} (h : 2 ≤ (digs b).length) : ¬ b < Bs := fun hb => by
 have := digs_length_iff (n := b) (k := 1)
 rw [Nat.pow_one] at this
 have := this.2 hb; omega
theorem sgn1 {A B : Int} {X x y : Nat} (hy : 0 < y) (hX : (X : Int) = A * x + B * y) {s : Int} (hs : s = 1 ∨ s = -1) (h1 : 0 ≤ s * A) (h2 : s * B ≤ 0) : (A ≤ 0 → 0 ≤ B) ∧ (0 < A → B ≤ 0) := by
 rcases hs with e | e <;> subst e
 ·constructor
  ·intro hA
   have h0 : A = 0 := by omega
   rw [h0, Int.zero_mul, Int.zero_add] at hX
   rcases Int.lt_or_le B 0 with hB | hB
   ·have : B * (y : Int) < 0 := Int.mul_neg_of_neg_of_pos hB (by omega)
    omega
   ·exact hB
  ·intro _; omega
 ·constructor
  ·intro _; omega
  ·intro _; omega
set_option maxHeartbeats 2000000 in
set_option maxRecDepth 100000 in
theorem descend_any (gx gy cx cy x y n m : Nat) (X Y : List Nat) (hn : (digs x).length = n) (hm : (digs y).length = m) (hnl : n ≤ 1000000000000) (hm2 : 2 ≤ m) (hyx : y ≤ x) (hcy : m ≤ cy) (w : World) (hdx : DB w gx (digs x ++ X)) (hdy : DB w gy (digs y ++ Y)) :
  Calls Tryz.prog 176 #[.slice (some ⟨gx, 0, none⟩) n cx, .slice (some ⟨gy, 0, none⟩) m cy] w fun e w' =>
   ∃ (x' y' gX cX gY cY : Nat) (ZX ZY : List Nat), e = .returned (.tuple #[.slice (some ⟨gX, 0, none⟩) (digs x').length cX, .slice (some ⟨gY, 0, none⟩) (digs y').length cY]) ∧
    DB w' gX (digs x' ++ ZX) ∧ DB w' gY (digs y' ++ ZY) ∧ (digs x').length ≤ cX ∧ (digs y').length ≤ cY ∧ Nat.gcd x' y' = Nat.gcd x y ∧ y' ≤ x' ∧ y' < y ∧ x' ≤ y ∧ gX ≠ gY ∧ (gX = gy ∨ w.heap.size ≤ gX) ∧ w.heap.size ≤ gY ∧ Below w.heap.size w w' := by
 have hml : m ≤ 1000000000000 := by rw [← hm]; exact Nat.le_trans (digs_mono hyx) (by omega)
 have hyB : ¬ y < Bs := digs_big (by omega)
 have hy0 : 0 < y := by unfold Bs at hyB; omega
 have HC := Lib.hid (certain_any gx gy cx cy x y n m X Y hm hm2 hn hyx hnl w hdx hdy)
 have HDV := fun w h1 h2 => divW gx gy cx cy x y X Y hyB hyx (by omega) w h1 h2
 rw [hn, hm] at HDV
 replace HDV := Lib.hid HDV
 have HCO := fun A B d w h1 h2 h3 h4 h5 h6 h7 h8 h9 => combine_any gx gy cx cy x y d n m A B X Y hn hm hnl hml h1 h2 h3 h4 h5 h6 h7 w h8 h9
 replace HCO := Lib.hid HCO
 go_enter Tryz.func176, Tryz.ntmps176
 go_wp2_with fail
 refine (HC.out).mono ?_
 rintro e w1 ⟨A, B, C, D, p, q, p0, q0, rfl, hCS, hp0, hb1⟩
 obtain ⟨w2, hw2, hA, hB, hb2, hsz⟩ := boxes2 w1 (.int .i64 0) (.int .i64 0) (.int .i64 0) (.int .i64 0) 235
 have hp4 := put4 hA hB (.int .i64 A) (.int .i64 B) (.int .i64 C) (.int .i64 D)
 obtain ⟨a0, a1, af⟩ := id hA
 obtain ⟨b0, b1, bf⟩ := id hB
 have hb3 : Below w1.heap.size w1 ((((w2.setCell ⟨w1.heap.size, 0, none⟩ (.int .i64 A)).setCell ⟨w1.heap.size, 1, none⟩ (.int .i64 B)).setCell ⟨w1.heap.size + 1, 0, none⟩ (.int .i64 C)).setCell ⟨w1.heap.size + 1, 1, none⟩ (.int .i64 D)) :=
  (((hb2.setCell (by simp) _).setCell (by simp) _).setCell (by simp) _).setCell (by simp) _
 have hsz3 : w1.heap.size + 2 ≤ ((((w2.setCell ⟨w1.heap.size, 0, none⟩ (.int .i64 A)).setCell ⟨w1.heap.size, 1, none⟩ (.int .i64 B)).setCell ⟨w1.heap.size + 1, 0, none⟩ (.int .i64 C)).setCell ⟨w1.heap.size + 1, 1, none⟩ (.int .i64 D)).heap.size := by simpa using hsz
 generalize hw3 : ((((w2.setCell ⟨w1.heap.size, 0, none⟩ (.int .i64 A)).setCell ⟨w1.heap.size, 1, none⟩ (.int .i64 B)).setCell ⟨w1.heap.size + 1, 0, none⟩ (.int .i64 C)).setCell ⟨w1.heap.size + 1, 1, none⟩ (.int .i64 D)) = w3 at *
 obtain ⟨h3A, h3B⟩ := hp4
 obtain ⟨c0, c1, cf⟩ := id h3A
 obtain ⟨d0, d1, df⟩ := id h3B
 have hB3 := hb1.trans (hb3.mono hb1.size)
 have hdx3 := Lib.hid (hdx.below hB3 hdx.lt)
 have hdy3 := Lib.hid (hdy.below hB3 hdy.lt)
 have hbd := Lib.hid hCS.bounds
 obtain ⟨⟨s, hL⟩, ⟨X1, Y1, hT⟩, -, -⟩ := hCS
 have hs := hbd.out
 have s1 := sgn1 hy0 hT.hX hL.hs hL.hA hL.hB
 have s2 : (C ≤ 0 → 0 ≤ D) ∧ (0 < C → D ≤ 0) := sgn1 hy0 hT.hY (s := -s) (by have := hL.hs; omega) (by have := hL.hC; rw [Int.neg_mul]; omega) (by have := hL.hD; rw [Int.neg_mul]; omega)
 have HC1 := Lib.hid (fun w => HCO.out A B X1 w (by omega) (by omega) (by omega) (by omega) s1.1 s1.2 hT.hX)
 have HC2 := Lib.hid (fun w => HCO.out C D Y1 w (by omega) (by omega) (by omega) (by omega) s2.1 s2.2 hT.hY)
 have HT := Lib.hid hT
 clear hs s1 s2 hbd hL hT hp0 hA hB HC HCO
 by_cases hB0 : B = 0
 ·have hB1 : (B == 0) = true := by rw [hB0]; rfl
  clear hB0
  go_wp2_with fail
  refine (HDV.out _ hdx3.out hdy3.out).mono ?_
  rintro e w4 ⟨gq, cq, zq, gr, cr, zr, rfl, hdq, hdr, hqr, hgq, hgr, hcq, hcr, hb4⟩
  have hdy4 := Lib.hid (hdy3.out.below hb4 hdy3.out.lt)
  have hB4 := Lib.hid (hB3.trans (hb4.mono hB3.size))
  clear HDV HC1 HC2 a0 a1 af b0 b1 bf c0 c1 cf d0 d1 df h3A h3B hw2 hw3
  go_wp2_with fail
  go_ret2
  exact ⟨y, x % y, gy, cy, gr, cr, Y, List.replicate zr 0, by rw [hm]; rfl, hdy4.out, hdr, by omega, hcr, by rw [Nat.gcd_comm y, ← Nat.gcd_rec, Nat.gcd_comm], Nat.le_of_lt (Nat.mod_lt _ hy0), Nat.mod_lt _ hy0, Nat.le_refl _, by have := hdy3.out.lt; omega, .inl rfl, by have := hB3.size; omega, hB4.out⟩
 ·have hB1 : (B == 0) = false := beq_eq_false_iff_ne.2 hB0
  go_wp2_with fail
  go_region_held3 (fun w' => w'.cell? ⟨w1.heap.size, 0, none⟩ = some (.int .i64 A) ∧ w'.cell? ⟨w1.heap.size, 1, none⟩ = some (.int .i64 B) ∧ w'.cell? ⟨w1.heap.size + 1, 0, none⟩ = some (.int .i64 C) ∧ w'.cell? ⟨w1.heap.size + 1, 1, none⟩ = some (.int .i64 D))
   (first | with_reducible exact ⟨c0, c1, d0, d1⟩ | with_reducible exact ⟨c0', c1', d0', d1'⟩ | with_reducible exact ⟨c0'', c1'', d0'', d1''⟩ | exact ⟨c0, c1, d0, d1⟩)
   (first
    | (go_at_call 207; ((with_reducible refine Calls.mono (HC1.out _ (hdx3.out.keep rfl) (hdy3.out.keep rfl)) ?_); rintro e w4 ⟨g1, k1, z1, rfl, hd1, hk1, hg1, hb4⟩; have hb34 := (Below.refl w3.heap.size w3).drew.trans hb4; obtain ⟨c0', c1', cf'⟩ := h3A.below hb34 (by omega); obtain ⟨d0', d1', df'⟩ := h3B.below hb34 (by omega)))
    | (go_at_call 207; ((with_reducible refine Calls.mono (HC2.out _ (hdx3.out.below hb34 hdx3.out.lt) (hdy3.out.below hb34 hdy3.out.lt)) ?_); rintro e w5 ⟨g2, k2, z2, rfl, hd2, hk2, hg2, hb5⟩; have hb35 := hb34.trans (hb5.mono hb34.size); obtain ⟨c0'', c1'', cf''⟩ := h3A.below hb35 (by omega); obtain ⟨d0'', d1'', df''⟩ := h3B.below hb35 (by omega))))
  go_wp2_with fail
  go_ret2
  have h5 := HT.out.prog
  have h6 : B ≠ 0 ∧ X1 ≤ y ∧ Y1 < X1 := by
   rcases h5 with h5 | h5
   ·exact absurd h5.2.1 hB0
   ·exact h5
  exact ⟨X1, Y1, g1, k1, g2, k2, List.replicate z1 0, List.replicate z2 0, rfl, hd1.below hb5 hd1.lt, hd2, hk1, hk2, HT.out.gcd, HT.out.le, by omega, h6.2.1, by have := hd1.lt; omega, .inr (Nat.le_trans hB3.size hg1), Nat.le_trans (Nat.le_trans hB3.size hb34.size) hg2, hB3.trans (hb35.mono hB3.size)⟩
end Go.Proofs.YtdmoadfnogdfnaaGreatDoor
namespace Go.Proofs.YtdmoadfnogdfnaaGreatDoor
open Go.RowKit
attribute [local irreducible] lo hs sm s64 c64 d64 b64 mh ml pd pc qd qc val hiB str cmpI srD lz
set_option maxHeartbeats 2000000 in
set_option maxRecDepth 100000 in
theorem gcdDigits_any (a b : Nat) (ha : a < Bs) (hb : b < Bs) (w : World) :
  Calls Tryz.prog 175 #[.int .u64 (a : Int), .int .u64 (b : Int)] w fun e w' =>
   e = .returned (.int .u64 ((Nat.gcd a b : Nat) : Int)) ∧ Below w.heap.size w w' := by
 go_enter Tryz.func175, Tryz.ntmps175
 go_wp2
 go_loopw [0, 1] (fun z0 z1 wr => ∃ x y : Nat, z0 = .int .u64 x ∧ z1 = .int .u64 y ∧ x < Bs ∧ y < Bs ∧ Nat.gcd x y = Nat.gcd a b ∧ Below w.heap.size w wr) (fun _ z1 _ => (intOf z1).toNat)
 case atStart => exact ⟨a, b, rfl, rfl, ha, hb, rfl, Below.refl _ _⟩
 case round =>
  obtain ⟨x, y, rfl, rfl, hx, hy, hg, hbw⟩ := hrel
  by_cases hy0 : y = 0
  ·subst hy0
   rw [Nat.gcd_zero_right] at hg
   subst hg
   clear hx hy ha hb
   go_wp2
   go_ret
   exact ⟨rfl, hbw⟩
  ·have h1 : ((y : Int) != 0) = true := bne_iff_ne.2 (by omega)
   have htm : (x : Int).tmod (y : Int) = ((x % y : Nat) : Int) := by rw [Int.tmod_eq_emod_of_nonneg (by omega), Int.natCast_emod]
   have hlt : x % y < y := Nat.mod_lt _ (by omega)
   have hgc : Nat.gcd y (x % y) = Nat.gcd a b := by rw [← hg, Nat.gcd_comm y, ← Nat.gcd_rec, Nat.gcd_comm]
   generalize hm : x % y = m at *
   have hwm : IntKind.u64.wrap (m : Int) = (m : Int) := wrapN _ (by unfold Bs at hy; omega)
   have HL := Lib.hid hlt
   have HY := Lib.hid hy
   clear hlt hx hg ha hb hm hy
   go_wp2
   go_region
   all_goals go_wp2
   all_goals go_roundw
   case rel => exact ⟨y, m, rfl, rfl, HY.out, Nat.lt_trans HL.out HY.out, hgc, hbw.drew⟩
   case measure => have := HL.out; simp [intOf]; omega
/-- The number that a slice's cells hold. -/
def rdv (z : Value) (w : World) : Nat := match z with
 | .slice (some ⟨g, _, _⟩) n _ => val ((List.range n).map fun i => match w.cell? ⟨g, i, none⟩ with | some (.int _ d) => d.toNat | _ => 0)
 | _ => 0
theorem rdv_eq {w : World} {g c y : Nat} {Z : List Nat} (h : DB w g (digs y ++ Z)) : rdv (.slice (some ⟨g, 0, none⟩) (digs y).length c) w = y := by
 unfold rdv
 simp only
 rw [show (List.range (digs y).length).map (fun i => match w.cell? ⟨g, i, none⟩ with | some (.int _ d) => d.toNat | _ => 0) = digs y from ?_, val_digs]
 apply List.ext_getElem (by simp)
 intro i h1 h2
 have h3 := h.rdl i h2
 rw [Nat.zero_add] at h3
 simp [h3]
theorem boxes3 (w : World) (A1 A2 B1 B2 C1 C2 : Value) (t : TypeId) : ∃ w0, (((w.alloc (.cells #[A1, A2] t)).alloc (.cells #[B1, B2] t)).alloc (.cells #[C1, C2] t)) = w0 ∧
  Bx w0 w.heap.size A1 A2 ∧ Bx w0 (w.heap.size + 1) B1 B2 ∧ Bx w0 (w.heap.size + 2) C1 C2 ∧ Below w.heap.size w w0 ∧ w.heap.size + 3 ≤ w0.heap.size :=
 ⟨_, rfl, Bx.of _ _ _ _ _ (al3_1 w _ _ _), Bx.of _ _ _ _ _ (al3_2 w _ _ _), Bx.of _ _ _ _ _ (al3 w _ _ _), below3 w _ _ _, by simp⟩
theorem B3.swap {w : World} {k a b : Nat} (h : B3 w k a b) (h' : ((((w.setCell ⟨k, 0, none⟩ (.int .u64 ((lo b : Nat) : Int))).setCell ⟨k, 1, none⟩ (.string (hs b))).setCell ⟨k + 1, 0, none⟩ (.int .u64 ((lo a : Nat) : Int))).setCell ⟨k + 1, 1, none⟩ (.string (hs a))).heap.size = w.heap.size) :
  B3 ((((w.setCell ⟨k, 0, none⟩ (.int .u64 ((lo b : Nat) : Int))).setCell ⟨k, 1, none⟩ (.string (hs b))).setCell ⟨k + 1, 0, none⟩ (.int .u64 ((lo a : Nat) : Int))).setCell ⟨k + 1, 1, none⟩ (.string (hs a))) k b a := by
 have hp := put4 h.A h.B (.int .u64 ((lo b : Nat) : Int)) (.string (hs b)) (.int .u64 ((lo a : Nat) : Int)) (.string (hs a))
 refine ⟨hp.1, hp.2, ?_, by rw [h']; exact h.sz⟩
 obtain ⟨c0, c1, cf⟩ := h.C
 refine ⟨?_, ?_, fun j => ?_⟩ <;> simp [go_sem, c0, c1, cf]
set_option maxHeartbeats 2000000 in
set_option maxRecDepth 100000 in
theorem gcd_any (a b : Nat) (ha : (digs a).length ≤ 1000000000000) (hb : (digs b).length ≤ 1000000000000) (w : World) :
  Calls Tryz.prog 109 #[natV a, natV b] w fun e w' => e = .returned (natV (Nat.gcd a b)) ∧ Below w.heap.size w w' := by
 obtain ⟨w0, hw0, hA, hB, hC, hbw, hsz⟩ := boxes3 w (.int .u64 ((lo a : Nat) : Int)) (.string (hs a)) (.int .u64 ((lo b : Nat) : Int)) (.string (hs b)) (.int .u64 0) (.string ⟨#[]⟩) 32
 have H0 : B3 w0 w.heap.size a b := ⟨hA, hB, hC, hsz⟩
 clear hA hB hC hsz
 have HC := Lib.hid (fun w => cmp_any a b w)
 obtain ⟨⟨a0, a1, af⟩, ⟨b0, b1, bf⟩, -⟩ := id H0
 go_enter Tryz.func109, Tryz.ntmps109
 go_wp2_with fail
 refine (HC.out _).mono ?_
 rintro e w1 ⟨rfl, hb1⟩
 have H1 := H0.below hb1
 have hB1 := H0.step hbw hb1
 clear a0 a1 af b0 b1 bf HC H0 hb1 hbw hw0
 go_upto_if 10 with fail
 go_cut [] from 11 to 12 (fun wx => ∃ x y : Nat, ((x = a ∧ y = b) ∨ (x = b ∧ y = a)) ∧ y ≤ x ∧ B3 wx w.heap.size x y ∧ Below w.heap.size w wx)
 case first =>
  obtain ⟨⟨a0, a1, af⟩, ⟨b0, b1, bf⟩, -⟩ := id H1
  rcases Nat.lt_or_ge a b with hab | hab
  ·have hcm : cmpI a b < 0 := by rw [cmpI_lt hab]; decide
   go_wp2_with fail
   go_meet
   exact ⟨b, a, .inr ⟨rfl, rfl⟩, Nat.le_of_lt hab, H1.swap (by simp), (((hB1.setCell (by simp) _).setCell (by simp) _).setCell (by simp) _).setCell (by simp) _⟩
  ·have hcm : ¬ cmpI a b < 0 := of_decide_eq_false (cmpI_ge hab)
   go_wp2_with fail
   go_meet
   exact ⟨a, b, .inl ⟨rfl, rfl⟩, hab, H1, hB1⟩
 case rest =>
  clear H1 hB1
  obtain ⟨x, y, hxy, hyx, H1, hB1⟩ := hcut
  have hlx : (digs x).length ≤ 1000000000000 := by rcases hxy with ⟨rfl, rfl⟩ | ⟨rfl, rfl⟩ <;> assumption
  have hg : Nat.gcd x y = Nat.gcd a b := by
   rcases hxy with ⟨rfl, rfl⟩ | ⟨rfl, rfl⟩
   ·rfl
   ·exact Nat.gcd_comm _ _
  have HGC := Lib.hid (congrArg (fun n => Ending.returned (natV n)) hg)
  clear ha hb hg hxy
  have HS := Lib.hid (fun w => small_any x w)
  obtain ⟨⟨a0, a1, af⟩, ⟨b0, b1, bf⟩, -⟩ := id H1
  by_cases hsx : x < Bs
  ·have hs1 : sm x = true := by unfold sm; exact decide_eq_true hsx
   have hsy : y < Bs := Nat.lt_of_le_of_lt hyx hsx
   have hgB : Nat.gcd x y < Bs := by
    rcases Nat.eq_zero_or_pos y with h | h
    ·rw [h, Nat.gcd_zero_right]; exact hsx
    ·exact Nat.lt_of_le_of_lt (Nat.gcd_le_right x h) hsy
   go_wp2_with fail
   refine (HS.out _).mono ?_
   rintro e w2 ⟨rfl, hb2⟩
   have H2 := H1.below hb2
   have hB2 := H1.step hB1 hb2
   have HG := gcdDigits_any x y hsx hsy
   have HO := of_any (Nat.gcd x y) hgB
   replace HG := Lib.hid HG
   replace HO := Lib.hid HO
   clear a0 a1 af b0 b1 bf HS H1 hb2 hB1
   obtain ⟨⟨a0, a1, af⟩, ⟨b0, b1, bf⟩, -⟩ := id H2
   rw [lo_small hsx] at a0
   rw [lo_small hsy] at b0
   clear hsx hsy hgB
   go_wp2_with fail
   refine (HG.out _).mono ?_
   rintro e w3 ⟨rfl, hb3⟩
   have H3 := H2.below hb3
   have hB3 := H2.step hB2 hb3
   clear a0 a1 af b0 b1 bf HG H2 hb3 hB2
   go_wp2_with fail
   refine (HO.out _).mono ?_
   rintro e w4 ⟨rfl, hb4⟩
   have H4 := H3.below hb4
   have hB4 := H3.step hB3 hb4
   obtain ⟨-, -, ⟨c0, c1, cf⟩, hsz⟩ := id H4
   clear HO H3 hb4 hB3
   go_wp2_with fail
   exact bodyPost_ret (v := natV (Nat.gcd x y)) (by simp [results, Tryz.results109, go_sem, c0, c1]) rfl ⟨HGC.out, (hB4.setCell (by simp <;> omega) _).setCell (by simp <;> omega) _⟩
  ·have hs1 : sm x = false := by unfold sm; exact decide_eq_false hsx
   go_wp2_with fail
   refine (HS.out _).mono ?_
   rintro e w2 ⟨rfl, hb2⟩
   have H2 := H1.below hb2
   have hB2 := H1.step hB1 hb2
   clear a0 a1 af b0 b1 bf HS H1 hb2 hB1
   obtain ⟨⟨a0, a1, af⟩, ⟨b0, b1, bf⟩, -⟩ := id H2
   go_wp2_with fail
   have HDa := Lib.hid (fun w => digits_any x (by omega) w)
   have HDb := Lib.hid (fun w => digits_any y (by have := digs_mono hyx; omega) w)
   go_region_held3 (fun w' => w'.cell? ⟨w.heap.size, 0, none⟩ = some (.int .u64 ((lo x : Nat) : Int)) ∧ w'.cell? ⟨w.heap.size, 1, none⟩ = some (.string (hs x)) ∧ w'.cell? ⟨w.heap.size + 1, 0, none⟩ = some (.int .u64 ((lo y : Nat) : Int)) ∧ w'.cell? ⟨w.heap.size + 1, 1, none⟩ = some (.string (hs y)))
    (first | with_reducible exact ⟨a0, a1, b0, b1⟩ | with_reducible exact ⟨a0', a1', b0', b1'⟩ | with_reducible exact ⟨a0'', a1'', b0'', b1''⟩ | exact ⟨a0, a1, b0, b1⟩)
    (first
     | (go_at_call 129; ((with_reducible refine Calls.mono (HDa.out _) ?_); rintro e w3 ⟨gx, cx, zx, rfl, hcx, hgx, hdx, hb3⟩; have H3 := H2.below ((Below.refl w2.heap.size w2).drew.trans hb3); obtain ⟨⟨a0', a1', af'⟩, ⟨b0', b1', bf'⟩, -⟩ := id H3))
     | (go_at_call 129; ((with_reducible refine Calls.mono (HDb.out _) ?_); rintro e w4 ⟨gy, cy, zy, rfl, hcy, hgy, hdy, hb4⟩; have H4 := H3.below hb4; obtain ⟨⟨a0'', a1'', af''⟩, ⟨b0'', b1'', bf''⟩, -⟩ := id H4)))
   have hB4 := H3.step (H2.step hB2 ((Below.refl w2.heap.size w2).drew.trans hb3)) hb4
   have hdx4 := hdx.below hb4 hdx.lt
   have hne : gx ≠ gy := by have := hdx.lt; omega
   have hsz4 := H2.sz
   have hsz5 := H3.sz
   clear a0 a1 af b0 b1 bf a0' a1' af' b0' b1' bf' a0'' a1'' af'' b0'' b1'' bf'' HDa HDb H2 H3 hB2 hb3 hb4 hdx
   go_wp2_with fail
   go_loopw [5, 6] (fun z5 z6 wr => ∃ (x' y' gX cX gY cY : Nat) (ZX ZY : List Nat), z5 = .slice (some ⟨gX, 0, none⟩) (digs x').length cX ∧ z6 = .slice (some ⟨gY, 0, none⟩) (digs y').length cY ∧
    DB wr gX (digs x' ++ ZX) ∧ DB wr gY (digs y' ++ ZY) ∧ (digs x').length ≤ cX ∧ (digs y').length ≤ cY ∧ Nat.gcd x' y' = Nat.gcd x y ∧ y' ≤ x' ∧ (digs x').length ≤ 1000000000000 ∧ gX ≠ gY ∧ w.heap.size + 3 ≤ gX ∧ w.heap.size + 3 ≤ gY ∧ B3 wr w.heap.size x y ∧ Below w.heap.size w wr) (fun _ z6 wr => rdv z6 wr)
   case atStart => exact ⟨x, y, gx, cx, gy, cy, _, _, rfl, rfl, hdx4, hdy, hcx, hcy, rfl, hyx, hlx, hne, by have := hsz4; simp at hgx; omega, by omega, H4, hB4⟩
   case round =>
    obtain ⟨x', y', gX, cX, gY, cY, ZX, ZY, rfl, rfl, hX, hY, hcX, hcY, hg, hle, hl, hne', hgX, hgY, H5, hB5⟩ := hrel
    clear hdx4 hdy hcx hcy hne H4 hB4 hgx hgy hsz4 hsz5 hlx hyx
    obtain ⟨m, hm⟩ : ∃ m, (digs y').length = m := ⟨_, rfl⟩
    obtain ⟨n, hn⟩ : ∃ n, (digs x').length = n := ⟨_, rfl⟩
    have hmv := rdv_eq (c := cY) hY
    rw [hm] at hmv hcY ⊢
    rw [hn] at hcX hl ⊢
    rcases Nat.lt_or_ge 1 m with hm1 | hm1
    ·have HD := Lib.hid (descend_any gX gY cX cY x' y' n m ZX ZY hn hm hl hm1 hle hcY wr hX hY)
     go_wp2_with fail
     refine (HD.out).mono ?_
     rintro e w6 ⟨x2, y2, gX2, cX2, gY2, cY2, ZX2, ZY2, rfl, r1, r2, r3, r4, r5, r6, r7, r8, r9, r10, r11, hb6⟩
     have H6 := H5.below hb6
     have hB6 := H5.step hB5 hb6
     have hl2 : (digs x2).length ≤ 1000000000000 := Nat.le_trans (digs_mono (Nat.le_trans r8 hle)) (by omega)
     have hsz5 := H5.sz
     go_wp2_with fail
     go_roundw
     case rel => exact ⟨x2, y2, gX2, cX2, gY2, cY2, ZX2, ZY2, rfl, rfl, r1, r2, r3, r4, r5.trans hg, r6, hl2, r9, by omega, by omega, H6, hB6⟩
     case measure => rw [hmv, rdv_eq r2]; exact r7
    ·have hd1 : decide (1 < m) = false := by rw [decide_eq_false_iff_not]; omega
     rcases Nat.eq_zero_or_pos m with hm0 | hm0
     ·subst hm0
      have hy0 : y' = 0 := digs_eq_nil.1 (List.length_eq_zero_iff.1 hm)
      have HP := Lib.hid (packQ gX cX n x' (digs x') ZX hn (digs_dig x') (val_digs x') (by omega) hcX wr hX)
      have hgx : x' = Nat.gcd x y := by rw [← hg, hy0, Nat.gcd_zero_right]
      have HE := Lib.hid ((congrArg (fun n => Ending.returned (natV n)) hgx).trans HGC.out)
      clear hmv hm hn hX hY hg hgx hle hl hy0
      go_wp2_with fail
      refine (HP.out).mono ?_
      rintro e w6 ⟨rfl, hb6⟩
      have H6 := H5.below hb6
      have hB6 := H5.step hB5 hb6
      obtain ⟨-, -, ⟨c0, c1, cf⟩, hsz⟩ := id H6
      go_wp2_with fail
      exact bodyPost_ret (v := natV x') (by simp [results, Tryz.results109, go_sem, c0, c1]) rfl ⟨HE.out, (hB6.setCell (by simp <;> omega) _).setCell (by simp <;> omega) _⟩
     ·have hm2 : m = 1 := by omega
      subst hm2
      have hyB : y' < Bs := by have := digs_length_iff.1 (show (digs y').length ≤ 1 by omega); rwa [Nat.pow_one] at this
      have hy0 : 0 < y' := by
       rcases Nat.eq_zero_or_pos y' with h | h
       ·rw [h, digs_zero] at hm; simp at hm
       ·exact h
      have hdy : digs y' = [y'] := by rw [digs_pos (by omega), Nat.mod_eq_of_lt hyB, Nat.div_eq_of_lt hyB, digs_zero]
      have hcell := hY.cell 0 (by rw [hdy]; simp)
      simp only [hdy, List.cons_append, List.getElem_cons_zero] at hcell
      have HDD := fun w h => divD gX cX x' y' ZX hy0 hyB (by omega) w h
      rw [hn] at HDD
      have HGG := fun w => gcdDigits_any y' (x' % y') hyB (Nat.lt_trans (Nat.mod_lt _ hy0) hyB) w
      have hgg : Nat.gcd y' (x' % y') = Nat.gcd x y := by rw [← hg, Nat.gcd_comm y', ← Nat.gcd_rec, Nat.gcd_comm]
      have HO := fun w => of_any (Nat.gcd y' (x' % y')) (Nat.lt_of_le_of_lt (Nat.gcd_le_left _ hy0) hyB) w
      have HE := Lib.hid ((congrArg (fun n => Ending.returned (natV n)) hgg).trans HGC.out)
      generalize Nat.gcd y' (x' % y') = g at *
      generalize x' % y' = r at *
      replace HDD := Lib.hid HDD
      replace HGG := Lib.hid HGG
      replace HO := Lib.hid HO
      have hsz5 := H5.sz
      clear hmv hm hn hg hgg hle hl hyB hy0 hdy
      go_wp2_with fail
      go_region_held3 (fun w' => w'.cell? ⟨gY, 0, none⟩ = some (.int .u64 (y' : Int)))
       (first | with_reducible exact hcell | with_reducible exact hc2 | with_reducible exact hc3 | with_reducible exact hc4 | (simp [go_sem, hc4]; done) | (simp [go_sem, hcell]; done))
       (first
        | (go_at_call 131; ((with_reducible refine Calls.mono (HDD.out _ (hX.keep rfl)) ?_); rintro e w6 ⟨rfl, Q, hQ1, hQ2, hQ3, hdq, hg6⟩; have hb6 := (Below.refl (w.heap.size + 3) wr).drew.trans (grown_below hg6 hgX hsz5); have hc2 := (grown_cell (i := 0) hg6 (Ne.symm hne') hY.lt).trans hcell))
        | (go_at_call 175; ((with_reducible refine Calls.mono (HGG.out _) ?_); rintro e w7 ⟨rfl, hb7⟩; have hc3 := (hb7.cell (p := ⟨gY, 0, none⟩) (Nat.lt_of_lt_of_le hY.lt hb6.size)).trans hc2; have hb67 := hb6.trans (hb7.mono (Nat.le_trans hsz5 hb6.size))))
        | (go_at_call 81; ((with_reducible refine Calls.mono (HO.out _) ?_); rintro e w8 ⟨rfl, hb8⟩; have hc4 := (hb8.cell (p := ⟨gY, 0, none⟩) (Nat.lt_of_lt_of_le hY.lt hb67.size)).trans hc3; have hb68 := hb67.trans (hb8.mono (Nat.le_trans hsz5 hb67.size)); obtain ⟨c0, c1, cf⟩ := H5.C.below hb68 (by omega))))
      go_wp2_with fail
      have hB8 := hB5.trans (hb68.mono (by omega))
      exact bodyPost_ret (v := natV g) (by simp [results, Tryz.results109, go_sem, c0, c1]) rfl ⟨HE.out, (hB8.setCell (by simp <;> omega) _).setCell (by simp <;> omega) _⟩
end Go.Proofs.YtdmoadfnogdfnaaGreatDoor
namespace Go.Proofs.YtdmoadfnogdfnaaGreatDoor
open Go.RowKit
attribute [local irreducible] lo hs sm s64 c64 d64 b64 mh ml pd pc qd qc val hiB str cmpI srD lz
theorem nb_zero : nb 0 = 0 := rfl
theorem nb_of {n k : Nat} (h1 : 2 ^ k ≤ n) (h2 : n < 2 ^ (k + 1)) : nb n = k + 1 := by
 have h0 : n ≠ 0 := by intro h; rw [h] at h1; have := Nat.pow_pos (n := k) (show 0 < 2 by omega); omega
 unfold nb
 rw [if_neg h0, (Nat.log2_eq_iff h0).2 ⟨h1, h2⟩]
theorem nb_spec {n : Nat} (h : n ≠ 0) : ∃ k, nb n = k + 1 ∧ 2 ^ k ≤ n ∧ n < 2 ^ (k + 1) :=
 ⟨n.log2, by unfold nb; rw [if_neg h], Nat.log2_self_le h, Nat.lt_log2_self⟩
theorem nb_lt (n : Nat) : n < 2 ^ nb n := by
 by_cases h : n = 0
 ·subst h; decide
 ·obtain ⟨k, e, _, h2⟩ := nb_spec h
  rw [e]; exact h2
theorem nb_bl {x : Nat} (h : x < Bs) : Lib.bitLen x = nb x := by
 by_cases h0 : x = 0
 ·subst h0; decide
 ·obtain ⟨k, e, h1, h2⟩ := bl_spec x h0 (by rw [← Bs_pow]; exact h)
  rw [e, nb_of h1 h2]
theorem nb_top {n L t : Nat} (ht : t ≠ 0) (h1 : t * Bs ^ L ≤ n) (h2 : n < (t + 1) * Bs ^ L) : nb n = L * 64 + nb t := by
 obtain ⟨k, e, k1, k2⟩ := nb_spec ht
 have hp : Bs ^ L = 2 ^ (L * 64) := by rw [Bs_pow, ← Nat.pow_mul, Nat.mul_comm]
 rw [hp] at h1 h2
 rw [e, ← Nat.add_assoc]
 apply nb_of
 ·rw [Nat.add_comm, Nat.pow_add]; exact Nat.le_trans (Nat.mul_le_mul_right _ k1) h1
 ·rw [show L * 64 + k + 1 = (k + 1) + L * 64 by omega, Nat.pow_add]
  exact Nat.lt_of_lt_of_le h2 (Nat.mul_le_mul_right _ k2)
theorem nb_high (n L : Nat) (hL : (digs (n / Bs)).length = L + 1) : nb n = (L + 1) * 64 + nb ((digs (n / Bs))[L]'(by omega)) := by
 have hm := val_digs (n / Bs)
 rw [← List.take_of_length_le (Nat.le_of_eq hL), take_snoc _ L (by omega)] at hm
 have h0 : digs (n / Bs) ≠ [] := by intro h; rw [h] at hL; simp at hL
 have ht : (digs (n / Bs))[L]'(by omega) ≠ 0 := by
  have := top_digs (n / Bs) h0
  rw [List.getLast_eq_getElem] at this
  simpa [hL] using this
 have hv := val_lt ((digs_dig (n / Bs)).take L)
 rw [List.length_take, Nat.min_eq_left (by omega)] at hv
 generalize (digs (n / Bs))[L]'(by omega) = t at *
 generalize val ((digs (n / Bs)).take L) = v at *
 have hn := Nat.div_add_mod n Bs
 have hlt : n % Bs < Bs := Nat.mod_lt _ Bs_pos
 rw [← hm] at hn
 have e1 : Bs * (v + Bs ^ L * t) = Bs * v + t * Bs ^ (L + 1) := by rw [Nat.mul_add, Nat.pow_succ]; congr 1; rw [← Nat.mul_assoc, Nat.mul_comm, Nat.mul_comm Bs]
 have e2 : Bs * v + Bs ≤ Bs ^ (L + 1) := by
  rw [← Nat.mul_succ, Nat.pow_succ, Nat.mul_comm]; exact Nat.mul_le_mul_right _ hv
 rw [e1] at hn
 apply nb_top ht
 ·omega
 ·rw [Nat.add_mul, Nat.one_mul]; omega
theorem len64 (x : Nat) (h : x < Bs) (w : World) : Calls Tryz.prog 183 #[.int .u64 (x : Int)] w fun e w' => e = .returned (.int .i64 ((nb x : Nat) : Int)) ∧ w = w' := by
 refine (Tryz.bits_Len64 (x : Int) w (by omega) (by unfold Bs at h; omega)).mono fun e w' ⟨he, hw⟩ => ⟨?_, hw.symm⟩
 rw [he, Int.toNat_natCast, nb_bl h]
theorem lenU (x : Nat) (h : x < Bs) (w : World) : Calls Tryz.prog 185 #[.int .u64 (x : Int)] w fun e w' => e = .returned (.int .i64 ((nb x : Nat) : Int)) ∧ w = w' := by
 refine (Tryz.bits_Len (x : Int) w (by omega) (by unfold Bs at h; omega)).mono fun e w' ⟨he, hw⟩ => ⟨?_, hw.symm⟩
 rw [he, Int.toNat_natCast, nb_bl h]
theorem nb_le64 {x : Nat} (h : x < Bs) : nb x ≤ 64 := by
 rw [← nb_bl h]; exact bl_le x (by rw [← Bs_pow]; exact h)
attribute [local irreducible] nb
set_option maxHeartbeats 2000000 in
set_option maxRecDepth 100000 in
theorem bits_any (n : Nat) (hn : (digs n).length ≤ 1099511627776) (w : World) :
  Calls Tryz.prog 114 #[natV n] w fun e w' => e = .returned (.int .i64 ((nb n : Nat) : Int)) ∧ Below w.heap.size w w' := by
 obtain ⟨w0, hw0, hA, hbw, hsz⟩ := boxes1 w (.int .u64 ((lo n : Nat) : Int)) (.string (hs n)) 32
 have HS := Lib.hid (fun w => small_any n w)
 obtain ⟨a0, a1, af⟩ := id hA
 by_cases hb : n < Bs
 ·have hs1 : sm n = true := by unfold sm; exact decide_eq_true hb
  have HL := Lib.hid (fun w => len64 n hb w)
  have hlo := Lib.hid (lo_small hb)
  clear hb
  go_enter Tryz.func114, Tryz.ntmps114
  go_wp2_with fail
  refine (HS.out _).mono ?_
  rintro e w1 ⟨rfl, hb1⟩
  obtain ⟨c0, c1, cf⟩ := hA.below hb1 hsz
  rw [hlo.out] at c0
  clear hlo a0 a1 af
  go_wp2_with fail
  refine (HL.out _).mono ?_
  rintro e w2 ⟨rfl, rfl⟩
  go_wp2_with fail
  go_ret
  exact ⟨rfl, hbw.trans (hb1.mono hbw.size)⟩
 ·have hs1 : sm n = false := by unfold sm; exact decide_eq_false hb
  obtain ⟨L, hL⟩ : ∃ L, (digs (n / Bs)).length = L + 1 := by
   have : digs (n / Bs) ≠ [] := by
    intro h
    have := digs_eq_nil.1 h
    rw [Nat.div_eq_zero_iff] at this
    rcases this with h | h
    ·unfold Bs at h; omega
    ·exact hb h
   exact ⟨(digs (n / Bs)).length - 1, by have := List.length_pos_iff.2 this; omega⟩
  have hLb : L + 1 ≤ 1099511627776 := by rw [← hL]; exact Nat.le_trans (digs_mono (Nat.div_le_self n Bs)) hn
  have hnb := nb_high n L hL
  have htB : (digs (n / Bs))[L]'(by omega) < Bs := (digs_dig _).get L (by omega)
  have hsize : (hs n).size = 8 * (L + 1) := by rw [hs_size, hL]
  have HD := fun w => digitAt_any (hs n) 0 (by omega) (by rw [hsize]; unfold maxLen; omega) w
  rw [hs_piece n 0 (by omega)] at HD
  have hidx : (digs (n / Bs)).length - 1 - 0 = L := by omega
  simp only [hidx] at HD
  rw [hnb]
  generalize (digs (n / Bs))[L]'(by omega) = t at *
  have HL : Hid (∀ w, Calls Tryz.prog 183 #[.int .u64 (t : Int)] w fun e w' => e = .returned (.int .i64 ((nb t : Nat) : Int)) ∧ w' = w) := Lib.hid (fun w => (len64 t htB w).mono fun _ _ h => ⟨h.1, h.2.symm⟩)
  have ht64 := nb_le64 htB
  have HD : Hid (∀ w, Calls Tryz.prog 184 #[.string (hs n), .int .i64 0] w fun e w' => e = .returned (.int .u64 (t : Int)) ∧ ∃ n, w' = w.drewN n) := Lib.hid HD
  clear hnb htB hidx hL hb hn
  obtain ⟨K, hK⟩ : ∃ K, K = L + 1 := ⟨_, rfl⟩
  rw [← hK] at hsize hLb ⊢
  have hdv : ((8 * K : Nat) : Int) / 8 = (K : Int) := by omega
  go_enter Tryz.func114, Tryz.ntmps114
  go_wp2_with fail
  refine (HS.out _).mono ?_
  rintro e w1 ⟨rfl, hb1⟩
  obtain ⟨c0, c1, cf⟩ := hA.below hb1 hsz
  clear a0 a1 af
  go_wp2_with fail
  go_quiet (first | (go_at_call 184; exact Calls.quiet_of (HD.out _)) | (go_at_call 183; exact Calls.quiet_of_same (HL.out _)))
  go_wp2
  go_ret
  refine ⟨congrArg (fun k : Int => Ending.returned (.int .i64 k)) ?_, bdrew (hbw.trans (hb1.mono hbw.size)) nq⟩
  rw [hK]; omega
theorem p2_val (q s : Nat) : val ((List.replicate (q + 1) 0).set q (2 ^ s)) = 2 ^ (64 * q + s) := by
 have e : (List.replicate (q + 1) 0).set q (2 ^ s) = List.replicate q 0 ++ [2 ^ s] := by
  rw [List.replicate_succ', List.set_append_right _ _ (by simp)]
  simp
 rw [e, val_append, val_zeros, List.length_replicate, val_cons, val_nil, Bs_pow, ← Nat.pow_mul, Nat.zero_add, Nat.mul_zero, Nat.add_zero, ← Nat.pow_add]
theorem one_shl (s : Nat) (h : s < 64) : IntKind.u64.wrap ((2 : Int) ^ s) = ((2 ^ s : Nat) : Int) := by
 have := sh_wrap 1 s
 rw [Nat.one_mul, Nat.mod_eq_of_lt (show 2 ^ s < Bs by rw [Bs_pow]; exact Nat.pow_lt_pow_right (by omega) h)] at this
 simpa using this
set_option maxHeartbeats 2000000 in
set_option maxRecDepth 100000 in
theorem powerOfTwo_any (n : Nat) (hn : n ≤ 1099511627776) (w : World) :
  Calls Tryz.prog 181 #[.int .i64 (n : Int)] w fun e w' => e = .returned (natV (2 ^ n)) ∧ Below w.heap.size w w' := by
 obtain ⟨q, hq⟩ : ∃ q, q = n / 64 := ⟨_, rfl⟩
 obtain ⟨s, hs⟩ : ∃ s, s = n % 64 := ⟨_, rfl⟩
 have hns : 64 * q + s = n := by omega
 have hs64 : s < 64 := by omega
 have hdq : (n : Int) / 64 = (q : Int) := by omega
 have hdm : (n : Int).tmod 64 = (s : Int) := by rw [Int.tmod_eq_emod_of_nonneg (by omega)]; omega
 have hm64 : min s 64 = s := by omega
 have hsh := one_shl s hs64
 have hqb : q ≤ 17179869184 := by omega
 obtain ⟨w0, hw0, hA, hbw, hsz⟩ := boxes1 w (.int .u64 0) (.string ⟨#[]⟩) 32
 have hmk : (Instr.makeSlice 156 (.int .i64 ((q : Int) + 1)) (.int .i64 ((q : Int) + 1))).run Tryz.prog w0 = .ok (.slice (some ⟨w0.heap.size, 0, none⟩) (q + 1) (q + 1)) (w0.alloc (zobj (q + 1))) := make64 w0 _ (q + 1) (by omega) (by omega)
 have hz := DB.zeros w0 (q + 1)
 have hcell := hz.cell q (by simp)
 have hfz := hz.frozen q
 rw [List.getElem_replicate] at hcell
 have hset := hz.set q (by simp) (2 ^ s)
 have hbs : 2 ^ s < Bs := by rw [Bs_pow]; exact Nat.pow_lt_pow_right (by omega) hs64
 have HP := fun w h => packQ w0.heap.size (q + 1) (q + 1) (2 ^ n) ((List.replicate (q + 1) 0).set q (2 ^ s)) [] (by simp) ((Dig.zeros _).set q hbs) (by rw [p2_val, hns]) (by omega) (Nat.le_refl _) w h
 rw [List.append_nil] at HP
 replace HP := Lib.hid HP
 have hb1 : Below w.heap.size w (w0.alloc (zobj (q + 1))) := hbw.alloc (Nat.le_of_lt hsz) _
 have hA1 := hA.below ((Below.refl w0.heap.size w0).alloc (Nat.le_refl _) (zobj (q + 1))) hsz
 have hb2 : Below w.heap.size w ((w0.alloc (zobj (q + 1))).setCell ⟨w0.heap.size, q, none⟩ (.int .u64 ((2 ^ s : Nat) : Int))) := hb1.setCell (Nat.le_of_lt hsz) _
 have hA2 : Bx ((w0.alloc (zobj (q + 1))).setCell ⟨w0.heap.size, q, none⟩ (.int .u64 ((2 ^ s : Nat) : Int))) w.heap.size (.int .u64 0) (.string ⟨#[]⟩) :=
  hA.below (((Below.refl w0.heap.size w0).alloc (Nat.le_refl _) (zobj (q + 1))).setCell (Nat.le_refl _) _) hsz
 generalize 2 ^ s = P at *
 generalize hW1 : w0.alloc (zobj (q + 1)) = W1 at *
 generalize hW2 : W1.setCell ⟨w0.heap.size, q, none⟩ (.int .u64 (P : Int)) = W2 at *
 clear hq hs hns hs64 hz hbs
 go_enter Tryz.func181, Tryz.ntmps181
 go_wp2_with fail
 refine (HP.out _ hset).mono ?_
 rintro e w3 ⟨rfl, hb3⟩
 have hs2 : w.heap.size < W2.heap.size := by
  have := hset.lt; omega
 obtain ⟨c0, c1, cf⟩ := hA2.below hb3 hs2
 have hB3 := hb2.trans (hb3.mono (Nat.le_of_lt hs2))
 go_wp2_with fail
 exact bodyPost_ret (v := natV (2 ^ n)) (by simp [results, Tryz.results181, go_sem, c0, c1]) rfl ⟨rfl, (hB3.setCell (by simp) _).setCell (by simp) _⟩
theorem shiftR (g c n a : Nat) (C : List Nat) (hn : n < 64) (hl : (digs a).length ≤ 1000000000000) (w : World) (hdb : DB w g (digs a ++ C)) :
  Calls Tryz.prog 205 #[.slice (some ⟨g, 0, none⟩) (digs a).length c, .int .i64 (n : Int)] w fun e w' =>
   e = .returned (.tuple #[]) ∧ ∃ O : List Nat, (O.length = (digs a).length ∧ Dig O ∧ val O = a / 2 ^ n) ∧ DB w' g (O ++ C) ∧ w.grownBy w' (some g) := by
 have := shiftRight_any g c n (digs a) C (digs_dig a) hn (by omega) w hdb
 rw [val_digs] at this
 exact this
set_option maxHeartbeats 2000000 in
set_option maxRecDepth 100000 in
theorem half_any (r a : Nat) (hr : 0 < r) (hlr : (digs r).length ≤ 500000000000) (hla : (digs a).length ≤ 500000000000) (w : World) :
  Calls Tryz.prog 182 #[natV r, natV a] w fun e w' => e = .returned (natV ((r + a / r) / 2)) ∧ Below w.heap.size w w' := by
 obtain ⟨w0, hw0, hA, hB, hC, hbw, hsz⟩ := boxes3 w (.int .u64 ((lo r : Nat) : Int)) (.string (hs r)) (.int .u64 ((lo a : Nat) : Int)) (.string (hs a)) (.int .u64 0) (.string ⟨#[]⟩) 32
 have H0 : B3 w0 w.heap.size r a := ⟨hA, hB, hC, hsz⟩
 have HD := Lib.hid (fun w => div_pos a r hr (by omega) w)
 have hlq : (digs (a / r)).length ≤ 500000000000 := Nat.le_trans (digs_mono (Nat.div_le_self a r)) hla
 have HA := fun w => add_any r (a / r) (by omega) (by omega) w
 have hls : (digs (r + a / r)).length ≤ 1000000000000 := Nat.le_trans (digs_add_le hlr hlq) (by omega)
 generalize r + a / r = s at *
 generalize hmm : s / 2 = m at *
 replace hmm := Lib.hid hmm
 replace HA := Lib.hid HA
 have HDg := Lib.hid (fun w => digits_any s (by omega) w)
 clear hA hB hC hsz
 obtain ⟨⟨a0, a1, af⟩, ⟨b0, b1, bf⟩, -⟩ := id H0
 go_enter Tryz.func182, Tryz.ntmps182
 go_wp2_with fail
 refine (HD.out _).mono ?_
 rintro e w1 ⟨rfl, hb1⟩
 have H1 := H0.below hb1
 have hB1 := H0.step hbw hb1
 obtain ⟨w2, hw2, hQ, hR, hb2, hsz2⟩ := boxes2 w1 (.int .u64 ((lo (a / r) : Nat) : Int)) (.string (hs (a / r))) (.int .u64 ((lo (a % r) : Nat) : Int)) (.string (hs (a % r))) 32
 have H2 := H1.below hb2
 have hB2 := H1.step hB1 hb2
 clear a0 a1 af b0 b1 bf hb1 hb2 H0 H1 hB1 hbw hw0 HD
 obtain ⟨⟨a0, a1, af⟩, ⟨b0, b1, bf⟩, -⟩ := id H2
 obtain ⟨q0, q1, qf⟩ := hQ
 go_wp2_with fail
 refine (HA.out _).mono ?_
 rintro e w3 ⟨rfl, hb3⟩
 have H3 := H2.below hb3
 have hB3 := H2.step hB2 hb3
 clear a0 a1 af b0 b1 bf q0 q1 qf hw2 hR hb3 H2 hB2 HA
 go_wp2_with fail
 refine (HDg.out _).mono ?_
 rintro e w4 ⟨g, c, z, rfl, hc, hg, hd, hb4⟩
 have H4 := H3.below hb4
 have hB4 := H3.step hB3 hb4
 have hgk : w.heap.size + 3 ≤ g := Nat.le_trans H3.sz hg
 have HSh := shiftR g c 1 s (List.replicate z 0) (by omega) (by omega) w4 hd
 rw [Nat.pow_one] at HSh
 have HP := fun Q h1 h2 h3 => packQ g c (digs s).length m Q (List.replicate z 0) h1 h2 h3 hls hc
 rw [hmm.out] at HSh
 replace HSh := Lib.hid HSh
 replace HP := Lib.hid HP
 clear hb4 H3 hB3 HDg hd
 go_wp2_with fail
 refine (HSh.out).mono ?_
 rintro e w5 ⟨rfl, O, ⟨o1, o2, o3⟩, hd5, hg5⟩
 have hb5 := grown_below hg5 hgk H4.sz
 have hC5 := H4.C.below hb5 (by omega)
 have hB5 := hB4.trans (hb5.mono (by omega))
 have hs5 : w.heap.size + 3 ≤ w5.heap.size := Nat.le_trans H4.sz hb5.size
 clear hb5 hg5 H4 hB4 HSh
 go_wp2_with fail
 refine (HP.out O o1 o2 o3 _ hd5).mono ?_
 rintro e w6 ⟨rfl, hb6⟩
 obtain ⟨c0, c1, cf⟩ := hC5.below hb6 (by omega)
 have hB6 := hB5.trans (hb6.mono (by omega))
 go_wp2_with fail
 exact bodyPost_ret (v := natV m) (by simp [results, Tryz.results182, go_sem, c0, c1]) rfl ⟨rfl, (hB6.setCell (by simp <;> omega) _).setCell (by simp <;> omega) _⟩
end Go.Proofs.YtdmoadfnogdfnaaGreatDoor
namespace Go.Proofs.YtdmoadfnogdfnaaGreatDoor
open Go.RowKit
attribute [local irreducible] lo hs sm s64 c64 d64 b64 mh ml pd pc qd qc val hiB str cmpI srD lz nb isq
/-- The number that a struct in memory holds. -/
def rdn (w : World) (k : Nat) : Nat := match w.cell? ⟨k, 0, none⟩, w.cell? ⟨k, 1, none⟩ with
 | some (.int _ l), some (.string h) => l.toNat + Bs * bval h.toList
 | _, _ => 0
theorem rdn_eq {w : World} {k r : Nat} (h : Bx w k (.int .u64 ((lo r : Nat) : Int)) (.string (hs r))) : rdn w k = r := by
 obtain ⟨h0, h1, -⟩ := h
 unfold rdn
 rw [h0, h1]
 simp only
 rw [hs_toList, bval_hiB, Int.toNat_natCast]
 unfold lo
 exact Nat.mod_add_div r Bs
theorem nb_pow_len {n k : Nat} (hk : n ≤ 64 * k) : (digs (2 ^ n)).length ≤ k + 1 := by
 refine digs_length_iff.2 ?_
 rw [Bs_pow, ← Nat.pow_mul]
 exact Nat.pow_lt_pow_right (by omega) (by omega)
theorem nb_len {a k : Nat} (h : (digs a).length ≤ k) : nb a ≤ 64 * k := by
 by_cases h0 : a = 0
 ·subst h0; rw [nb_zero]; omega
 ·obtain ⟨j, e, h1, h2⟩ := nb_spec h0
  rw [e]
  have h3 := digs_length_iff.1 h
  rw [Bs_pow, ← Nat.pow_mul] at h3
  have := (Nat.pow_lt_pow_iff_right (show 1 < 2 by omega)).1 (Nat.lt_of_le_of_lt h1 h3)
  omega
set_option maxHeartbeats 2000000 in
set_option maxRecDepth 100000 in
theorem sqrt_zero (w : World) : Calls Tryz.prog 113 #[natV 0] w fun e w' => e = .returned (natV (isq 0)) ∧ Below w.heap.size w w' := by
 rw [show isq 0 = 0 from by unfold isq; rfl]
 obtain ⟨w0, hw0, hA, hB, hbw, hsz⟩ := boxes2 w (.int .u64 ((lo 0 : Nat) : Int)) (.string (hs 0)) (.int .u64 0) (.string ⟨#[]⟩) 32
 have H0 : B2 w0 w.heap.size 0 := ⟨hA, hB, hsz⟩
 obtain ⟨a0, a1, af⟩ := id hA
 go_enter Tryz.func113, Tryz.ntmps113
 go_wp2_with fail
 go_region_held3 (fun w' => w'.cell? ⟨w.heap.size, 0, none⟩ = some (.int .u64 ((lo 0 : Nat) : Int)) ∧ w'.cell? ⟨w.heap.size, 1, none⟩ = some (.string (hs 0)))
  (first | exact ⟨a0, a1⟩ | exact ⟨a0', a1'⟩)
  (first
   | (go_at_call 81; ((with_reducible refine Calls.mono (of_zero _) ?_); rintro e w1 ⟨rfl, hb1⟩; obtain ⟨a0', a1', af'⟩ := hA.below ((Below.refl w0.heap.size w0).drew.trans hb1) (by omega))))
 obtain ⟨c0, c1, cf⟩ := hB.below ((Below.refl w0.heap.size w0).drew.trans hb1) (by omega)
 have hB1 := hbw.trans (((Below.refl w0.heap.size w0).drew.trans hb1).mono (by omega))
 go_wp2_with fail
 exact bodyPost_ret (v := natV 0) (by simp [results, Tryz.results113, go_sem, c0, c1]) rfl ⟨rfl, (hB1.setCell (by simp <;> omega) _).setCell (by simp <;> omega) _⟩
set_option maxHeartbeats 2000000 in
set_option maxRecDepth 100000 in
theorem sqrt_pos (a : Nat) (ha : 0 < a) (hla : (digs a).length ≤ 1000000000) (w : World) :
  Calls Tryz.prog 113 #[natV a] w fun e w' => e = .returned (natV (isq a)) ∧ Below w.heap.size w w' := by
 have heq := eq_zero ha
 obtain ⟨w0, hw0, hA, hB, hbw, hsz⟩ := boxes2 w (.int .u64 ((lo a : Nat) : Int)) (.string (hs a)) (.int .u64 0) (.string ⟨#[]⟩) 32
 have H0 : B2 w0 w.heap.size a := ⟨hA, hB, hsz⟩
 have HBt := Lib.hid (fun w => bits_any a (by omega) w)
 have hnbl := nb_len hla
 obtain ⟨m, hm⟩ : ∃ m, m = (nb a + 1) / 2 := ⟨_, rfl⟩
 have HP := Lib.hid (fun w => powerOfTwo_any m (by omega) w)
 have hdiv : ((nb a : Nat) : Int) + 1 = ((nb a + 1 : Nat) : Int) := rfl
 have hmI : (((nb a : Nat) : Int) + 1) / 2 = (m : Int) := by omega
 have hnb : (nb a : Int) ≤ 64000000000 := by omega
 have hr0 : isq a ≤ 2 ^ m := by rw [hm]; exact isq_pow (nb_lt a)
 have hrl : (digs (2 ^ m)).length ≤ 1000000001 := nb_pow_len (by omega)
 have hrp : 0 < 2 ^ m := Nat.pow_pos (by omega)
 generalize hRR : 2 ^ m = R at *
 generalize nb a = n at *
 clear hRR hdiv hnbl hm
 replace hr0 := Lib.hid hr0
 replace hrl := Lib.hid hrl
 replace hrp := Lib.hid hrp
 go_enter Tryz.func113, Tryz.ntmps113
 go_wp2_with fail
 obtain ⟨a0, a1, af⟩ := id hA
 rcases heq with he1 | ⟨he1, he2⟩ <;> (
  go_region_held3 (fun w' => w'.cell? ⟨w.heap.size, 0, none⟩ = some (.int .u64 ((lo a : Nat) : Int)) ∧ w'.cell? ⟨w.heap.size, 1, none⟩ = some (.string (hs a)))
   (first | exact ⟨a0, a1⟩ | exact ⟨a0', a1'⟩)
   (first
    | (go_at_call 81; ((with_reducible refine Calls.mono (of_zero _) ?_); rintro e w1 ⟨rfl, hb1⟩; obtain ⟨a0', a1', af'⟩ := hA.below ((Below.refl w0.heap.size w0).drew.trans hb1) (by omega))))
  have hb01 := (Below.refl w0.heap.size w0).drew.trans hb1
  have H1 := H0.below hb01
  have hB1 := H0.step hbw hb01
  clear a0' a1' af' a0 a1 af hA hB hb01 hb1 H0 hbw hsz hw0
  obtain ⟨⟨a0, a1, af⟩, -⟩ := id H1
  go_wp2_with fail
  refine (HBt.out _).mono ?_
  rintro e w2 ⟨rfl, hb2⟩
  have H2 := H1.below hb2
  have hB2 := H1.step hB1 hb2
  clear a0 a1 af hb2 H1 hB1 HBt
  go_wp2_with fail
  refine (HP.out _).mono ?_
  rintro e w3 ⟨rfl, hb3⟩
  have H3 := H2.below hb3
  have hB3 := H2.step hB2 hb3
  obtain ⟨w4, hw4, hR, hb4, hsz4⟩ := boxes1 w3 (.int .u64 ((lo R : Nat) : Int)) (.string (hs R)) 32
  have H4 := H3.below hb4
  have hB4 := H3.step hB3 hb4
  have hK : w.heap.size + 2 ≤ w3.heap.size := H3.sz
  obtain ⟨k, hk⟩ : ∃ k, k = w3.heap.size := ⟨_, rfl⟩
  clear hb3 H2 hB2 HP hb4
  go_wp2_with fail
  go_loopw [4] (fun _ wr => ∃ r : Nat, isq a ≤ r ∧ 0 < r ∧ (digs r).length ≤ 1000000001 ∧ Bx wr w3.heap.size (.int .u64 ((lo r : Nat) : Int)) (.string (hs r)) ∧ w3.heap.size < wr.heap.size ∧ B2 wr w.heap.size a ∧ Below w.heap.size w wr) (fun _ wr => rdn wr w3.heap.size)
  case atStart => exact ⟨R, hr0.out, hrp.out, hrl.out, hR, hsz4, H4, hB4⟩
  case round =>
   obtain ⟨r, hr1, hr2, hr3, hR, hsz5, H5, hB5⟩ := hrel
   have hmv := rdn_eq hR
   have HH := Lib.hid (fun w => half_any r a hr2 (by omega) (by omega) w)
   obtain ⟨⟨a0, a1, af⟩, -⟩ := id H5
   obtain ⟨r0, r1, rf⟩ := id hR
   clear hw4 H4 hB4 H3 hB3 hsz4
   go_wp2_with fail
   refine (HH.out _).mono ?_
   rintro e w5 ⟨rfl, hb5⟩
   have hx1 := newton_ge a r hr2
   have hx2 : ¬ r ≤ (r + a / r) / 2 → (r + a / r) / 2 < r := fun h => by omega
   have hx3 : isq a < r → (r + a / r) / 2 < r := newton_lt a r
   generalize (r + a / r) / 2 = x at *
   have H5' := H5.below hb5
   have hB5' := H5.step hB5 hb5
   have hR5 := hR.below hb5 hsz5
   have hs55 : w3.heap.size < w5.heap.size := Nat.lt_of_lt_of_le hsz5 hb5.size
   obtain ⟨w6, hw6, hX, hb6, hsz6⟩ := boxes1 w5 (.int .u64 ((lo x : Nat) : Int)) (.string (hs x)) 32
   have H6 := H5'.below hb6
   have hB6 := H5'.step hB5' hb6
   have hR6 := hR5.below hb6 hs55
   have HC := Lib.hid (fun w => cmp_any x r w)
   clear a0 a1 af r0 r1 rf hb5 H5 hB5 hsz5 H5' hB5' hR5 HH hb6 hR
   obtain ⟨r0, r1, rf⟩ := id hR6
   obtain ⟨x0, x1, xf⟩ := id hX
   go_wp2_with fail
   refine (HC.out _).mono ?_
   rintro e w7 ⟨rfl, hb7⟩
   have H7 := H6.below hb7
   have hB7 := H6.step hB6 hb7
   have hR7 := hR6.below hb7 (by omega)
   have hX7 := hX.below hb7 hsz6
   have hs7 : w5.heap.size < w7.heap.size := Nat.lt_of_lt_of_le hsz6 hb7.size
   clear r0 r1 rf x0 x1 xf hw6 H6 hB6 hR6 hX hb7 HC
   obtain ⟨r0, r1, rf⟩ := id hR7
   obtain ⟨x0, x1, xf⟩ := id hX7
   obtain ⟨-, ⟨c0, c1, cf⟩, -⟩ := id H7
   rcases Nat.lt_or_ge x r with hxr | hxr
   ·have hcm : cmpI x r < 0 := by rw [cmpI_lt hxr]; decide
    have hcm0 : decide (0 ≤ cmpI x r) = false := decide_eq_false (by omega)
    have hq0 : 0 < isq a := by
     have := (isq_spec a).2
     rcases Nat.eq_zero_or_pos (isq a) with h | h
     ·rw [h] at this; omega
     ·exact h
    have HL : Hid ((digs x).length ≤ 1000000001) := Lib.hid (Nat.le_trans (digs_mono (Nat.le_of_lt hxr)) hr3)
    have hR8 := put2 hR7 (.int .u64 ((lo x : Nat) : Int)) (.string (hs x))
    have hb8 : Below (w.heap.size + 2) w7 ((w7.setCell ⟨w3.heap.size, 0, none⟩ (.int .u64 ((lo x : Nat) : Int))).setCell ⟨w3.heap.size, 1, none⟩ (.string (hs x))) := ((Below.refl _ _).setCell hK _).setCell hK _
    have H8 := Lib.hid (H7.belowN hb8)
    have hB8 := Lib.hid (hB7.trans (hb8.mono (by omega)))
    have hmx := Lib.hid (rdn_eq hR8)
    have hs8 : Hid (w3.heap.size < ((w7.setCell ⟨w3.heap.size, 0, none⟩ (.int .u64 ((lo x : Nat) : Int))).setCell ⟨w3.heap.size, 1, none⟩ (.string (hs x))).heap.size) := Lib.hid (by simp; omega)
    replace hR8 := Lib.hid hR8
    clear hb8
    go_wp2_with fail
    go_roundw
    case rel => exact ⟨x, hx1, by omega, HL.out, hR8.out, hs8.out, H8.out, hB8.out⟩
    case measure => rw [hmv, hmx.out]; exact hxr
   ·have hcm : ¬ cmpI x r < 0 := of_decide_eq_false (cmpI_ge hxr)
    have hcm0 : decide (0 ≤ cmpI x r) = true := decide_eq_true (by omega)
    have hra : isq a = r := by
     rcases Nat.lt_or_eq_of_le hr1 with h | h
     ·have := hx3 h; omega
     ·exact h
    go_wp2_with fail
    exact bodyPost_ret (v := natV r) (by simp [results, Tryz.results113, go_sem, c0, c1]) rfl ⟨by rw [hra], (hB7.setCell (by simp <;> omega) _).setCell (by simp <;> omega) _⟩)
end Go.Proofs.YtdmoadfnogdfnaaGreatDoor
namespace Go.Proofs.YtdmoadfnogdfnaaGreatDoor
open Go.RowKit
attribute [local irreducible] lo hs sm s64 c64 d64 b64 mh ml pd pc qd qc val hiB str cmpI srD lz nb isq
set_option maxHeartbeats 2000000 in
set_option maxRecDepth 100000 in
theorem pow_neg (a : Nat) (n : Int) (h : n < 0) (w : World) :
  Calls Tryz.prog 115 #[natV a, .int .i64 n] w fun e w' => e = .returned (.tuple #[natV 0, .int .i64 1]) ∧ Below w.heap.size w w' := by
 obtain ⟨w0, hw0, hA, hB, hbw, hsz⟩ := boxes2 w (.int .u64 ((lo a : Nat) : Int)) (.string (hs a)) (.int .u64 0) (.string ⟨#[]⟩) 32
 obtain ⟨c0, c1, cf⟩ := id hB
 have h1 : decide (n < 0) = true := decide_eq_true h
 go_enter Tryz.func115, Tryz.ntmps115
 go_wp2_with fail
 exact bodyPost_ret (v := .tuple #[natV 0, .int .i64 1]) (by rw [natV_zero]; simp [results, Tryz.results115, go_sem, c0, c1]) rfl ⟨rfl, (hbw.setCell (by simp <;> omega) _).setCell (by simp <;> omega) _⟩
set_option maxHeartbeats 2000000 in
set_option maxRecDepth 100000 in
theorem pow_great (a n : Nat) (h : 4096 < n) (hn : n < 9223372036854775808) (w : World) :
  Calls Tryz.prog 115 #[natV a, .int .i64 (n : Int)] w fun e w' => e = .returned (.tuple #[natV 0, .int .i64 3]) ∧ Below w.heap.size w w' := by
 obtain ⟨w0, hw0, hA, hB, hbw, hsz⟩ := boxes2 w (.int .u64 ((lo a : Nat) : Int)) (.string (hs a)) (.int .u64 0) (.string ⟨#[]⟩) 32
 obtain ⟨c0, c1, cf⟩ := id hB
 have h1 : decide (4096 < n) = true := decide_eq_true h
 have h2 : decide ((4096 : Int) < (n : Int)) = true := decide_eq_true (by omega)
 have h3 : decide (n ≤ 4096) = false := decide_eq_false (by omega)
 obtain ⟨a0, a1, af⟩ := id hA
 have h4 : ¬ n = 0 := by omega
 clear hn
 go_enter Tryz.func115, Tryz.ntmps115
 go_wp2_with fail
 go_quiet (fail)
 go_wp2_with fail
 exact bodyPost_ret (v := .tuple #[natV 0, .int .i64 3]) (by rw [natV_zero]; simp [results, Tryz.results115, go_sem, c0, c1]) rfl ⟨rfl, ((bdrew hbw nq).setCell (by simp <;> omega) _).setCell (by simp <;> omega) _⟩
set_option maxHeartbeats 2000000 in
set_option maxRecDepth 100000 in
theorem pow_over (a n : Nat) (h0 : 0 < n) (h : n ≤ 4096) (hg : 262144 / n < nb a) (hla : (digs a).length ≤ 1000000000) (w : World) :
  Calls Tryz.prog 115 #[natV a, .int .i64 (n : Int)] w fun e w' => e = .returned (.tuple #[natV 0, .int .i64 3]) ∧ Below w.heap.size w w' := by
 obtain ⟨w0, hw0, hA, hB, hbw, hsz⟩ := boxes2 w (.int .u64 ((lo a : Nat) : Int)) (.string (hs a)) (.int .u64 0) (.string ⟨#[]⟩) 32
 obtain ⟨a0, a1, af⟩ := id hA
 obtain ⟨q, hq⟩ : ∃ q, q = 262144 / n := ⟨_, rfl⟩
 have hqb : q ≤ 262144 := by rw [hq]; exact Nat.div_le_self _ _
 have htd : (262144 : Int).tdiv (n : Int) = (q : Int) := by
  rw [Int.tdiv_eq_ediv_of_nonneg (by omega), hq]; rfl
 have hed : (262144 : Int) / (n : Int) = (q : Int) := by rw [hq]; rfl
 have hnb := nb_len hla
 have HBt := Lib.hid (fun w => bits_any a (by omega) w)
 rw [← hq] at hg
 generalize nb a = B at *
 have h1 : decide ((4096 : Int) < (n : Int)) = false := decide_eq_false (by omega)
 have h2 : decide (4096 < n) = false := decide_eq_false (by omega)
 have h3 : decide ((0 : Int) < (n : Int)) = true := decide_eq_true (by omega)
 have h4 : ¬ n = 0 := by omega
 have h5 : decide (q < B) = true := decide_eq_true hg
 have h6 : decide ((q : Int) < (B : Int)) = true := decide_eq_true (by omega)
 have hwq : IntKind.i64.wrap (q : Int) = (q : Int) := IntWalk.i64_in _ (by omega)
 clear hq hnb hla hg
 go_enter Tryz.func115, Tryz.ntmps115
 go_wp2_with fail
 go_region_held3 (fun w' => w'.cell? ⟨w.heap.size, 0, none⟩ = some (.int .u64 ((lo a : Nat) : Int)) ∧ w'.cell? ⟨w.heap.size, 1, none⟩ = some (.string (hs a)))
  (first | exact ⟨a0, a1⟩ | exact ⟨a0', a1'⟩)
  (first
   | (go_at_call 114; ((with_reducible refine Calls.mono (HBt.out _) ?_); rintro e w1 ⟨rfl, hb1⟩; obtain ⟨a0', a1', af'⟩ := hA.below ((Below.refl w0.heap.size w0).drew.trans hb1) (by omega))))
 have hb01 := (Below.refl w0.heap.size w0).drew.trans hb1
 obtain ⟨c0, c1, cf⟩ := hB.below hb01 (by omega)
 have hB1 := hbw.trans (hb01.mono (by omega))
 go_wp2_with fail
 exact bodyPost_ret (v := .tuple #[natV 0, .int .i64 3]) (by rw [natV_zero]; simp [results, Tryz.results115, go_sem, c0, c1]) rfl ⟨rfl, (hB1.setCell (by simp <;> omega) _).setCell (by simp <;> omega) _⟩
theorem pow_len {a n k : Nat} (hk : k ≤ n) (hg : n = 0 ∨ nb a ≤ 262144 / n) : (digs (a ^ k)).length ≤ 4097 := by
 obtain ⟨N, hN⟩ : ∃ N, N = 4097 := ⟨_, rfl⟩
 rw [← hN]
 refine digs_length_iff.2 ?_
 rcases hg with h | h
 ·have : k = 0 := by omega
  rw [this, Nat.pow_zero]
  exact Nat.one_lt_pow (by omega) Bs_gt
 ·have h1 : k * nb a ≤ 262144 := Nat.le_trans (Nat.mul_le_mul hk h) (Nat.mul_div_le 262144 n)
  have h2 : a ^ k ≤ 2 ^ (k * nb a) := by
   rw [Nat.mul_comm, Nat.pow_mul]; exact Nat.pow_le_pow_left (Nat.le_of_lt (nb_lt a)) k
  refine Nat.lt_of_le_of_lt h2 ?_
  rw [Bs_pow, ← Nat.pow_mul]
  exact Nat.pow_lt_pow_right (by omega) (by omega)
theorem i64_and1 (n : Int) : bits .and .i64 n 1 = n % 2 := by
 have h127 : (BitVec.ofInt 64 1).toNat = 2 ^ 1 - 1 := by decide
 have key : (BitVec.ofInt 64 n &&& BitVec.ofInt 64 1).toNat = (n % ((2 ^ 64 : Nat) : Int)).toNat % 2 ^ 1 := by
  rw [BitVec.toNat_and, BitVec.toNat_ofInt, h127, Nat.and_two_pow_sub_one_eq_mod]
 show IntKind.i64.wrap ((BitVec.ofInt 64 n &&& BitVec.ofInt 64 1).toNat : Nat) = n % 2
 rw [key, IntKind.wrap_i64]
 omega
theorem pow_bit (n k : Nat) : bits .and .i64 ((n : Int) / 2 ^ k) 1 = ((n / 2 ^ k % 2 : Nat) : Int) := by
 rw [i64_and1]
 have h : ((n : Int) / 2 ^ k) = ((n / 2 ^ k : Nat) : Int) := by
  rw [Int.natCast_ediv, Int.natCast_pow]; rfl
 rw [h]
 generalize n / 2 ^ k = x
 omega
theorem pow_half (a n k : Nat) : a ^ (n / 2 ^ k) = a ^ (n / 2 ^ (k + 1)) * a ^ (n / 2 ^ (k + 1)) * a ^ (n / 2 ^ k % 2) := by
 rw [← Nat.pow_add, ← Nat.pow_add, Nat.pow_succ, ← Nat.div_div_eq_div_mul]
 congr 1
 generalize n / 2 ^ k = x
 omega
set_option maxHeartbeats 2000000 in
set_option maxRecDepth 100000 in
theorem pow_ok (a n : Nat) (h : n ≤ 4096) (hg : n = 0 ∨ nb a ≤ 262144 / n) (hla : (digs a).length ≤ 1000000000) (w : World) :
  Calls Tryz.prog 115 #[natV a, .int .i64 (n : Int)] w fun e w' => e = .returned (.tuple #[natV (a ^ n), .int .i64 0]) ∧ Below w.heap.size w w' := by
 obtain ⟨w0, hw0, hA, hB, hbw, hsz⟩ := boxes2 w (.int .u64 ((lo a : Nat) : Int)) (.string (hs a)) (.int .u64 0) (.string ⟨#[]⟩) 32
 obtain ⟨a0, a1, af⟩ := id hA
 have H0 : B2 w0 w.heap.size a := ⟨hA, hB, hsz⟩
 have h1 : decide ((4096 : Int) < (n : Int)) = false := decide_eq_false (by omega)
 have h2 : decide (4096 < n) = false := decide_eq_false (by omega)
 go_enter Tryz.func115, Tryz.ntmps115
 go_upto_region 3 with fail
 go_cut [24] from 12 to 24 (fun z wx => z = .bool false ∧ B2 wx w.heap.size a ∧ Below w.heap.size w wx)
 case first =>
  rcases Nat.eq_zero_or_pos n with h0 | h0
  ·subst h0
   have h3 : decide ((0 : Int) < ((0 : Nat) : Int)) = false := rfl
   go_quiet (fail)
   go_wp2_with fail
   go_meet
   exact ⟨rfl, H0.below (bdrew (Below.refl _ _) nq), bdrew hbw nq⟩
  ·have hq1 : nb a ≤ 262144 / n := by omega
   obtain ⟨q, hq⟩ : ∃ q, q = 262144 / n := ⟨_, rfl⟩
   have hqb : q ≤ 262144 := by rw [hq]; exact Nat.div_le_self _ _
   have htd : (262144 : Int).tdiv (n : Int) = (q : Int) := by
    rw [Int.tdiv_eq_ediv_of_nonneg (by omega), hq]; rfl
   have hed : (262144 : Int) / (n : Int) = (q : Int) := by rw [hq]; rfl
   have hnb := nb_len hla
   have HBt := Lib.hid (fun w => bits_any a (by omega) w)
   rw [← hq] at hq1
   have HG := Lib.hid hg
   clear hg
   generalize nb a = B at *
   have h3 : decide ((0 : Int) < (n : Int)) = true := decide_eq_true (by omega)
   have h4 : ¬ n = 0 := by omega
   have h5 : decide (q < B) = false := decide_eq_false (by omega)
   have h6 : decide ((q : Int) < (B : Int)) = false := decide_eq_false (by omega)
   have hwq : IntKind.i64.wrap (q : Int) = (q : Int) := IntWalk.i64_in _ (by omega)
   clear hq hnb hla
   go_region_held3 (fun w' => w'.cell? ⟨w.heap.size, 0, none⟩ = some (.int .u64 ((lo a : Nat) : Int)) ∧ w'.cell? ⟨w.heap.size, 1, none⟩ = some (.string (hs a)))
    (first | exact ⟨a0, a1⟩ | exact ⟨a0', a1'⟩)
    (first
     | (go_at_call 114; ((with_reducible refine Calls.mono (HBt.out _) ?_); rintro e w1 ⟨rfl, hb1⟩; obtain ⟨a0', a1', af'⟩ := hA.below ((Below.refl w0.heap.size w0).drew.trans hb1) (by omega))))
   have hb01 := (Below.refl w0.heap.size w0).drew.trans hb1
   go_wp2_with fail
   go_meet
   exact ⟨rfl, H0.below hb01, hbw.trans (hb01.mono (by omega))⟩
 case rest =>
  obtain ⟨rfl, H1, hB1⟩ := hcut
  have HO := Lib.hid (fun w => of_any 1 Bs_gt w)
  have HLn := Lib.hid (fun w => lenU n (by unfold Bs; omega) w)
  have hlen := nb_lt n
  have hlb : nb n ≤ 64 := nb_le64 (by unfold Bs; omega)
  have hwn : IntKind.u64.wrap (n : Int) = (n : Int) := wrapN _ (by omega)
  have HG := Lib.hid hg
  obtain ⟨L, hL⟩ : ∃ L, L = nb n := ⟨_, rfl⟩
  rw [← hL] at HLn hlen hlb
  have hlen := Lib.hid hlen
  clear hg hA hB hbw hsz a0 a1 af H0 hw0 hL
  go_wp2_with fail
  refine (HO.out _).mono ?_
  rintro e w2 ⟨rfl, hb2⟩
  have H2 := H1.below hb2
  have hB2 := H1.step hB1 hb2
  obtain ⟨w3, hw3, hP, hb3, hsz3⟩ := boxes1 w2 (.int .u64 ((lo 1 : Nat) : Int)) (.string (hs 1)) 32
  have H3 := H2.below hb3
  have hB3 := H2.step hB2 hb3
  have hK : w.heap.size + 2 ≤ w2.heap.size := H2.sz
  clear hb2 H1 hB1 HO hb3 H2 hB2
  go_wp2_with fail
  refine (HLn.out _).mono ?_
  rintro e w4 ⟨rfl, rfl⟩
  clear HLn
  go_wp2_with fail
  go_loopw [8, 31] (fun _ z wr => ∃ i : Nat, i ≤ L ∧ z = .int .i64 i ∧ Bx wr w2.heap.size (.int .u64 ((lo (a ^ (n / 2 ^ (L - i))) : Nat) : Int)) (.string (hs (a ^ (n / 2 ^ (L - i))))) ∧ w2.heap.size < wr.heap.size ∧ B2 wr w.heap.size a ∧ Below w.heap.size w wr) (fun _ z _ => L - (intOf z).toNat)
  case atStart => exact ⟨0, Nat.zero_le _, rfl, by rw [Nat.sub_zero, Nat.div_eq_of_lt hlen.out, Nat.pow_zero]; exact hP, hsz3, H3, hB3⟩
  case round =>
   obtain ⟨i, hi, rfl, hP, hs4, H4, hB4⟩ := hrel
   clear hw3 H3 hB3 hsz3
   obtain ⟨p, hp⟩ : ∃ p, p = a ^ (n / 2 ^ (L - i)) := ⟨_, rfl⟩
   rw [← hp] at hP
   rcases Nat.lt_or_eq_of_le hi with hiL | hiL
   ·have hlp : (digs p).length ≤ 4097 := by rw [hp]; exact pow_len (Nat.div_le_self _ _) HG.out
    have HM := Lib.hid (fun w => mul_any p p (by omega) (by omega) w)
    obtain ⟨k, hk⟩ : ∃ k : Nat, L = k + 1 + i := ⟨L - 1 - i, by omega⟩
    obtain ⟨f, hf⟩ : ∃ f, f = n / 2 ^ k := ⟨_, rfl⟩
    obtain ⟨s, hs⟩ : ∃ s, s = p * p := ⟨_, rfl⟩
    rw [← hs] at HM
    have HS := Lib.hid hs
    have HF := Lib.hid hf
    have HP := Lib.hid hp
    clear hs hf hp
    obtain ⟨p0, p1, pf⟩ := id hP
    go_wp2_with fail
    refine (HM.out _).mono ?_
    rintro e w5 ⟨rfl, hb5⟩
    have H5 := H4.below hb5
    have hB5 := H4.step hB4 hb5
    obtain ⟨q0, q1, qf⟩ := hP.below hb5 hs4
    clear p0 p1 pf hP HM H4 hB4
    have hkk : (L : Int) - 1 - (i : Int) = (k : Int) := by omega
    have hkL : L - i = k + 1 := by omega
    have hkL' : L - (i + 1) = k := by omega
    have hR5 := (show Bx w5 w2.heap.size _ _ from ⟨q0, q1, qf⟩)
    have hs5 : w2.heap.size < w5.heap.size := Nat.lt_of_lt_of_le hs4 hb5.size
    obtain ⟨w6, hw6⟩ : ∃ w6, (w5.setCell ⟨w2.heap.size, 0, none⟩ (.int .u64 ((lo s : Nat) : Int))).setCell ⟨w2.heap.size, 1, none⟩ (.string (hs s)) = w6 := ⟨_, rfl⟩
    have hR6 : Bx w6 w2.heap.size (.int .u64 ((lo s : Nat) : Int)) (.string (hs s)) := by rw [← hw6]; exact put2 hR5 _ _
    have hb6 : Below (w.heap.size + 2) w5 w6 := by rw [← hw6]; exact ((Below.refl _ _).setCell hK _).setCell hK _
    have H6 := H5.belowN hb6
    have hB6 := hB5.trans (hb6.mono (by omega))
    have hs6 : w2.heap.size < w6.heap.size := Nat.lt_of_lt_of_le hs5 hb6.size
    have hbt := pow_bit n k
    have hph := pow_half a n k
    rw [hkL] at HP
    have HK := Lib.hid hk
    clear hk
    rw [← HP.out, ← HS.out] at hph
    clear H5 hB5 hR5 hs5 hb5 hb6
    have hbt2 : n / 2 ^ k % 2 = 0 ∨ n / 2 ^ k % 2 = 1 := by generalize n / 2 ^ k = x; omega
    have hlf := pow_len (a := a) (k := n / 2 ^ k) (Nat.div_le_self n _) HG.out
    rcases hbt2 with hz | hz
    ·rw [hz] at hbt hph
     rw [Nat.pow_zero, Nat.mul_one] at hph
     have HH := Lib.hid hph
     have hbt' : bits BinOp.and IntKind.i64 ((n : Int) / 2 ^ k) 1 = 0 := hbt
     clear hph hz hlf hbt hkL
     go_wp2_with fail
     go_roundw
     case rel => exact ⟨i + 1, hiL, rfl, by rw [hkL', HH.out]; exact hR6, hs6, H6, hB6⟩
     case measure => simp [intOf]; omega
    ·rw [hz] at hbt hph
     rw [Nat.pow_one] at hph
     have hbt' : bits BinOp.and IntKind.i64 ((n : Int) / 2 ^ k) 1 = 1 := hbt
     have hls : (digs s).length ≤ 8200 := by
      have h1 := digs_mul_le hlp hlp
      rw [← HS.out] at h1; omega
     have HM2 := Lib.hid (fun w => mul_any s a (by omega) (by omega) w)
     rw [← hph] at HM2
     obtain ⟨q, hq⟩ : ∃ q, q = a ^ (n / 2 ^ k) := ⟨_, rfl⟩
     rw [← hq] at HM2
     have HQ := Lib.hid hq
     clear hph hz hlf hbt hkL hq hls
     obtain ⟨r0, r1, rf⟩ := id hR6
     obtain ⟨⟨a0, a1, af⟩, -⟩ := id H6
     go_wp2_with fail
     refine (HM2.out _).mono ?_
     rintro e w7 ⟨rfl, hb7⟩
     have H7 := H6.below hb7
     have hB7 := H6.step hB6 hb7
     have hR7 := hR6.below hb7 hs6
     have hs7 : w2.heap.size < w7.heap.size := Nat.lt_of_lt_of_le hs6 hb7.size
     have hR8 := put2 hR7 (.int .u64 ((lo q : Nat) : Int)) (.string (hs q))
     have hb8 : Below (w.heap.size + 2) w7 ((w7.setCell ⟨w2.heap.size, 0, none⟩ (.int .u64 ((lo q : Nat) : Int))).setCell ⟨w2.heap.size, 1, none⟩ (.string (hs q))) := ((Below.refl _ _).setCell hK _).setCell hK _
     have H8 := Lib.hid (H7.belowN hb8)
     have hB8 := Lib.hid (hB7.trans (hb8.mono (by omega)))
     have hs8 := Lib.hid (Nat.lt_of_lt_of_le hs7 hb8.size)
     obtain ⟨r0', r1', rf'⟩ := id hR7
     replace hR8 := Lib.hid hR8
     clear r0 r1 rf a0 a1 af hb8 hb7 H6 hB6 hR6 hs6 HM2 hR7 H7 hB7 hs7 hw6
     go_wp2_with fail
     go_roundw
     case rel => exact ⟨i + 1, hiL, rfl, by rw [hkL', ← HQ.out]; exact hR8.out, hs8.out, H8.out, hB8.out⟩
     case measure => simp [intOf]; omega
   ·have hpn : p = a ^ n := by rw [hp, hiL, Nat.sub_self, Nat.pow_zero, Nat.div_one]
    have HPN := Lib.hid hpn
    clear hp hpn
    obtain ⟨p0, p1, pf⟩ := id hP
    obtain ⟨-, ⟨c0, c1, cf⟩, -⟩ := id H4
    go_wp2_with fail
    exact bodyPost_ret (v := .tuple #[natV p, .int .i64 0]) (by simp [results, Tryz.results115, go_sem, c0, c1]) rfl ⟨by rw [HPN.out], (hB4.setCell (by simp <;> omega) _).setCell (by simp <;> omega) _⟩
end Go.Proofs.YtdmoadfnogdfnaaGreatDoor
namespace Go.Proofs.YtdmoadfnogdfnaaGreatDoor
open Go.Lib (decDigits nDigits)
theorem pad_length : ∀ k r, (pad k r).length = k
 | 0, _ => rfl
 | k + 1, r => by rw [pad, List.length_append, pad_length k]; rfl
theorem dec_ne_nil (n : Nat) : decDigits n ≠ [] := fun h => by have := dec_length_pos n; rw [h] at this; exact absurd this (by simp)
theorem dval_dec (n : Nat) : dval (decDigits n) = n := by
 induction n using Nat.strongRecOn with
 | _ n ih =>
  rcases Nat.lt_or_ge n 10 with h | h
  ·rw [dec_small h]
   show 0 * 10 + ((dch n).toNat - 48) = n
   rw [dch_toNat h]; omega
  ·rw [dec_big (by omega), dval_snoc, ih (n / 10) (by omega), dch_toNat (by omega)]; omega
theorem dec_isDig (n : Nat) : ∀ c ∈ decDigits n, isDig c := by
 induction n using Nat.strongRecOn with
 | _ n ih =>
  rcases Nat.lt_or_ge n 10 with h | h
  ·rw [dec_small h]
   intro c hc
   rw [List.mem_singleton.1 hc]
   unfold isDig; rw [dch_toNat h]; omega
  ·rw [dec_big (by omega)]
   intro c hc
   rcases List.mem_append.1 hc with hc | hc
   ·exact ih (n / 10) (by omega) c hc
   ·rw [List.mem_singleton.1 hc]
    unfold isDig; rw [dch_toNat (by omega)]; omega
theorem dec_isDec (n : Nat) : isDec (decDigits n) := by
 refine ⟨dec_isDig n, ?_⟩
 rcases Nat.eq_zero_or_pos n with h0 | h0
 ·left; rw [h0, dec_small (by omega)]; rfl
 ·right
  refine ⟨dec_ne_nil n, ?_⟩
  induction n using Nat.strongRecOn with
  | _ n ih =>
   rcases Nat.lt_or_ge n 10 with h | h
   ·rw [dec_small h]
    show some (dch n) ≠ some 48
    intro he
    have h1 := congrArg UInt8.toNat (Option.some.inj he)
    rw [dch_toNat h] at h1
    have h2 : (48 : UInt8).toNat = 48 := rfl
    omega
   ·rw [dec_big (by omega), head_snoc _ (dec_ne_nil _)]
    exact ih (n / 10) (by omega) (by omega)
theorem dch_of {c : UInt8} (h : isDig c) : dch (c.toNat - 48) = c := by
 unfold isDig at h
 apply UInt8.toNat_inj.1
 rw [dch_toNat (by omega)]; omega
theorem dval_pos {l : List UInt8} (h : ∀ c ∈ l, isDig c) (h0 : l ≠ []) (h1 : l.head? ≠ some 48) : 0 < dval l := by
 induction l using snoc_ind with
 | nil => exact absurd rfl h0
 | append_singleton m c ih =>
  rw [dval_snoc]
  by_cases hm : m = []
  ·subst hm
   have h2 : c ≠ 48 := fun e => h1 (by rw [e]; rfl)
   have h3 := h c (by simp)
   unfold isDig at h3
   have h4 : c.toNat ≠ 48 := fun e => h2 (UInt8.toNat_inj.1 (by rw [e]; rfl))
   omega
  ·rw [head_snoc _ hm] at h1
   have := ih (fun x hx => h x (List.mem_append_left _ hx)) hm h1
   omega
theorem dec_dval {l : List UInt8} (h : isDec l) : decDigits (dval l) = l := by
 obtain ⟨h1, h2⟩ := h
 rcases h2 with rfl | ⟨h2, h3⟩
 ·show decDigits 0 = _
  rw [dec_small (by omega)]; rfl
 ·induction l using snoc_ind with
  | nil => exact absurd rfl h2
  | append_singleton m c ih =>
   have hc := h1 c (List.mem_append_right _ (List.mem_singleton.2 rfl))
   have hd : c.toNat - 48 < 10 := by unfold isDig at hc; omega
   rw [dval_snoc]
   by_cases hm : m = []
   ·subst hm
    rw [dval_nil, show 0 * 10 + (c.toNat - 48) = c.toNat - 48 by omega, dec_small hd, dch_of hc]; rfl
   ·have h3' := h3
    rw [head_snoc _ hm] at h3'
    have hm1 := fun x hx => h1 x (List.mem_append_left _ hx)
    have hp := dval_pos hm1 hm h3'
    rw [dec_big (by omega), show (dval m * 10 + (c.toNat - 48)) / 10 = dval m by omega, show (dval m * 10 + (c.toNat - 48)) % 10 = c.toNat - 48 by omega, ih hm1 hm h3', dch_of hc]
theorem dec_inj {a b : Nat} (h : decDigits a = decDigits b) : a = b := by rw [← dval_dec a, h, dval_dec]
end Go.Proofs.YtdmoadfnogdfnaaGreatDoor
namespace Go.Proofs.YtdmoadfnogdfnaaGreatDoor
open Go.RowKit
attribute [local irreducible] lo hs sm s64 c64 d64 b64 mh ml pd pc qd qc val hiB str cmpI srD lz nb isq decB
set_option maxHeartbeats 2000000 in
set_option maxRecDepth 100000 in
theorem parse_long (l : List UInt8) (h : 4096 < l.length) (hl : l.length ≤ 1000000) (w : World) :
  Calls Tryz.prog 112 #[.string (st l)] w fun e w' => e = .returned (.tuple #[natV 0, .int .i64 3]) ∧ Below w.heap.size w w' := by
 obtain ⟨w0, hw0, hA, hb0, hsz0⟩ := boxes1 w (.int .u64 0) (.string ⟨#[]⟩) 32
 obtain ⟨a0, a1, af⟩ := id hA
 have h1 : decide ((4096 : Int) < ((st l).size : Int)) = true := decide_eq_true (by rw [st_size]; omega)
 have h2 : decide (4096 < (st l).size) = true := decide_eq_true (by rw [st_size]; omega)
 go_enter Tryz.func112, Tryz.ntmps112
 go_wp2_with fail
 exact bodyPost_ret (v := .tuple #[natV 0, .int .i64 3]) (by rw [natV_zero]; simp [results, Tryz.results112, go_sem, a0, a1]) rfl ⟨rfl, (hb0.setCell (by simp <;> omega) _).setCell (by simp <;> omega) _⟩
end Go.Proofs.YtdmoadfnogdfnaaGreatDoor
namespace Go.Proofs.YtdmoadfnogdfnaaGreatDoor
open Go.RowKit
attribute [local irreducible] lo hs sm s64 c64 d64 b64 mh ml pd pc qd qc val hiB str cmpI srD lz nb isq decB
theorem made_lt {l : List Nat} (h : ∀ x ∈ l, x < 4294967296) : made l < Bs ^ l.length := by
 induction l with
 | nil => exact Nat.one_pos
 | cons x l ih =>
  have h1 := ih fun y hy => h y (List.mem_cons_of_mem _ hy)
  have h2 := h x (List.mem_cons_self)
  rw [made, List.length_cons, Nat.pow_succ]
  have hB : 4294967296 * 2 ≤ Bs := by unfold Bs; omega
  have h3 : Bs ^ l.length * (4294967296 * 2) ≤ Bs ^ l.length * Bs := Nat.mul_le_mul_left _ hB
  generalize Bs ^ l.length = X at *
  generalize X * Bs = Y at *
  omega
theorem made_digs {l : List Nat} (h : ∀ x ∈ l, x < 4294967296) : (digs (made l)).length ≤ l.length := digs_length_iff.2 (made_lt h)
set_option maxHeartbeats 2000000 in
set_option maxRecDepth 100000 in
theorem made_row (a : Addr) (c : Nat) (l : List Nat) (hl : l.length ≤ 1000) (w : World) (hw : Wd w a l) :
  Calls Tryz.prog 97 #[.slice (some a) l.length c] w fun e w' => e = .returned (natV (made l)) ∧ Below w.heap.size w w' := by
 obtain ⟨w0, hw0, hR, hO, hb0, hsz0⟩ := boxes2 w (.int .u64 0) (.string ⟨#[]⟩) (.int .u64 0) (.string ⟨#[]⟩) 32
 obtain ⟨n, hn⟩ : ∃ n, n = l.length := ⟨_, rfl⟩
 have hln := hl
 rw [← hn] at hl
 have hM0 : MS w w0 a l 0 := ⟨by rw [lo_small Bs_pos, hs_small Bs_pos]; exact hO, hR, hw.below hb0, hsz0, hb0⟩
 have hab := hw.blk
 have hlt := hw.lt
 clear hw hR hO hb0 hsz0
 go_enter Tryz.func97, Tryz.ntmps97
 simp only [← hn]
 have HNn := Lib.hid hn
 have hst : made (l.drop n) = 0 := by rw [List.drop_eq_nil_of_le (by omega)]; rfl
 replace hst := Lib.hid hst
 clear hn
 go_wp2_with fail
 go_loopw [4] (fun z wr => ∃ (j m : Nat), j ≤ n ∧ z = .int .i64 ((j : Int) - 1) ∧ m = made (l.drop j) ∧ MS w wr a l m) (fun z _ => (intOf z + 1).toNat)
 case atStart => exact ⟨n, 0, Nat.le_refl _, by first | rfl | go_num, hst.out.symm, hM0⟩
 case round =>
  obtain ⟨j, m, hj, rfl, hm, hS⟩ := hrel
  clear hw0 hM0
  have hn := HNn.out
  cases j with
  | zero =>
   rw [List.drop_zero] at hm
   have HM := Lib.hid hm
   obtain ⟨⟨o0, o1, of⟩, ⟨r0, r1, rf⟩, -, hsz, hB⟩ := id hS
   clear hm hS hn
   go_wp2_with fail
   exact bodyPost_ret (v := natV m) (by simp [results, Tryz.results97, go_sem, r0, r1]) rfl ⟨by rw [HM.out], (hB.setCell (by simp <;> omega) _).setCell (by simp <;> omega) _⟩
  | succ i =>
   have hi : i < l.length := by omega
   obtain ⟨x, hx⟩ : ∃ x, x = l[i] := ⟨_, rfl⟩
   have hx32 : x < 4294967296 := by rw [hx]; exact hlt _ (List.getElem_mem hi)
   have hlm : (digs m).length ≤ 1000 := by
    rw [hm]; exact Nat.le_trans (made_digs fun y hy => hlt y (List.mem_of_mem_drop hy)) (by rw [List.length_drop]; omega)
   have hmd : made (l.drop i) = m * 4294967296 + x := by
    rw [List.drop_eq_getElem_cons hi, made, ← hm, ← hx]; omega
   have hdm : ∀ k, (digs (made (l.drop k))).length ≤ 1000 := fun k => Nat.le_trans (made_digs fun y hy => hlt y (List.mem_of_mem_drop hy)) (by rw [List.length_drop]; omega)
   have hxB : x < Bs := by unfold Bs; omega
   have hlx : (digs x).length ≤ 1 := digs_length_iff.2 (by rw [Nat.pow_one]; exact hxB)
   obtain ⟨C, hC⟩ : ∃ C, C = 4294967296 := ⟨_, rfl⟩
   have hCB : C < Bs := by rw [hC]; unfold Bs; omega
   have hlC : (digs C).length ≤ 1 := digs_length_iff.2 (by rw [Nat.pow_one]; exact hCB)
   have HO1 := Lib.hid (fun w => of_val 4294967296 C (by rw [hC]; rfl) hCB w)
   have HO2 := Lib.hid (fun w => of_any x hxB w)
   have HM := Lib.hid (fun w => mul_any m C (by omega) (by omega) w)
   have hlmc : (digs (m * C)).length ≤ 1000 + 1 := digs_mul_le hlm hlC
   have HA := fun w => add_any (m * C) x (by omega) (by omega) w
   rw [show m * C + x = made (l.drop i) by rw [hmd, hC]] at HA
   obtain ⟨m2, hm2⟩ : ∃ m2, m2 = made (l.drop i) := ⟨_, rfl⟩
   rw [← hm2] at HA
   generalize m * C = mc at *
   replace HA := Lib.hid HA
   have HM2 := Lib.hid hm2
   have hS' := hS.drew
   have h0 := hS.cells i x hi hx
   have h0' := hS'.cells i x hi hx
   have HX := Lib.hid hx
   have e1 : (((i + 1 : Nat) : Int) - 1) = (i : Int) := by omega
   have hwx : IntKind.u64.wrap (x : Int) = (x : Int) := wrapN _ (by omega)
   have hin : (i : Int) < (n : Int) := by omega
   clear hn hx hm hm2 hmd hdm hlm hlmc hlx hlC hC hCB hxB hx32 hlt
   rw [e1]
   go_wp2_with fail
   obtain ⟨o0, o1, of⟩ := id hS'.O
   obtain ⟨g0, g1, g2⟩ := id h0'
   go_region_with
    (first
     | (go_at_call 81; ((with_reducible refine Calls.mono (HO1.out _) ?_); rintro e w1 ⟨rfl, hb1⟩; have hS1 : MS w w1 a l m := (by first | exact hS'.below hb1 | exact hS1.below hb1 | exact hS2.below hb1 | exact hS3.below hb1 | exact hS4.below hb1); obtain ⟨o01, o11, of1⟩ := id hS1.O; have h1 := (hS1.cells i x hi HX.out).2.2))
     | (go_at_call 81; ((with_reducible refine Calls.mono (HO2.out _) ?_); rintro e w2 ⟨rfl, hb2⟩; have hS2 : MS w w2 a l m := (by first | exact hS'.below hb2 | exact hS1.below hb2 | exact hS2.below hb2 | exact hS3.below hb2 | exact hS4.below hb2); obtain ⟨o02, o12, of2⟩ := id hS2.O; have h2 := (hS2.cells i x hi HX.out).2.2))
     | (go_at_call 107; ((with_reducible refine Calls.mono (HM.out _) ?_); rintro e w3 ⟨rfl, hb3⟩; have hS3 : MS w w3 a l m := (by first | exact hS'.below hb3 | exact hS1.below hb3 | exact hS2.below hb3 | exact hS3.below hb3 | exact hS4.below hb3); obtain ⟨o03, o13, of3⟩ := id hS3.O; have h3 := (hS3.cells i x hi HX.out).2.2))
     | (go_at_call 102; ((with_reducible refine Calls.mono (HA.out _) ?_); rintro e w4 ⟨rfl, hb4⟩; have hS4 : MS w w4 a l m := (by first | exact hS'.below hb4 | exact hS1.below hb4 | exact hS2.below hb4 | exact hS3.below hb4 | exact hS4.below hb4); obtain ⟨o04, o14, of4⟩ := id hS4.O; have h4 := (hS4.cells i x hi HX.out).2.2; have hS5 := hS4.put hab m2; have h5 := (hS5.cells i x hi HX.out).2.2)))
   all_goals (
    have HS5 := Lib.hid hS5
    clear hS5 h5 hS h0 h0' hS' o0 o1 of
    go_wp2_with fail
    go_roundw
    case rel => exact ⟨i, m2, by omega, by first | rfl | go_num, HM2.out, HS5.out⟩
    case measure => simp [intOf])
set_option maxHeartbeats 2000000 in
set_option maxRecDepth 100000 in
theorem made_nil (ao : Option Addr) (c : Nat) (w : World) :
  Calls Tryz.prog 97 #[.slice ao 0 c] w fun e w' => e = .returned (natV 0) ∧ Below w.heap.size w w' := by
 obtain ⟨w0, hw0, hR, hO, hb0, hsz0⟩ := boxes2 w (.int .u64 0) (.string ⟨#[]⟩) (.int .u64 0) (.string ⟨#[]⟩) 32
 obtain ⟨o0, o1, of⟩ := id hO
 obtain ⟨r0, r1, rf⟩ := id hR
 rw [natV_zero]
 go_enter Tryz.func97, Tryz.ntmps97
 go_wp2_with fail
 go_loopw [4] (fun z wr => z = .int .i64 (-1) ∧ wr = w0) (fun z _ => (intOf z + 1).toNat)
 case atStart => exact ⟨rfl, rfl⟩
 case round =>
  obtain ⟨rfl, rfl⟩ := hrel
  go_wp2_with fail
  exact bodyPost_ret (v := .agg #[.int .u64 0, .string ⟨#[]⟩]) (by simp [results, Tryz.results97, go_sem, r0, r1]) rfl ⟨rfl, (hb0.setCell (by simp <;> omega) _).setCell (by simp <;> omega) _⟩
theorem made_any (v : Value) (l : List Nat) (hl : l.length ≤ 1000) (w : World) (h : Ws w v l) :
  Calls Tryz.prog 97 #[v] w fun e w' => e = .returned (natV (made l)) ∧ Below w.heap.size w w' := by
 rcases h with ⟨ao, c, rfl, rfl⟩ | ⟨a, c, rfl, h2⟩
 ·exact made_nil ao c w
 ·exact made_row a c l hl w h2
end Go.Proofs.YtdmoadfnogdfnaaGreatDoor
namespace Go.Proofs.YtdmoadfnogdfnaaGreatDoor
open Go.RowKit
attribute [local irreducible] lo hs sm s64 c64 d64 b64 mh ml pd pc qd qc val hiB str cmpI srD lz nb isq decB
theorem isDec_yes {l : List UInt8} (h : decC l = true) : isDec l := (decC_iff l).1 h
theorem szAD (W : World) (o : Obj) : (W.drew.alloc o).heap.size = W.heap.size + 1 := World.size_alloc _ _
theorem szD (W : World) : W.drew.heap.size = W.heap.size := rfl
theorem NL.new0 {w0 W : World} {L : List (Nat × Nat)} {K : Nat} (h : NL w0 W L) (hK : W.heap.size = K) (t : TypeId) : NL w0 (W.alloc (.cells #[.int .u64 0, .string ⟨#[]⟩] t)) ((K, 0) :: L) := by
 have := h.new hK 0 t
 rw [lo_small Bs_pos, hs_small Bs_pos] at this
 exact this
theorem NL.swap {w0 W : World} {L : List (Nat × Nat)} {x y : Nat × Nat} (h : NL w0 W (x :: y :: L)) : NL w0 W (y :: x :: L) := by
 refine ⟨h.bl, fun p hp => h.all p ?_, ?_⟩
 ·simp only [List.mem_cons] at hp ⊢
  rcases hp with h | h | h
  ·exact .inr (.inl h)
  ·exact .inl h
  ·exact .inr (.inr h)
 ·have := h.nd
  simp only [List.map_cons, List.nodup_cons, List.mem_cons, not_or] at this ⊢
  exact ⟨⟨fun e => this.1.1 e.symm, this.2.1⟩, this.1.2, this.2.2⟩
theorem NL.put0 {w0 W : World} {L : List (Nat × Nat)} {k n0 : Nat} (h : NL w0 W ((k, n0) :: L)) (n : Nat) :
  NL w0 ((W.setCell ⟨k, 0, none⟩ (.int .u64 ((lo n : Nat) : Int))).setCell ⟨k, 1, none⟩ (.string (hs n))) ((k, n) :: L) := by
 have hk := h.all (k, n0) (List.mem_cons_self)
 have hb : ∀ B, B ≤ k → Below B W ((W.setCell ⟨k, 0, none⟩ (.int .u64 ((lo n : Nat) : Int))).setCell ⟨k, 1, none⟩ (.string (hs n))) := fun B hB =>
  ((Below.refl _ _).setCell (p := ⟨k, 0, none⟩) hB _).setCell (p := ⟨k, 1, none⟩) hB _
 have hsz : W.heap.size = ((W.setCell ⟨k, 0, none⟩ (.int .u64 ((lo n : Nat) : Int))).setCell ⟨k, 1, none⟩ (.string (hs n))).heap.size := by simp [World.setCell]
 refine ⟨h.bl.trans (hb _ hk.1), fun p hp => ?_, h.nd⟩
 rcases List.mem_cons.1 hp with rfl | hp
 ·exact ⟨hk.1, put2 hk.2.b _ _, by rw [← hsz]; exact hk.2.lt⟩
 ·have hp' := h.all p (List.mem_cons_of_mem _ hp)
  have hne : p.1 ≠ k := fun e => by
   have := (List.nodup_cons.1 h.nd).1
   exact this (List.mem_map.2 ⟨p, hp, e⟩)
  refine ⟨hp'.1, ?_, by rw [← hsz]; exact hp'.2.lt⟩
  obtain ⟨c0, c1, cf⟩ := hp'.2.b
  exact ⟨by rw [World.cell?_setCell_other _ _ _ _ (by first | exact fun e => hne (congrArg Addr.block e) | exact fun e => hne (congrArg Addr.block e).symm), World.cell?_setCell_other _ _ _ _ (by first | exact fun e => hne (congrArg Addr.block e) | exact fun e => hne (congrArg Addr.block e).symm)]; exact c0,
   by rw [World.cell?_setCell_other _ _ _ _ (by first | exact fun e => hne (congrArg Addr.block e) | exact fun e => hne (congrArg Addr.block e).symm), World.cell?_setCell_other _ _ _ _ (by first | exact fun e => hne (congrArg Addr.block e) | exact fun e => hne (congrArg Addr.block e).symm)]; exact c1,
   fun j => by simp [go_sem, cf j]⟩
theorem NL.put1 {w0 W : World} {L : List (Nat × Nat)} {k n0 : Nat} {x : Nat × Nat} (h : NL w0 W (x :: (k, n0) :: L)) (n : Nat) :
  NL w0 ((W.setCell ⟨k, 0, none⟩ (.int .u64 ((lo n : Nat) : Int))).setCell ⟨k, 1, none⟩ (.string (hs n))) (x :: (k, n) :: L) := (h.swap.put0 n).swap
/-- A new box of two cells. -/
def nw : Prop := ∀ (W : World) (v0 v1 : Value) (t : TypeId), (W.alloc (.cells #[v0, v1] t)).cell? ⟨W.heap.size, 0, none⟩ = some v0 ∧ (W.alloc (.cells #[v0, v1] t)).cell? ⟨W.heap.size, 1, none⟩ = some v1 ∧ ∀ j, (W.alloc (.cells #[v0, v1] t)).frozen? ⟨W.heap.size, j, none⟩ = false
theorem nw_all : nw := fun W v0 v1 t => by
 obtain ⟨w0, h1, ⟨h2, h3, h4⟩, -, -⟩ := boxes1 W v0 v1 t
 rw [h1]; exact ⟨h2, h3, h4⟩
theorem NL.join {w w0 W : World} {L L0 : List (Nat × Nat)} (h0 : NL w w0 L0) (h : NL w0 W L) : NL w W (L ++ L0) := by
 refine ⟨h0.bl.trans (h.bl.mono h0.bl.size), fun p hp => ?_, ?_⟩
 ·rcases List.mem_append.1 hp with hp | hp
  ·exact ⟨Nat.le_trans h0.bl.size (h.all p hp).1, (h.all p hp).2⟩
  ·exact ⟨(h0.all p hp).1, (h0.all p hp).2.below h.bl⟩
 ·rw [List.map_append, List.nodup_append]
  refine ⟨h.nd, h0.nd, fun a ha b hb => ?_⟩
  obtain ⟨p, hp, rfl⟩ := List.mem_map.1 ha
  obtain ⟨r, hr, rfl⟩ := List.mem_map.1 hb
  have h1 := (h.all p hp).1
  have h2 := (h0.all r hr).2.lt
  omega
end Go.Proofs.YtdmoadfnogdfnaaGreatDoor
namespace Go.Proofs.YtdmoadfnogdfnaaGreatDoor
open Go.RowKit
attribute [local irreducible] lo hs sm s64 c64 d64 b64 mh ml pd pc qd qc val hiB str cmpI srD lz nb isq decB
theorem region_cls {P : Program} {α : Type} {F : α → World} {id : Nat} {Q : Exit → Act → World → Prop} {a : Act} {w : World} {l : List Oper} (hm : P.follows .mixedOrders = true) (hB : Region.lexB .any l.toArray = true)
  (hC : ∃ x, w.drew = F x) (h : wpQuiet P l.toArray (fun w' => ∃ x, w' = F x) (fun a' => ∀ w', (∃ x, w' = F x) → Q .normal a' w') l a) : (Code.region id l.toArray true).wp P Q a w :=
 wp_region_quiet (C := fun w' => ∃ x, w' = F x) hm hB hC (by simpa using h)
theorem cls_callT {α : Type} {F : α → World} {w0 : World} (h1 : ∀ x, Below w0.heap.size w0 (F x)) (h2 : ∀ W, Below w0.heap.size w0 W → ∃ x, W = F x) (ht : Tab w0) {f : FuncId} {args : Array Value} {v : Value}
  (h : ∀ w, Tab w → Calls Tryz.prog f args w fun e w' => e = .returned v ∧ Below w.heap.size w w') (x : α) : Calls Tryz.prog f args (F x) fun e w'' => e = .returned v ∧ ∃ y, w'' = F y :=
 (h (F x) (ht.below (h1 x))).mono fun _ _ ⟨he, hb⟩ => ⟨he, h2 _ ((h1 x).trans (hb.mono (h1 x).size))⟩
theorem cls_get {α : Type} {F : α → World} {w0 : World} (h1 : ∀ x, Below w0.heap.size w0 (F x)) {w : World} {L : List (Nat × Nat)} (hL : NL w w0 L) (k n : Nat) (hm : (k, n) ∈ L) :
  (∀ x, (F x).cell? ⟨k, 0, none⟩ = some (.int .u64 ((lo n : Nat) : Int))) ∧ (∀ x, (F x).cell? ⟨k, 1, none⟩ = some (.string (hs n))) :=
 ⟨fun x => ((h1 x).cell (p := ⟨k, 0, none⟩) (hL.all _ hm).2.lt).trans (hL.get k n hm).1, fun x => ((h1 x).cell (p := ⟨k, 1, none⟩) (hL.all _ hm).2.lt).trans (hL.get k n hm).2⟩
end Go.Proofs.YtdmoadfnogdfnaaGreatDoor
namespace Go.Proofs.YtdmoadfnogdfnaaGreatDoor
open Go.RowKit
attribute [local irreducible] lo hs sm s64 c64 d64 b64 mh ml pd pc qd qc val hiB str cmpI srD lz nb isq decB
theorem nc_zero : nc 0 = [.int .u64 0, .string ⟨#[]⟩] := by unfold nc; rw [lo_small Bs_pos, hs_small Bs_pos]; rfl
theorem seg_get {α : Type} {F : α → World} {x : World} (h1 : ∀ y, Below x.drew.heap.size x.drew (F y)) {w : World} {L : List (Nat × Nat)} (hL : NL w x L) (k n : Nat) (hm : (k, n) ∈ L) :
  (∀ y, (F y).cell? ⟨k, 0, none⟩ = some (.int .u64 ((lo n : Nat) : Int))) ∧ (∀ y, (F y).cell? ⟨k, 1, none⟩ = some (.string (hs n))) :=
 cls_get (fun y => below_drew (h1 y)) hL k n hm
theorem seg_callT {α : Type} {F : α → World} {x w : World} {L : List (Nat × Nat)} (h1 : ∀ y, Below x.drew.heap.size x.drew (F y)) (h2 : ∀ x W, Below (F x).heap.size (F x) W → ∃ y, W = F y) (ht : Tab w) (hL : NL w x L) {f : FuncId} {args : Array Value} {v : Value}
  (h : ∀ w, Tab w → Calls Tryz.prog f args w fun e w' => e = .returned v ∧ Below w.heap.size w w') (y : α) : Calls Tryz.prog f args (F y) fun e w'' => e = .returned v ∧ ∃ y, w'' = F y :=
 (h (F y) ((ht.below hL.bl).below (below_drew (h1 y)))).mono fun _ _ ⟨he, hb⟩ => ⟨he, h2 y _ hb⟩
theorem new_nat (w : World) : (Instr.alloc 32 true (.tuple #[])).run Tryz.prog w = .ok (.pointer (some ⟨w.heap.size, 0, none⟩)) (w.alloc (.cells (nc 0).toArray 32)) := by
 rw [nc_zero]
 simp [go_sem, Instr.alloc]
theorem hd_put2 {w : World} {k : Nat} {x0 x1 : Value} (h : Hd w k [x0, x1]) (v0 v1 : Value) : Hd ((w.setCell ⟨k, 0, none⟩ v0).setCell ⟨k, 1, none⟩ v1) k [v0, v1] := by
 have h0 : w.cell? ⟨k, 0, none⟩ = some x0 := h.cell 0 (by simp)
 have h1 : w.cell? ⟨k, 1, none⟩ = some x1 := h.cell 1 (by simp)
 have hb : Bx w k x0 x1 := ⟨h0, h1, fun j => h.frz j⟩
 have := put2 hb v0 v1
 refine ⟨fun i hi => ?_, fun j => this.2.2 j, by simp [World.setCell]; exact h.lt, row_set (row_set h.row 0 v0) 1 v1⟩
 match i, hi with
 | 0, _ => exact this.1
 | 1, _ => exact this.2.1
 | i + 2, hi => simp only [List.length_cons, List.length_nil] at hi; omega
theorem put_nat (n0 n : Nat) (w : World) (k : Nat) (h : Hd w k (nc n0)) :
  ∃ w', (Instr.storeAt 32 (.pointer (some ⟨k, 0, none⟩)) (natV n)).run Tryz.prog w = .ok () w' ∧ Hd w' k (nc n) ∧ Upd k w w' := by
 have h0 : w.cell? ⟨k, 0, none⟩ = some (.int .u64 ((lo n0 : Nat) : Int)) := h.cell 0 (by simp)
 have h1 : w.cell? ⟨k, 1, none⟩ = some (.string (hs n0)) := h.cell 1 (by simp)
 have hf := h.frz
 refine ⟨_, ?_, hd_put2 h (.int .u64 ((lo n : Nat) : Int)) (.string (hs n)), ((Upd.refl k w).setCell 0 _).setCell 1 _⟩
 simp [go_sem, Instr.storeAt, Instr.sureAddr, h0, h1, hf]
end Go.Proofs.YtdmoadfnogdfnaaGreatDoor
namespace Go.Proofs.YtdmoadfnogdfnaaGreatDoor.Rx
open Go.RowKit
/-- What an append looks at. -/
theorem Sl.src {w : World} {v : Value} {l : List Nat} (h : Sl w v l) : (v = .slice none 0 0 ∧ l = []) ∨ ∃ ad c, v = .slice (some ad) l.length c ∧ ∀ (j : Nat) (u : Value), (l.map fun (d : Nat) => Value.int .i64 (d : Int))[j]? = some u → w.cell? (ad.add j) = some u := by
 rcases h with ⟨ao, c, rfl, rfl, hc⟩ | ⟨a, c, rfl, _, h3⟩
 ·cases ao with
  | none => exact .inl ⟨by rw [hc rfl], rfl⟩
  | some ad => exact .inr ⟨ad, c, rfl, fun j u hu => by simp at hu⟩
 ·refine .inr ⟨a, c, rfl, fun j u hu => ?_⟩
  rw [List.getElem?_map] at hu
  obtain ⟨x, hx, rfl⟩ := Option.map_eq_some_iff.1 hu
  obtain ⟨hjl, rfl⟩ := List.getElem?_eq_some_iff.1 hx
  exact h3.cell j hjl
end Go.Proofs.YtdmoadfnogdfnaaGreatDoor.Rx
namespace Go.Proofs.YtdmoadfnogdfnaaGreatDoor.Rx
open Go.RowKit
attribute [local irreducible] tv dg
end Go.Proofs.YtdmoadfnogdfnaaGreatDoor.Rx
namespace Go.Proofs.YtdmoadfnogdfnaaGreatDoor.Rx
open Go.RowKit
attribute [local irreducible] tv dg
end Go.Proofs.YtdmoadfnogdfnaaGreatDoor.Rx
namespace Go.Proofs.YtdmoadfnogdfnaaGreatDoor.Rx
open Go.RowKit
attribute [local irreducible] tv dg
end Go.Proofs.YtdmoadfnogdfnaaGreatDoor.Rx
namespace Go.Proofs.YtdmoadfnogdfnaaGreatDoor.Rx
open Go.RowKit
attribute [local irreducible] tv dg
section
variable {w w' : World} {g : Nat} {l : List Nat}
end
end Go.Proofs.YtdmoadfnogdfnaaGreatDoor.Rx
namespace Go.Proofs.YtdmoadfnogdfnaaGreatDoor.Rx
open Go.RowKit
attribute [local irreducible] tv dg
theorem td_add_le {a b k : Nat} (ha : (td a).length ≤ k) (hb : (td b).length ≤ k) : (td (a + b)).length ≤ k + 1 := by
 have h1 := td_length.1 ha
 have h2 := td_length.1 hb
 refine td_length.2 ?_
 rw [Nat.pow_succ]
 omega
/-- The reference's digits of a number of few words. -/
theorem td_made {l : List Nat} (h : ∀ x ∈ l, x < 4294967296) : (td (made l)).length ≤ 3 * l.length := by
 refine td_length.2 ?_
 induction l with
 | nil => exact Nat.one_pos
 | cons x l ih =>
  have h1 := ih fun y hy => h y (List.mem_cons_of_mem _ hy)
  have h2 := h x List.mem_cons_self
  rw [made, List.length_cons, Nat.mul_add, Nat.pow_add]
  rw [show (10000 : Nat) ^ (3 * 1) = 1000000000000 by rfl]
  generalize 10000 ^ (3 * l.length) = X at *
  omega
set_option maxHeartbeats 4000000 in
set_option maxRecDepth 100000 in
theorem rofw_row (a : Addr) (cc : Nat) (l : List Nat) (hl : l.length ≤ 1000) (w : World) (hw : Wd w a l) :
    Calls Tryz.prog 98 #[.slice (some a) l.length cc] w fun e w' => ∃ v, e = .returned v ∧ Rn w' v (made l) ∧ Below w.heap.size w w' := by
  obtain ⟨n, hn⟩ : ∃ n, n = l.length := ⟨_, rfl⟩
  rw [← hn] at hl ⊢
  have HW := Lib.hid hw
  have hst : made (l.drop n) = 0 := by rw [List.drop_eq_nil_of_le (by omega)]; rfl
  replace hst := Lib.hid hst
  replace hn := Lib.hid hn
  clear hw
  go_enter Tryz.func98, Tryz.ntmps98
  go_wp2_with fail
  go_loopw [3, 4] (fun v z wr => ∃ (j : Nat), j ≤ n ∧ z = .int .i64 ((j : Int) - 1) ∧ Rn wr v (made (l.drop j)) ∧ Below w.heap.size w wr) (fun _ z _ => (intOf z + 1).toNat)
  case atStart => exact ⟨n, Nat.le_refl _, by first | rfl | go_num, by rw [hst.out]; exact rn_nil _, Below.refl _ _⟩
  case round =>
    obtain ⟨j, hj, rfl, hv, hbl⟩ := hrel
    replace hv := Lib.hid hv
    cases j with
    | zero =>
      rw [List.drop_zero] at hv
      go_wp2_with fail
      go_ret
      exact ⟨_, rfl, hv.out, hbl⟩
    | succ i =>
      have hi : i < l.length := by have := hn.out; omega
      obtain ⟨x, hx⟩ : ∃ x, x = l[i] := ⟨_, rfl⟩
      have hx32 : x < 4294967296 := by rw [hx]; exact HW.out.lt _ (List.getElem_mem hi)
      have hmd : made (l.drop i) = made (l.drop (i + 1)) * 4294967296 + x := by
        rw [List.drop_eq_getElem_cons hi, made, ← hx]; omega
      have hcell : wr.cell? (a.add i) = some (.int .u32 (x : Int)) := by rw [hx]; exact (HW.out.below hbl).cell i hi
      have hlt := fun (y : Nat) (hy : y ∈ l.drop (i + 1)) => HW.out.lt y (List.mem_of_mem_drop hy)
      have htd : (td (made (l.drop (i + 1)))).length ≤ 3000 := Nat.le_trans (td_made hlt) (by rw [List.length_drop]; have := hn.out; omega)
      have htd2 : (td (made (l.drop (i + 1)) * 4294967296)).length ≤ 3003 := td_mul_le htd (show (td 4294967296).length ≤ 3 from td_length.2 (by decide))
      generalize made (l.drop (i + 1)) = m at *
      obtain ⟨C, hC⟩ : ∃ C, C = 4294967296 := ⟨_, rfl⟩
      have O1 := fun w => rof_val 4294967296 C (by rw [hC]; rfl) (by omega) w
      have O2 := fun w => rof_any x (by omega) w
      have M := fun va vb w ha hb => rmul_any va vb m C (by omega) (by have : (td C).length ≤ 3 := by rw [hC]; exact td_length.2 (by decide)
                                                                       omega) w ha hb
      have A := fun va vb w ha hb => radd_any va vb (m * C) x (by rw [hC]; omega) (by have : (td x).length ≤ 3 := td_length.2 (by omega)
                                                                                      omega) w ha hb
      rw [hC, ← hmd, ← hC] at A
      rw [← hC] at hmd
      replace hmd := Lib.hid hmd
      replace O1 := Lib.hid O1
      replace O2 := Lib.hid O2
      replace M := Lib.hid M
      replace A := Lib.hid A
      have hin : (i : Int) < (n : Int) := by have := hn.out; omega
      have hib : (i : Int) ≤ 1000 := by omega
      have hwx : IntKind.u64.wrap (x : Int) = (x : Int) := wrapN _ (by omega)
      have e1 : (((i + 1 : Nat) : Int) - 1) = (i : Int) := by omega
      rw [e1]
      clear hx hC htd htd2 hlt hx32
      go_wp2_with fail
      have hcd : wr.drew.cell? (a.add i) = some (.int .u32 (x : Int)) := hcell
      have hak : (a.add i).block < wr.drew.heap.size := by rw [addB]; exact Nat.lt_of_lt_of_le HW.out.blk hbl.size
      have hv0 := Lib.hid hv.out.drew
      go_region_held3 (fun w' => w'.cell? (a.add i) = some (.int .u32 (x : Int)))
        (first | exact hcd | exact hc1 | exact hc2 | exact hc3 | exact hc4)
        (first
          | (go_at_call 152; ((with_reducible refine Calls.mono (O1.out _) ?_); rintro e w1 ⟨v1, rfl, hv1, hb1⟩; have hc1 := (hb1.cell (p := a.add i) hak).trans hcd; replace hv1 := Lib.hid hv1))
          | (go_at_call 108; ((with_reducible refine Calls.mono (M.out _ _ _ (hv0.out.below hb1) hv1.out) ?_); rintro e w2 ⟨v2, rfl, hv2, hb2⟩; have hc2 := (hb2.cell (p := a.add i) (Nat.lt_of_lt_of_le hak hb1.size)).trans hc1; replace hv2 := Lib.hid hv2))
          | (go_at_call 152; ((with_reducible refine Calls.mono (O2.out _) ?_); rintro e w3 ⟨v3, rfl, hv3, hb3⟩; have hc3 := (hb3.cell (p := a.add i) (Nat.lt_of_lt_of_le hak (Nat.le_trans hb1.size hb2.size))).trans hc2; replace hv3 := Lib.hid hv3))
          | (go_at_call 103; ((with_reducible refine Calls.mono (A.out _ _ _ (hv2.out.below hb3) hv3.out) ?_); rintro e w4 ⟨v4, rfl, hv4, hb4⟩; have hc4 := (hb4.cell (p := a.add i) (Nat.lt_of_lt_of_le hak (Nat.le_trans hb1.size (Nat.le_trans hb2.size hb3.size)))).trans hc3; replace hv4 := Lib.hid hv4)))
      go_wp2_with fail
      go_roundw
      case rel => exact ⟨i, by omega, by first | rfl | go_num, hv4.out, (((hbl.drew.trans (hb1.mono hbl.size)).trans (hb2.mono (Nat.le_trans hbl.size hb1.size))).trans (hb3.mono (Nat.le_trans hbl.size (Nat.le_trans hb1.size hb2.size)))).trans (hb4.mono (Nat.le_trans hbl.size (Nat.le_trans hb1.size (Nat.le_trans hb2.size hb3.size))))⟩
      case measure => simp [intOf]
end Go.Proofs.YtdmoadfnogdfnaaGreatDoor.Rx
namespace Go.Proofs.YtdmoadfnogdfnaaGreatDoor.Rx
open Go.RowKit
attribute [local irreducible] tv dg cmpI
theorem rofw_nil (ao : Option Addr) (c : Nat) (w : World) :
  Calls Tryz.prog 98 #[.slice ao 0 c] w fun e w' => ∃ v, e = .returned v ∧ Rn w' v 0 ∧ Below w.heap.size w w' := by
 go_enter Tryz.func98, Tryz.ntmps98
 go_wp2_with fail
 go_loopw [3, 4] (fun v z wr => v = .slice none 0 0 ∧ z = .int .i64 (-1) ∧ wr = w) (fun _ z _ => (intOf z + 1).toNat)
 case atStart => exact ⟨rfl, rfl, rfl⟩
 case round =>
  obtain ⟨rfl, rfl, rfl⟩ := hrel
  go_wp2_with fail
  go_ret
  exact ⟨_, rfl, rn_nil _, Below.refl _ _⟩
theorem rofw_any (v : Value) (l : List Nat) (hl : l.length ≤ 1000) (w : World) (h : Ws w v l) :
  Calls Tryz.prog 98 #[v] w fun e w' => ∃ v, e = .returned v ∧ Rn w' v (made l) ∧ Below w.heap.size w w' := by
 rcases h with ⟨ao, c, rfl, rfl⟩ | ⟨a, c, rfl, h2⟩
 ·exact rofw_nil ao c w
 ·exact rofw_row a c l hl w h2
end Go.Proofs.YtdmoadfnogdfnaaGreatDoor.Rx
namespace Go.Proofs.YtdmoadfnogdfnaaGreatDoor.Rx
open Go.RowKit
attribute [local irreducible] tv dg cmpI
end Go.Proofs.YtdmoadfnogdfnaaGreatDoor.Rx
namespace Go.Proofs.YtdmoadfnogdfnaaGreatDoor
open Go.Lib (decDigits nDigits)
theorem dval_cons (c : UInt8) (l : List UInt8) : dval (c :: l) = (c.toNat - 48) * 10 ^ l.length + dval l := by
 have := dval_append [c] l
 rw [List.singleton_append] at this
 rw [this]
 show dval ([] ++ [c]) * _ + _ = _
 rw [dval_snoc, dval_nil, Nat.zero_mul, Nat.zero_add]
theorem bless_dval {a b : List UInt8} (hl : a.length = b.length) (ha : ∀ c ∈ a, isDig c) (hb : ∀ c ∈ b, isDig c) : bless a b = decide (dval a < dval b) := by
 induction a generalizing b with
 | nil =>
  have := (List.eq_nil_of_length_eq_zero hl.symm); subst this; simp [bless]
 | cons x a ih =>
  cases b with
  | nil => cases hl
  | cons y b =>
   have hl' : a.length = b.length := by simpa using hl
   have h1 := dval_lt (l := a) fun c hc => ha c (List.mem_cons_of_mem _ hc)
   have h2 := dval_lt (l := b) fun c hc => hb c (List.mem_cons_of_mem _ hc)
   have hx := ha x List.mem_cons_self
   have hy := hb y List.mem_cons_self
   unfold isDig at hx hy
   rw [hl'] at h1
   simp only [bless, dval_cons, hl', ih hl' (fun c hc => ha c (List.mem_cons_of_mem _ hc)) (fun c hc => hb c (List.mem_cons_of_mem _ hc))]
   have hm : ∀ p q : Nat, p < q → p * 10 ^ b.length + 10 ^ b.length ≤ q * 10 ^ b.length := fun p q h => by
    rw [← Nat.succ_mul]; exact Nat.mul_le_mul_right _ h
   rcases Nat.lt_trichotomy x.toNat y.toNat with h | h | h
   ·have := hm (x.toNat - 48) (y.toNat - 48) (by omega)
    have hxy : x < y := UInt8.lt_iff_toNat_lt.2 h
    simp [hxy]; omega
   ·have hxy : x = y := UInt8.toNat_inj.1 h
    subst hxy
    simp
   ·have := hm (y.toNat - 48) (x.toNat - 48) (by omega)
    have hxy : ¬ x < y := fun hh => by have := UInt8.lt_iff_toNat_lt.1 hh; omega
    have hne : (x == y) = false := by simp; intro hh; subst hh; omega
    rw [hne]
    simp only [hxy, decide_false, Bool.false_or, Bool.false_and]
    exact (decide_eq_false (by omega)).symm
theorem dec_len_mono {a b : Nat} (h : a ≤ b) : (decDigits a).length ≤ (decDigits b).length := by
 have h1 := (dec_length_lt (n := b) (dec_length_pos b)).1 (Nat.le_refl _)
 exact (dec_length_lt (dec_length_pos b)).2 (Nat.lt_of_le_of_lt h h1)
theorem dec_less {a b : Nat} (hl : (decDigits a).length = (decDigits b).length) : bless (decDigits a) (decDigits b) = decide (a < b) := by
 rw [bless_dval hl (dec_isDig a) (dec_isDig b), dval_dec, dval_dec]
end Go.Proofs.YtdmoadfnogdfnaaGreatDoor
namespace Go.Proofs.YtdmoadfnogdfnaaGreatDoor.Rx
open Go.RowKit
open Go.Lib (decDigits)
attribute [local irreducible] tv dg cmpI
theorem pad_cons : ∀ (k r : Nat), pad (k + 1) r = dch (r / 10 ^ k % 10) :: pad k r
 | 0, r => by rw [pad, pad, Nat.pow_zero, Nat.div_one]; rfl
 | k + 1, r => by
  rw [pad, pad_cons k (r / 10), pad, List.cons_append, Nat.div_div_eq_div_mul, Nat.pow_succ, Nat.mul_comm 10]
theorem enc_dig (q : Nat) : Utf8.encode (48 + (q : Int) % 10) = ⟨#[dch (q % 10)]⟩ := by
 have h1 : Utf8.valid (48 + (q : Int) % 10) = true := by unfold Utf8.valid; simp; omega
 have h2 : (48 + (q : Int) % 10).toNat = 48 + q % 10 := by omega
 unfold Utf8.encode dch
 simp only [h1, if_true, h2]
 rw [if_pos (by omega)]
theorem ba_cons (c : UInt8) (S : List UInt8) : (⟨#[c]⟩ : ByteArray) ++ ⟨S.toArray⟩ = ⟨(c :: S).toArray⟩ := by
 apply ByteArray.ext
 simp [ByteArray.data_append]
theorem pad_dec {k r : Nat} (h1 : r < 10 ^ k) (h2 : k = 0 ∨ 0 < r / 10 ^ (k - 1)) (hr : 0 < r) : pad k r = decDigits r := by
  have hk : 0 < k := by rcases Nat.eq_zero_or_pos k with h | h; · rw [h, Nat.pow_zero] at h1; omega
                        · exact h
  obtain ⟨e1, e2⟩ := pad_eq k r hk h1
  have h3 : 0 < r / 10 ^ (k - 1) := by rcases h2 with h | h; · omega
                                       · exact h
  have h4 : (decDigits r).length = k := by
    refine Nat.le_antisymm e2 (Nat.le_of_not_lt fun hlt => ?_)
    have h5 : 10 ^ (k - 1) ≤ r := by
      rcases Nat.lt_or_ge r (10 ^ (k - 1)) with h | h
      · rw [Nat.div_eq_of_lt h] at h3; omega
      · exact h
    rcases Nat.eq_zero_or_pos (k - 1) with h0 | h0
    · have := dec_length_pos r; omega
    · have := (dec_length_lt h0).1 (show (decDigits r).length ≤ k - 1 by omega); omega
  rw [e1, h4, Nat.sub_self, List.replicate_zero, List.nil_append]
theorem dec_td {n K : Nat} (hl : (td n).length ≤ K) (hK : 0 < K) : (decDigits n).length ≤ 4 * K := by
 refine (dec_length_lt (by omega)).2 ?_
 have := td_length.1 hl
 rwa [show (10000 : Nat) = 10 ^ 4 by rfl, ← Nat.pow_mul] at this
set_option maxHeartbeats 4000000 in
set_option maxRecDepth 100000 in
theorem rtext_any (v : Value) (n : Nat) (hl : (td n).length ≤ 1000000) (w : World) (hv : Rn w v n) :
    Calls Tryz.prog 41 #[v] w fun e w' => e = .returned (.string (txt n)) ∧ Below w.heap.size w w' := by
  obtain ⟨aa, ca, ea, hva⟩ := hv.view
  subst ea
  have hdl := dec_td hl (by omega)
  obtain ⟨L, hL⟩ : ∃ L, L = (td n).length := ⟨_, rfl⟩
  rw [← hL] at hl hva ⊢
  replace hva := Lib.hid hva
  replace hdl := Lib.hid hdl
  clear hv
  rcases Nat.eq_zero_or_pos L with h0 | h0
  · have hz : n = 0 := td_nil.1 (List.eq_nil_of_length_eq_zero (by rw [← hL]; exact h0))
    have ht : txt n = ⟨#[48]⟩ := by
      unfold txt
      rw [hz, dec_small (by omega)]; rfl
    replace ht := Lib.hid ht
    subst h0
    clear hL hz
    go_enter Tryz.func41, Tryz.ntmps41
    go_wp2_with fail
    go_ret
    exact ⟨by rw [ht.out]; rfl, Below.refl _ _⟩
  · obtain ⟨aA, rfl, -, sA⟩ := hva.out h0
    have hTS := Lib.hid (TS.start (n := n) (by rw [← hL]; exact h0))
    have k1 : ((L : Int) == 0) = false := beq_eq_false_iff_ne.2 (by omega)
    have k1' : (L == 0) = false := beq_eq_false_iff_ne.2 (by omega)
    replace hL := Lib.hid hL
    replace sA := Lib.hid sA
    go_enter Tryz.func41, Tryz.ntmps41
    go_wp2_with fail
    go_loopw [3, 4] (fun s j wr => ∃ (i : Nat) (T : List UInt8), s = .string ⟨T.toArray⟩ ∧ j = .int .i64 (i : Int) ∧ i ≤ L ∧ TS n i T ∧ wr = w) (fun _ j _ => L - (intOf j).toNat)
    case atStart => exact ⟨0, [], rfl, rfl, Nat.zero_le _, hTS.out, rfl⟩
    case round =>
      obtain ⟨i, T, rfl, rfl, hi, hT, rfl⟩ := hrel
      rcases Nat.lt_or_ge i L with hin | hin
      · have k2 : (i : Int) < (L : Int) := by omega
        have hib : (i : Int) ≤ 1000000 := by omega
        have iA : i < (td n).length := by have := hL.out; omega
        have hcell := sA.out.cell i iA
        have hTl := hT.len
        have hdl' := hdl.out
        have hst := hT.step iA
        have hla := hT.last iA
        have hD := td_lt n _ (List.getElem_mem iA)
        clear hT
        obtain ⟨D, hDe⟩ : ∃ D, D = (td n)[i] := ⟨_, rfl⟩
        rw [← hDe] at hcell hD hst hla
        replace hst := Lib.hid hst
        replace hla := Lib.hid hla
        replace hDe := Lib.hid hDe
        go_wp2_with fail
        go_loopw [3, 5, 6] (fun s d j wx => ∃ (k : Nat), s = .string ⟨(pad k D ++ T).toArray⟩ ∧ d = .int .i64 ((D / 10 ^ k : Nat) : Int) ∧ j = .int .i64 (k : Int) ∧ k ≤ 4 ∧ (i + 1 = L → k = 0 ∨ 0 < D / 10 ^ (k - 1)) ∧ wx = wr) (fun _ _ j _ => 4 - (intOf j).toNat)
        case atStart => exact ⟨0, by rw [pad]; rfl, by rw [Nat.pow_zero, Nat.div_one], rfl, Nat.zero_le _, fun _ => .inl rfl, rfl⟩
        case round =>
          obtain ⟨k, rfl, rfl, rfl, hk, hlast, rfl⟩ := hrel
          have hTk : (pad k D ++ T).length ≤ 4000004 := by rw [List.length_append, pad_length]; omega
          have hnext : (pad (k + 1) D ++ T) = dch (D / 10 ^ k % 10) :: (pad k D ++ T) := by rw [pad_cons, List.cons_append]
          have hq : D / 10 ^ (k + 1) = D / 10 ^ k / 10 := by rw [Nat.pow_succ, ← Nat.div_div_eq_div_mul]
          obtain ⟨q, hqe⟩ : ∃ q, q = D / 10 ^ k := ⟨_, rfl⟩
          have hqD : q ≤ D := by rw [hqe]; exact Nat.div_le_self _ _
          rw [← hqe] at hnext hq ⊢
          generalize hSe : pad k D ++ T = S at *
          replace hSe := Lib.hid hSe
          replace hnext := Lib.hid hnext
          replace hq := Lib.hid hq
          replace hqe := Lib.hid hqe
          replace hlast := Lib.hid hlast
          have hcase : (k < 4 ∧ i + 1 < L) ∨ (k < 4 ∧ ¬ (i + 1 < L) ∧ 0 < q) ∨ (k < 4 ∧ ¬ (i + 1 < L) ∧ q = 0) ∨ k = 4 := by omega
          have henc := enc_dig q
          obtain ⟨ch, hch⟩ : ∃ ch, ch = dch (q % 10) := ⟨_, rfl⟩
          rw [← hch] at henc hnext
          replace hch := Lib.hid hch
          have hqB : (q : Int) ≤ 10000 := by omega
          have hsz : (⟨S.toArray⟩ : ByteArray).size = S.length := rfl
          rcases hcase with ⟨c1, c2⟩ | ⟨c1, c2, c3⟩ | ⟨c1, c2, c3⟩ | c1
          · have d1 : (k : Int) < 4 := by omega
            have d2 : (i : Int) + 1 < (L : Int) := by omega
            go_wp2_with fail
            go_roundw
            case rel => exact ⟨k + 1, (by rw [ba_cons, hnext.out]), (by rw [hq.out]; first | rfl | go_num), by first | rfl | go_num, by omega, (fun h => by omega), trivial⟩
            case measure => simp [intOf]; omega
          · have d1 : (k : Int) < 4 := by omega
            have d2 : ¬ (i : Int) + 1 < (L : Int) := by omega
            have d3 : (0 : Int) < (q : Int) := by omega
            go_wp2_with fail
            go_roundw
            case rel => exact ⟨k + 1, (by rw [ba_cons, hnext.out]), (by rw [hq.out]; first | rfl | go_num), by first | rfl | go_num, by omega, (fun h => .inr (by rw [Nat.add_sub_cancel, ← hqe.out]; omega)), trivial⟩
            case measure => simp [intOf]; omega
          · have hdone : TS n (i + 1) S := by
              have hl1 := hla.out (by have := hL.out; omega)
              have hp : pad k D = decDigits D := pad_dec (by have h1 := hqe.out; rw [c3] at h1; rcases Nat.lt_or_ge D (10 ^ k) with h | h; · exact h
                                                             · have := (Nat.le_div_iff_mul_le (Nat.pow_pos (n := k) (show 0 < 10 by omega))).2 (show 1 * 10 ^ k ≤ D by omega); omega) (hlast.out (by omega)) hl1.1
              rw [← hSe.out, hp]
              exact hl1.2
            replace hdone := Lib.hid hdone
            subst c3
            have d1 : (k : Int) < 4 := by omega
            have d2 : ¬ (i : Int) + 1 < (L : Int) := by omega
            go_wp2_with fail
            go_roundw
            case rel => exact ⟨i + 1, S, rfl, by first | rfl | go_num, by omega, hdone.out, by trivial⟩
            case measure => simp [intOf]; omega
          · have hdone : TS n (i + 1) S := by
              subst c1
              by_cases h : i + 1 < L
              · rw [← hSe.out]; exact hst.out (by have := hL.out; omega)
              · have hl1 := hla.out (by have := hL.out; omega)
                have hp : pad 4 D = decDigits D := pad_dec hD (hlast.out (by omega)) hl1.1
                rw [← hSe.out, hp]
                exact hl1.2
            replace hdone := Lib.hid hdone
            subst c1
            go_wp2_with fail
            go_roundw
            case rel => exact ⟨i + 1, S, rfl, by first | rfl | go_num, by omega, hdone.out, by trivial⟩
            case measure => simp [intOf]; omega
      · have k2 : ¬ (i : Int) < (L : Int) := by omega
        have hTe : T = decDigits n := by
          rcases hT with ⟨h1, h2⟩ | ⟨h1, h2⟩
          · have := hL.out; omega
          · exact h2
        have ht : txt n = ⟨T.toArray⟩ := by rw [hTe]; rfl
        replace ht := Lib.hid ht
        clear hT hTe
        go_wp2_with fail
        go_ret
        exact ⟨by rw [ht.out]; rfl, Below.refl _ _⟩
end Go.Proofs.YtdmoadfnogdfnaaGreatDoor.Rx
namespace Go.Proofs.YtdmoadfnogdfnaaGreatDoor.Rx
open Go.RowKit
attribute [local irreducible] lo hs tv dg cmpI txt decB
set_option maxHeartbeats 2000000 in
set_option maxRecDepth 100000 in
theorem same_any (n : Nat) (v : Value) (hd : (digs n).length ≤ 1000000) (ht : (td n).length ≤ 1000000) (w : World) (htab : Tab w) (hv : Rn w v n) :
  Calls Tryz.prog 101 #[natV n, v] w fun e w' => e = .returned (.bool true) ∧ Below w.heap.size w w' := by
 obtain ⟨w0, hw0, hA, hb0, hsz⟩ := boxes1 w (.int .u64 ((lo n : Nat) : Int)) (.string (hs n)) 32
 obtain ⟨a0, a1, af⟩ := id hA
 have T1 := Lib.hid (fun (wx : World) (hh : Below w.heap.size w wx) => text_any n hd wx (htab.below hh))
 have T2 := Lib.hid (fun (wx : World) (hh : Below w.heap.size w wx) => rtext_any v n ht wx (hv.below hh))
 clear hv htab hA
 go_enter Tryz.func101, Tryz.ntmps101
 go_wp2_with fail
 with_reducible refine Calls.mono (T1.out _ hb0) ?_
 rintro e w1 ⟨rfl, hb1⟩
 have hb01 := hb0.trans (hb1.mono hb0.size)
 go_wp2_with fail
 with_reducible refine Calls.mono (T2.out _ hb01) ?_
 rintro e w2 ⟨rfl, hb2⟩
 have hb02 := hb01.trans (hb2.mono hb01.size)
 clear hb1 hb2 hb01
 go_wp2_with fail
 go_ret
 exact ⟨rfl, hb02⟩
end Go.Proofs.YtdmoadfnogdfnaaGreatDoor.Rx
namespace Go.Proofs.YtdmoadfnogdfnaaGreatDoor.Rx
open Go.RowKit
attribute [local irreducible] tv dg cmpI txt decB
theorem rparse_long (l : List UInt8) (h : 4096 < l.length) (hl : l.length ≤ 1000000) (w : World) :
  Calls Tryz.prog 119 #[.string (st l)] w fun e w' => e = .returned (.tuple #[.slice none 0 0, .int .i64 3]) ∧ Below w.heap.size w w' := by
 have h1 : decide ((4096 : Int) < ((st l).size : Int)) = true := decide_eq_true (by rw [st_size]; omega)
 have h2 : decide (4096 < (st l).size) = true := decide_eq_true (by rw [st_size]; omega)
 go_enter Tryz.func119, Tryz.ntmps119
 go_wp2_with fail
 exact bodyPost_ret (v := .tuple #[.slice none 0 0, .int .i64 3]) (by simp [results, Tryz.results119, go_sem]) rfl ⟨rfl, Below.refl _ _⟩
theorem app_c1 (w : World) (v : Value) (t : TypeId) : ∀ (j : Nat) (u : Value), [v][j]? = some u → (w.alloc (.cells #[v] t)).cell? ((⟨w.heap.size, 0, none⟩ : Addr).add j) = some u := by
 intro j u hj
 match j, hj with
 | 0, hj => simp at hj; subst hj; simp [Addr.add]
theorem app_c2 (k : IntKind) (x : Int) : ∀ u ∈ [Value.int k x], u.oneCell' = true := by
 intro u hu; simp at hu; subst hu; rfl
set_option maxHeartbeats 4000000 in
set_option maxRecDepth 100000 in
theorem rparse_any (l : List UInt8) (h : l.length ≤ 4096) (w : World) :
    Calls Tryz.prog 119 #[.string (st l)] w fun e w' =>
      ((isDec l ∧ ∃ v, e = .returned (.tuple #[v, .int .i64 0]) ∧ Rn w' v (dval l)) ∨ (¬ isDec l ∧ e = .returned (.tuple #[.slice none 0 0, .int .i64 4]))) ∧ Below w.heap.size w w' := by
  obtain ⟨i0, hi, hz0, hz1, hz2⟩ := info_parts Tryz.infoI
  have h1 : decide ((4096 : Int) < ((st l).size : Int)) = false := decide_eq_false (by rw [st_size]; omega)
  have h2 : decide (4096 < (st l).size) = false := decide_eq_false (by rw [st_size]; omega)
  have bad : ¬ isDec l → ∀ e, e = Ending.returned (.tuple #[.slice none 0 0, .int .i64 4]) → ∀ w', Below w.heap.size w w' →
      ((isDec l ∧ ∃ v, e = .returned (.tuple #[v, .int .i64 0]) ∧ Rn w' v (dval l)) ∨ (¬ isDec l ∧ e = .returned (.tuple #[.slice none 0 0, .int .i64 4]))) ∧ Below w.heap.size w w' := fun hb e he w' hw => ⟨.inr ⟨hb, he⟩, hw⟩
  have good : isDec l → ∀ e v, e = Ending.returned (.tuple #[v, .int .i64 0]) → ∀ w', Rn w' v (dval l) → Below w.heap.size w w' →
      ((isDec l ∧ ∃ v, e = .returned (.tuple #[v, .int .i64 0]) ∧ Rn w' v (dval l)) ∨ (¬ isDec l ∧ e = .returned (.tuple #[.slice none 0 0, .int .i64 4]))) ∧ Below w.heap.size w w' := fun hb e v he w' hv hw => ⟨.inl ⟨hb, v, he, hv⟩, hw⟩
  replace bad := Lib.hid bad
  replace good := Lib.hid good
  have hcase : l = [] ∨ (∃ m c, l = 48 :: c :: m) ∨ (l ≠ [] ∧ (l = [48] ∨ l.head? ≠ some 48)) := by
    match l with
    | [] => exact .inl rfl
    | [c] =>
      refine .inr (.inr ⟨by simp, ?_⟩)
      by_cases hc : c = 48
      · exact .inl (by rw [hc])
      · exact .inr (by simpa using hc)
    | c :: d :: m =>
      by_cases hc : c = 48
      · exact .inr (.inl ⟨m, d, by rw [hc]⟩)
      · exact .inr (.inr ⟨by simp, .inr (by simpa using hc)⟩)
  rcases hcase with rfl | ⟨m, c, rfl⟩ | ⟨hne, hhd⟩
  · have hb := Lib.hid (bad.out (fun h => by rcases h.2 with h | h; · cases h
                                             · exact h.1 rfl))
    have h3 : (((st []).size : Int) == 0) = true := rfl
    have h4 : ((st []).size == 0) = true := rfl
    go_enter Tryz.func119, Tryz.ntmps119
    go_wp2_with fail
    exact bodyPost_ret (v := .tuple #[.slice none 0 0, .int .i64 4]) (by simp [results, Tryz.results119, go_sem]) rfl (hb.out _ rfl _ (Below.refl _ _))
  · have hb := Lib.hid (bad.out (fun h => by rcases h.2 with h | ⟨-, h⟩; · simp at h
                                             · exact h rfl))
    have hlt : 0 < (st (48 :: c :: m)).size := by rw [st_size]; simp
    have hget : (st (48 :: c :: m))[0]'hlt = 48 := rfl
    have h3 : (((st (48 :: c :: m)).size : Int) == 0) = false := beq_eq_false_iff_ne.2 (by omega)
    have h4 : ((st (48 :: c :: m)).size == 0) = false := beq_eq_false_iff_ne.2 (by omega)
    have h5 : decide ((1 : Int) < ((st (48 :: c :: m)).size : Int)) = true := decide_eq_true (by rw [st_size]; simp; omega)
    have h6 : decide (1 < (st (48 :: c :: m)).size) = true := decide_eq_true (by rw [st_size]; simp)
    generalize st (48 :: c :: m) = s at *
    go_enter Tryz.func119, Tryz.ntmps119
    go_wp2_with fail
    exact bodyPost_ret (v := .tuple #[.slice none 0 0, .int .i64 4]) (by simp [results, Tryz.results119, go_sem]) rfl (hb.out _ rfl _ (Below.refl _ _))
  · have hpos : 0 < l.length := List.length_pos_iff.2 hne
    obtain ⟨n, hn⟩ : ∃ n, n = l.length := ⟨_, rfl⟩
    have hsz : (st l).size = n := by rw [st_size, hn]
    have hlt0 : 0 < (st l).size := by rw [hsz, hn]; exact hpos
    have hfirst : (((((st l)[0]'hlt0).toNat : Int) == 48) = false) ∨ (((((st l)[0]'hlt0).toNat : Int) == 48) = true ∧ decide ((1 : Int) < (n : Int)) = false ∧ decide (1 < n) = false) := by
      rcases hhd with rfl | hh
      · exact .inr ⟨rfl, by rw [hn]; rfl, by rw [hn]; rfl⟩
      · refine .inl (beq_eq_false_iff_ne.2 fun e => hh ?_)
        have h48 : (st l)[0]'hlt0 = 48 := UInt8.toNat_inj.1 (by show _ = 48; omega)
        have h49 : l[0]'hpos = 48 := h48
        rw [List.head?_eq_getElem?, List.getElem?_eq_getElem hpos, h49]
    have h3 : ((n : Int) == 0) = false := beq_eq_false_iff_ne.2 (by omega)
    have h4 : (n == 0) = false := beq_eq_false_iff_ne.2 (by omega)
    have hD : (∀ c ∈ l, isDig c) → isDec l := fun hd => ⟨hd, by rcases hhd with h | h; · exact .inl h
                                                                · exact .inr ⟨hne, h⟩⟩
    have hnd : ∀ c ∈ l, ¬ isDig c → ¬ isDec l := fun c hc hx hh => hx (hh.1 c hc)
    have hcell : ∀ (i : Nat) (hi : i < n), ∃ c, c ∈ l ∧ l.take (i + 1) = l.take i ++ [c] ∧ (st l)[i]'(by rw [hsz]; exact hi) = c ∧ (∀ m, m ≤ i → (l.drop m).take (i + 1 - m) = (l.drop m).take (i - m) ++ [c]) := fun i hi => by
      have hil : i < l.length := by omega
      refine ⟨l[i], List.getElem_mem hil, by rw [List.take_add_one, List.getElem?_eq_getElem hil]; rfl, rfl, fun m hm => ?_⟩
      rw [show i + 1 - m = (i - m) + 1 by omega, List.take_add_one, List.getElem?_drop, show m + (i - m) = i by omega, List.getElem?_eq_getElem hil]; rfl
    have hn4 : n ≤ 4096 := by omega
    have hst := PS.start l
    rw [← hn] at hst
    have hstep := fun S t e (h : PS l S t e) hd he => h.step hd he
    have hend := fun S t (h : PS l S t 0) => h.eq
    rw [hsz] at h1 h2
    generalize st l = s at *
    have HN := Lib.hid hn
    clear hhd hne hn h
    replace hD := Lib.hid hD
    replace hnd := Lib.hid hnd
    replace hcell := Lib.hid hcell
    replace hst := Lib.hid hst
    replace hstep := Lib.hid hstep
    replace hend := Lib.hid hend
    go_enter Tryz.func119, Tryz.ntmps119
    rcases hfirst with hf | ⟨hf, hf2, hf3⟩
    all_goals (
      go_wp2_with fail
      clear hf
      go_loopw [5] (fun z wx => ∃ i : Nat, i ≤ n ∧ z = .int .i64 (i : Int) ∧ (∀ c ∈ l.take i, isDig c) ∧ w = wx) (fun z _ => n - (intOf z).toNat)
      case atStart => exact ⟨0, Nat.zero_le _, rfl, by simp, rfl⟩
      case round =>
        obtain ⟨i, hin, rfl, hd, rfl⟩ := hrel
        rcases Nat.lt_or_eq_of_le hin with hlt | hie
        · obtain ⟨c, hmem, htk, hget, -⟩ := hcell.out i hlt
          have hls : i < s.size := by rw [hsz]; exact hlt
          have k1 : (i : Int) < (n : Int) := by omega
          have hib : (i : Int) ≤ 4096 := by omega
          replace htk := Lib.hid htk
          by_cases hdg : isDig c
          · have g1 : decide ((c.toNat : Int) < 48) = false := decide_eq_false (by unfold isDig at hdg; omega)
            have g2 : decide (57 < (c.toNat : Int)) = false := decide_eq_false (by unfold isDig at hdg; omega)
            have g3 : (48 : Int) ≤ (c.toNat : Int) := by unfold isDig at hdg; omega
            have g4 : (c.toNat : Int) ≤ 57 := by unfold isDig at hdg; omega
            have HC := Lib.hid (⟨hd, hdg⟩ : (∀ c ∈ l.take i, isDig c) ∧ isDig c)
            clear hd hdg hmem
            go_wp2_with fail
            go_roundw
            case rel =>
              refine ⟨i + 1, hlt, rfl, fun x hx => ?_, trivial⟩
              rw [htk.out] at hx
              rcases List.mem_append.1 hx with hx | hx
              · exact HC.out.1 x hx
              · rw [List.mem_singleton.1 hx]; exact HC.out.2
            case measure => simp [intOf]; omega
          · have hb := Lib.hid (bad.out (hnd.out c hmem hdg))
            have g5 : (c.toNat : Int) < 48 ∨ 57 < (c.toNat : Int) := by unfold isDig at hdg; omega
            clear hd hdg hmem
            rcases g5 with g5 | g5
            · have g1 : decide ((c.toNat : Int) < 48) = true := decide_eq_true g5
              go_wp2_with fail
              exact bodyPost_ret (v := .tuple #[.slice none 0 0, .int .i64 4]) (by simp [results, Tryz.results119, go_sem]) rfl (hb.out _ rfl _ (Below.refl _ _))
            · have g1 : decide ((c.toNat : Int) < 48) = false := decide_eq_false (by omega)
              have g2 : decide (57 < (c.toNat : Int)) = true := decide_eq_true g5
              go_wp2_with fail
              exact bodyPost_ret (v := .tuple #[.slice none 0 0, .int .i64 4]) (by simp [results, Tryz.results119, go_sem]) rfl (hb.out _ rfl _ (Below.refl _ _))
        · have k1 : ¬ (i : Int) < (n : Int) := by omega
          have hda : ∀ c ∈ l, isDig c := fun c hc => hd c (by rw [List.take_of_length_le (by have := HN.out; omega)]; exact hc)
          have hok := Lib.hid (good.out (hD.out hda))
          replace hda := Lib.hid hda
          clear hd bad hnd hD hie
          go_wp2_with fail
          go_loopw [4, 6] (fun v z wx => ∃ (t e : Nat) (S : List Nat) (zi : Int), z = .int .i64 zi ∧ (zi = (e : Int) ∨ (zi ≤ 0 ∧ e = 0)) ∧ -4 ≤ zi ∧ e ≤ n ∧ t ≤ n ∧ PS l S t e ∧ wx.ownsRow w.heap.size 3 1 v t (S.map iv) ∧ Below w.heap.size w wx) (fun _ z _ => (intOf z + 4).toNat)
          case atStart => exact ⟨0, n, [], n, rfl, .inl rfl, by omega, Nat.le_refl _, Nat.zero_le _, hst.out, World.ownsRow_nil _ _ _ _, Below.refl _ _⟩
          case round =>
            obtain ⟨t, e, S, zi, rfl, hze, hz4, hen, htn, hS, hown, hbl⟩ := hrel
            rcases Nat.eq_zero_or_pos e with he | he
            · subst he
              have k2 : ¬ (0 : Int) < zi := by omega
              have hT : tv S = dval l := by
                have := hend.out S t hS
                rw [List.take_zero, dval_nil, Nat.mul_zero, Nat.add_zero] at this
                exact this
              have HT := trim_any u4 S hS.lt (by rw [hS.len]; omega) wr (Sl.owned hown hS.len.symm)
              rw [hT] at HT
              replace HT := Lib.hid HT
              clear hT hS hown hze
              go_wp2_with fail
              with_reducible refine Calls.mono HT.out ?_
              rintro e w1 ⟨v', rfl, hv, rfl⟩
              replace hv := Lib.hid hv
              go_wp2_with fail
              exact bodyPost_ret (v := .tuple #[v', .int .i64 0]) (by simp [results, Tryz.results119, go_sem]) rfl (hok.out _ _ rfl _ hv.out hbl)
            · obtain rfl : zi = (e : Int) := by omega
              obtain ⟨hdl, hnx⟩ := hstep.out S t e hS hda.out he
              have k2 : (0 : Int) < (e : Int) := by omega
              have heb : (e : Int) ≤ 4096 := by omega
              have htb : (t : Int) ≤ 4096 := by omega
              replace hnx := Lib.hid hnx
              have htl : t + 1 ≤ n := by have := hS.pos; have := HN.out; omega
              clear hze hS
              obtain ⟨m, hm⟩ : ∃ m, m = e - 4 := ⟨_, rfl⟩
              rw [← hm] at hdl hnx
              have hmx : ((e : Int) - 4 ≤ 0 ∧ m = 0) ∨ (0 < (e : Int) - 4 ∧ (e : Int) - 4 = (m : Int)) := by omega
              replace hm := Lib.hid hm
              have hmax : max (0 : Int) ((e : Int) - 4) = (m : Int) := by omega
              clear hmx
              go_wp2_with fail
              go_loopw [7, 8] (fun dv jv wx => ∃ i : Nat, m ≤ i ∧ i ≤ e ∧ jv = .int .i64 (i : Int) ∧ dv = .int .i64 ((dval ((l.drop m).take (i - m)) : Nat) : Int) ∧ wx.ownsRow w.heap.size 3 1 u4 t (S.map iv) ∧ Below w.heap.size w wx) (fun _ jv _ => e - (intOf jv).toNat)
              case atStart => exact ⟨m, Nat.le_refl _, by have := hm.out; omega, by first | rfl | go_num, by rw [Nat.sub_self, List.take_zero]; rfl, hown, hbl⟩
              case round =>
                obtain ⟨j, hmj, hje, rfl, rfl, hown2, hbl2⟩ := hrel
                rcases Nat.lt_or_ge j e with hlt | hge
                · obtain ⟨c, hmem, -, hget, hpre⟩ := hcell.out j (by omega)
                  have hls : j < s.size := by rw [hsz]; omega
                  have hnext := hpre m hmj
                  have hdg := hda.out c hmem
                  have hnv : dval ((l.drop m).take (j + 1 - m)) = dval ((l.drop m).take (j - m)) * 10 + (c.toNat - 48) := by rw [hnext, dval_snoc]
                  have hDb : dval ((l.drop m).take (j - m)) < 10000 := by
                    have h1 := dval_lt (l := (l.drop m).take (j - m)) fun c hc => hda.out c (List.mem_of_mem_drop (List.mem_of_mem_take hc))
                    exact Nat.lt_of_lt_of_le h1 (Nat.le_trans (Nat.pow_le_pow_right (by omega) (show _ ≤ 4 by rw [List.length_take]; have := hm.out; omega)) (by decide))
                  have g3 : (48 : Int) ≤ (c.toNat : Int) := by unfold isDig at hdg; omega
                  have g4 : (c.toNat : Int) ≤ 57 := by unfold isDig at hdg; omega
                  generalize dval ((l.drop m).take (j - m)) = D at *
                  replace hnv := Lib.hid hnv
                  clear hpre hnext hdg hmem hdl
                  have k3 : (j : Int) < (e : Int) := by omega
                  have hjb : (j : Int) ≤ 4096 := by omega
                  go_wp2_with fail
                  go_roundw
                  case rel => exact ⟨j + 1, by omega, by omega, by first | rfl | go_num, (by rw [hnv.out]; go_num), hown2, hbl2⟩
                  case measure => simp [intOf]; omega
                · obtain rfl : j = e := by omega
                  have k3 : ¬ (j : Int) < (j : Int) := by omega
                  generalize dval ((l.drop m).take (j - m)) = D at *
                  go_wp2_with (at_builtin; refine wpList_append_own _ rfl _ _ 42 rfl w.heap.size 3 i0 (.int .i64 0) 1 8 Tryz.underlying42 hi hz0 hz1 hz2 rfl (by decide) _ _ _ rfl (hown2.alloc _) ⟨wr.heap.size, 0, none⟩ 1 1 [.int .i64 (D : Int)] rfl rfl (app_c1 _ _ _) (app_c2 _ _) (by unfold maxLen; omega) (by omega) (by have := hbl2.size; simp; omega) ?_)
                  intro v' w1 hown' hgrow _
                  have hn' := Lib.hid (own_snoc (d := D) rfl hown')
                  have hb' := Lib.hid (below_app hbl2 hbl2.size hown2 hgrow)
                  clear hown' hgrow hown2 hbl2 hown hbl
                  go_wp2_with fail
                  go_roundw
                  case rel => exact ⟨t + 1, m, _, (j : Int) - 4, by first | rfl | go_num, (by have := hm.out; omega), by omega, (by have := hm.out; omega), htl, hnx.out, hn'.out, hb'.out⟩
                  case measure => simp [intOf]; omega)
end Go.Proofs.YtdmoadfnogdfnaaGreatDoor.Rx
namespace Go.Proofs.YtdmoadfnogdfnaaGreatDoor.Rx
open Go.RowKit
attribute [local irreducible] tv dg cmpI txt decB nb
theorem td_one : (td 1).length = 1 := by rw [td_pos (by omega), show 1 / 10000 = 0 by rfl, td_zero]; rfl
theorem td_pow_le {a K : Nat} (ha : (td a).length ≤ K) : ∀ i, (td (a ^ i)).length ≤ K * i + 1
 | 0 => by rw [Nat.pow_zero, td_one]; omega
 | i + 1 => by
  have := td_mul_le (td_pow_le ha i) ha
  rw [Nat.pow_succ, Nat.mul_succ]; omega
set_option maxHeartbeats 4000000 in
set_option maxRecDepth 100000 in
theorem rpow_any (v : Value) (a n K : Nat) (hK : (td a).length ≤ K) (hb : K * n + 1 ≤ 1000000) (hK2 : K ≤ 1000000) (hn : n ≤ 1000000) (w : World) (ha : Rn w v a) :
  Calls Tryz.prog 118 #[v, .int .i64 (n : Int)] w fun e w' => ∃ v', e = .returned v' ∧ Rn w' v' (a ^ n) ∧ Below w.heap.size w w' := by
 have O1 := Lib.hid (fun w => rof_val 1 1 rfl (by omega) w)
 have ht := fun i => td_pow_le hK i
 have hbi : ∀ i, i ≤ n → K * i + 1 ≤ 1000000 := fun i hi => Nat.le_trans (Nat.succ_le_succ (Nat.mul_le_mul_left K hi)) hb
 have M := Lib.hid (fun i (hi : i ≤ n) vx w' (hx : Rn w' vx (a ^ i)) (hv : Rn w' v a) => rmul_any vx v (a ^ i) a (Nat.le_trans (ht i) (hbi i hi)) (by omega) w' hx hv)
 replace ha := Lib.hid ha
 clear ht hbi
 go_enter Tryz.func118, Tryz.ntmps118
 go_wp2_with fail
 with_reducible refine Calls.mono (O1.out _) ?_
 rintro e w1 ⟨v1, rfl, hv1, hb1⟩
 have hv1' := Lib.hid hv1
 clear hv1
 go_wp2_with fail
 go_loopw [5, 6] (fun u j wr => ∃ i : Nat, i ≤ n ∧ j = .int .i64 (i : Int) ∧ Rn wr u (a ^ i) ∧ Below w.heap.size w wr) (fun _ j _ => n - (intOf j).toNat)
 case atStart => exact ⟨0, Nat.zero_le _, rfl, by rw [Nat.pow_zero]; exact hv1'.out, hb1⟩
 case round =>
  obtain ⟨i, hi, rfl, hu, hbl⟩ := hrel
  rcases Nat.lt_or_ge i n with hlt | hge
  ·have k1 : (i : Int) < (n : Int) := by omega
   have hib : (i : Int) ≤ 1000000 := by omega
   replace hu := Lib.hid hu
   go_wp2_with fail
   with_reducible refine Calls.mono (M.out i hi _ _ hu.out (ha.out.below hbl)) ?_
   rintro e w2 ⟨v2, rfl, hv2, hb2⟩
   replace hv2 := Lib.hid hv2
   go_wp2_with fail
   go_roundw
   case rel => exact ⟨i + 1, hlt, by first | rfl | go_num, by rw [Nat.pow_succ]; exact hv2.out, hbl.trans (hb2.mono hbl.size)⟩
   case measure => simp [intOf]; omega
  ·have k1 : ¬ (i : Int) < (n : Int) := by omega
   obtain rfl : i = n := by omega
   replace hu := Lib.hid hu
   go_wp2_with fail
   go_ret
   exact ⟨_, rfl, hu.out, hbl⟩
set_option maxHeartbeats 4000000 in
set_option maxRecDepth 100000 in
theorem rbits_any (v : Value) (a : Nat) (hl : (td a).length ≤ 1000) (hnb : nb a ≤ 1000000) (w : World) (ha : Rn w v a) :
  Calls Tryz.prog 84 #[v] w fun e w' => e = .returned (.int .i64 ((nb a : Nat) : Int)) ∧ Below w.heap.size w w' := by
 have O1 := Lib.hid (fun w => rof_val 1 1 rfl (by omega) w)
 have ht : ∀ i, i ≤ nb a → (td (2 ^ i)).length ≤ 1001 := fun i hi => by
  rcases Nat.eq_zero_or_pos i with h0 | h0
  ·rw [h0, Nat.pow_zero, td_one]; omega
  ·have hne : a ≠ 0 := fun e => by rw [e, nb_zero] at hi; omega
   obtain ⟨k, h1, h2, -⟩ := nb_spec hne
   have h3 : 2 ^ i ≤ a + a := by
    have : 2 ^ i ≤ 2 ^ (k + 1) := Nat.pow_le_pow_right (by omega) (by omega)
    rw [Nat.pow_succ] at this; omega
   exact Nat.le_trans (td_mono h3) (td_add_le hl hl)
 have A := Lib.hid (fun i (hi : i ≤ nb a) vx w' (hx : Rn w' vx (2 ^ i)) => radd_any vx vx (2 ^ i) (2 ^ i) (Nat.le_trans (ht i hi) (by omega)) (Nat.le_trans (ht i hi) (by omega)) w' hx hx)
 have C := Lib.hid (fun i (hi : i ≤ nb a) vx w' (hx : Rn w' vx (2 ^ i)) (hv : Rn w' v a) => rcmp_any vx v (2 ^ i) a (Nat.le_trans (ht i hi) (by omega)) (by omega) w' hx hv)
 have hlow : ∀ i, i < nb a → 2 ^ i ≤ a := fun i hi => by
  have hne : a ≠ 0 := fun e => by rw [e, nb_zero] at hi; omega
  obtain ⟨k, h1, h2, -⟩ := nb_spec hne
  exact Nat.le_trans (Nat.pow_le_pow_right (by omega) (show i ≤ k by omega)) h2
 have hhigh := nb_lt a
 replace hlow := Lib.hid hlow
 replace hhigh := Lib.hid hhigh
 replace ha := Lib.hid ha
 clear ht
 obtain ⟨n, hn⟩ : ∃ n, n = nb a := ⟨_, rfl⟩
 rw [← hn] at A C hlow hhigh hnb ⊢
 clear hn
 go_enter Tryz.func84, Tryz.ntmps84
 go_wp2_with fail
 with_reducible refine Calls.mono (O1.out _) ?_
 rintro e w1 ⟨v1, rfl, hv1, hb1⟩
 have hv1' := Lib.hid hv1
 clear hv1
 go_wp2_with fail
 go_loopw [3, 4] (fun j u wr => ∃ i : Nat, i ≤ n ∧ j = .int .i64 (i : Int) ∧ Rn wr u (2 ^ i) ∧ Below w.heap.size w wr) (fun j _ _ => n - (intOf j).toNat)
 case atStart => exact ⟨0, Nat.zero_le _, rfl, by rw [Nat.pow_zero]; exact hv1'.out, hb1⟩
 case round =>
  obtain ⟨i, hi, rfl, hu, hbl⟩ := hrel
  replace hu := Lib.hid hu
  have hib : (i : Int) ≤ 1000000 := by omega
  rcases Nat.lt_or_ge i n with hlt | hge
  ·have k1 : decide (cmpI (2 ^ i) a ≤ 0) = true := decide_eq_true (by have := hlow.out i hlt; unfold cmpI; split <;> (try split) <;> omega)
   have C1 := Lib.hid (fun vx w' hx hv => C.out i hi vx w' hx hv)
   generalize cmpI (2 ^ i) a = z at *
   go_wp2_with fail
   with_reducible refine Calls.mono (C1.out _ _ hu.out (ha.out.below hbl)) ?_
   rintro e w2 ⟨rfl, hb2⟩
   have hu2 := Lib.hid (hu.out.below hb2)
   have hbl2 := hbl.trans (hb2.mono hbl.size)
   clear hb2
   go_wp2_with fail
   with_reducible refine Calls.mono (A.out i hi _ _ hu2.out) ?_
   rintro e w3 ⟨v3, rfl, hv3, hb3⟩
   replace hv3 := Lib.hid hv3
   go_wp2_with fail
   go_roundw
   case rel => exact ⟨i + 1, hlt, by first | rfl | go_num, by rw [Nat.pow_succ, Nat.mul_two]; exact hv3.out, hbl2.trans (hb3.mono hbl2.size)⟩
   case measure => simp [intOf]; omega
  ·obtain rfl : i = n := by omega
   have k1 : decide (cmpI (2 ^ i) a ≤ 0) = false := decide_eq_false (by rw [cmpI_gt hhigh.out]; omega)
   have C1 := Lib.hid (fun vx w' hx hv => C.out i hi vx w' hx hv)
   generalize cmpI (2 ^ i) a = z at *
   go_wp2_with fail
   with_reducible refine Calls.mono (C1.out _ _ hu.out (ha.out.below hbl)) ?_
   rintro e w2 ⟨rfl, hb2⟩
   have hbl2 := hbl.trans (hb2.mono hbl.size)
   clear hb2
   go_wp2_with fail
   go_ret
   exact ⟨rfl, hbl2⟩
end Go.Proofs.YtdmoadfnogdfnaaGreatDoor.Rx
namespace Go.Proofs.YtdmoadfnogdfnaaGreatDoor.Rx
open Go.RowKit
attribute [local irreducible] tv dg cmpI txt decB nb isq
set_option maxHeartbeats 8000000 in
set_option maxRecDepth 100000 in
theorem rsqrt_any (v : Value) (a : Nat) (hl : (td a).length ≤ 1000) (w : World) (ha : Rn w v a) :
  Calls Tryz.prog 117 #[v] w fun e w' => ∃ v', e = .returned v' ∧ Rn w' v' (isq a) ∧ Below w.heap.size w w' := by
 obtain ⟨i0, hi, hz0, hz1, hz2⟩ := info_parts Tryz.infoI
 obtain ⟨ao, ca, ea⟩ := ha.form
 subst ea
 obtain ⟨L, hL⟩ : ∃ L, L = (td a).length := ⟨_, rfl⟩
 obtain ⟨m, hm⟩ : ∃ m, m = (L + 1) / 2 := ⟨_, rfl⟩
 have hst := SqS.start a m (by omega)
 rw [← hL] at hl ha ⊢
 have hmk : ∀ w, (Instr.makeSlice 42 (.int .i64 (((L : Int) + 1) / 2)) (.int .i64 (((L : Int) + 1) / 2))).run Tryz.prog w = .ok (.slice (some ⟨w.heap.size, 0, none⟩) m m) (w.alloc (zobjI m)) :=
  fun w => makeN w _ m (by omega) (by omega)
 have hz := Lib.hid (IB.zeros w m)
 have hmL : m ≤ 501 := by omega
 have hta : (td a).length ≤ 1000 := by rw [← hL]; exact hl
 replace hst := Lib.hid hst
 replace ha := Lib.hid ha
 replace hL := Lib.hid hL
 replace hm := Lib.hid hm
 replace hta := Lib.hid hta
 go_enter Tryz.func117, Tryz.ntmps117
 go_wp2_with fail
 go_loopw [4] (fun z wr => ∃ (j : Nat) (X : List Nat), z = .int .i64 ((j : Int) - 1) ∧ j ≤ m ∧ X.length = m ∧ SqS a j X ∧ IB wr w.heap.size X ∧ Below w.heap.size w wr) (fun z _ => (intOf z + 1).toNat)
 case atStart => exact ⟨m, _, by first | rfl | go_num, Nat.le_refl _, List.length_replicate, hst.out, hz.out, (Below.refl _ _).alloc (Nat.le_refl _) _⟩
 case round =>
  obtain ⟨j, X, rfl, hj, hXl, hS, hX, hbl⟩ := hrel
  clear hmk hz hst
  cases j with
  | zero =>
   have HT := trim_any _ X hS.lt (by rw [hXl]; omega) wr (hX.sl m (by omega))
   rw [hS.done, hXl] at HT
   replace HT := Lib.hid HT
   clear hS hX hXl
   go_wp2_with fail
   with_reducible refine Calls.mono HT.out ?_
   rintro e w1 ⟨v', rfl, hv, rfl⟩
   replace hv := Lib.hid hv
   go_wp2_with fail
   go_ret
   exact ⟨_, rfl, hv.out, hbl⟩
  | succ i =>
   have him : i < m := by omega
   have e1 : (((i + 1 : Nat) : Int) - 1) = (i : Int) := by omega
   have k1 : (i : Int) < (m : Int) := by omega
   have hib : (i : Int) ≤ 501 := by omega
   rw [e1]
   replace hXl := Lib.hid hXl
   have hlo : (tv X + 10000 ^ i * 0) * (tv X + 10000 ^ i * 0) ≤ a := by rw [Nat.mul_zero, Nat.add_zero]; exact hS.low
   have hhi : a < (tv X + 10000 ^ i * (9999 + 1)) * (tv X + 10000 ^ i * (9999 + 1)) := by have := hS.high; rwa [Nat.pow_succ] at this
   replace hS := Lib.hid hS
   replace hX := Lib.hid hX
   replace hlo := Lib.hid hlo
   replace hhi := Lib.hid hhi
   go_wp2_with fail
   go_loopw [5, 6] (fun lv hv wx => ∃ (l h : Nat), lv = .int .i64 (l : Int) ∧ hv = .int .i64 (h : Int) ∧ l ≤ h ∧ h ≤ 9999 ∧ (tv X + 10000 ^ i * l) * (tv X + 10000 ^ i * l) ≤ a ∧ a < (tv X + 10000 ^ i * (h + 1)) * (tv X + 10000 ^ i * (h + 1)) ∧ IB wx w.heap.size X ∧ Below w.heap.size w wx) (fun lv hv _ => (intOf hv - intOf lv).toNat)
   case atStart => exact ⟨0, 9999, rfl, rfl, by omega, Nat.le_refl _, hlo.out, hhi.out, hX.out, hbl⟩
   case round =>
    obtain ⟨l, h, rfl, rfl, hlh, hh9, hq1, hq2, hXb, hbl2⟩ := hrel
    replace hq1 := Lib.hid hq1
    replace hq2 := Lib.hid hq2
    have hcf := hXb.frozen i
    have hcc := hXb.cell i (by rw [hXl.out]; exact him)
    rcases Nat.lt_or_ge l h with hlt | hge
    ·have k2 : (l : Int) < (h : Int) := by omega
     obtain ⟨mid, hmid⟩ : ∃ mid, mid = (l + h + 1) / 2 := ⟨_, rfl⟩
     have hmv : ((l : Int) + (h : Int) + 1) / 2 = (mid : Int) := by omega
     have hm1 : l < mid := by omega
     have hm2 : mid ≤ h := by omega
     replace hmid := Lib.hid hmid
     have hnews : ∀ (j : Nat) (u : Value), (X.map iv)[j]? = some u → (wr.alloc (.cells #[] 3)).cell? ((⟨w.heap.size, 0, none⟩ : Addr).add j) = some u := by
      intro j u hju
      rw [List.getElem?_map] at hju
      obtain ⟨x, hx, rfl⟩ := Option.map_eq_some_iff.1 hju
      obtain ⟨hjl, rfl⟩ := List.getElem?_eq_some_iff.1 hx
      rw [add0, World.cell?_alloc_lt _ _ _ hXb.lt]
      exact hXb.cell j hjl
     have hone : ∀ u ∈ X.map iv, u.oneCell' = true := fun u hu => by
      obtain ⟨x, -, rfl⟩ := List.mem_map.1 hu
      rfl
     have hlen : (X.map iv).length = m * 1 := by rw [List.length_map, hXl.out, Nat.mul_one]
     have hXi0 : X[i]'(by rw [hXl.out]; exact him) = 0 := hS.out.zero i (by rw [hXl.out]; exact him) (by omega)
     have hyv : tv (X.set i mid) = tv X + 10000 ^ i * mid := tv_set0 (by rw [hXl.out]; exact him) hXi0 mid
     have hXm : ∀ d ∈ X.set i mid, d < 10000 := fun x hx => by
      rcases List.mem_or_eq_of_mem_set hx with hx | hx
      ·exact hS.out.lt x hx
      ·omega
     have hsl : (X.set i mid).length = m := by rw [List.length_set]; exact hXl.out
     have htdy : (td (tv (X.set i mid))).length ≤ m := td_length.2 (by have := tv_lt hXm; rwa [hsl] at this)
     have hmap : (X.map iv).set i (.int .i64 (mid : Int)) = (X.set i mid).map iv := by rw [List.map_set]
     have hci : (X.map iv)[i]? = some (.int .i64 0) := by rw [List.getElem?_map, List.getElem?_eq_getElem (by rw [hXl.out]; exact him), Option.map_some, hXi0]; rfl
     obtain ⟨y, hy⟩ : ∃ y, y = tv X + 10000 ^ i * mid := ⟨_, rfl⟩
     rw [hyv, ← hy] at htdy
     rw [← hy] at hyv
     have T := Lib.hid (fun (g' cap : Nat) (wx : World) (h : Sl wx (.slice (some ⟨g', 0, none⟩) (X.set i mid).length cap) (X.set i mid)) => trim_any (.slice (some ⟨g', 0, none⟩) (X.set i mid).length cap) (X.set i mid) hXm (by rw [hsl]; omega) wx h)
     rw [hyv, hsl] at T
     have M := Lib.hid (fun vx wx (h : Rn wx vx y) => rmul_any vx vx y y (by omega) (by omega) wx h h)
     have C := Lib.hid (fun vx wx (h : Rn wx vx (y * y)) (h2 : Rn wx (.slice ao L ca) a) => rcmp_any vx (.slice ao L ca) (y * y) a (Nat.le_trans (td_mul_le htdy htdy) (by omega)) (Nat.le_trans hta.out (by omega)) wx h h2)
     have hmidy : mid = (mid - 1) + 1 := by omega
     replace hnews := Lib.hid hnews
     replace hone := Lib.hid hone
     replace hlen := Lib.hid hlen
     replace hmap := Lib.hid hmap
     replace hy := Lib.hid hy
     replace hmidy := Lib.hid hmidy
     have hsl' := Lib.hid hsl
     have hlt8 := hXb.lt
     replace hXb := Lib.hid hXb
     clear hXi0 hyv hXm hsl htdy hcf hcc
     replace hci := Lib.hid hci
     replace hmv := Lib.hid hmv
     go_wp2_with (at_builtin; refine wpList_append_own _ rfl _ _ 42 rfl wr.heap.size 3 i0 (.int .i64 0) 1 8 Tryz.underlying42 hi hz0 hz1 hz2 rfl (by decide) _ _ _ rfl (World.ownsRow_made wr #[] 0 (Nat.le_refl _) (Nat.zero_le _) rfl) ⟨w.heap.size, 0, none⟩ m m (X.map iv) rfl hlen.out hnews.out hone.out (by unfold maxLen; omega) (by omega) (by simp) ?_)
     rw [hmv.out]
     intro v' w1 hown' hgrow _
     try simp only [Nat.zero_add, List.nil_append] at hown'
     have hw1 : Below wr.heap.size wr w1 := ((Below.refl _ _).alloc (Nat.le_refl _) _).grown hgrow (by simp) (fun j hj => by simp [Value.ownBlock] at hj; omega)
     rcases hown'.2 with ⟨-, h0⟩ | ⟨g', cap', cur, rfl, hg', -⟩
     ·omega
     have hc1 := (hown'.cellAt i (by omega)).trans hci.out
     have hf1 := hown'.frozenAt i
     have hst := (hown'.stored i (.int .i64 (mid : Int))).1
     rw [hmap.out] at hst
     have hsx := Lib.hid (Sl.owned hst hsl'.out.symm)
     have hb1 := hw1.setCell (p := ⟨g', i, none⟩) hg' (.int .i64 (mid : Int))
     generalize hW : w1.setCell ⟨g', i, none⟩ (.int .i64 (mid : Int)) = W at hsx hb1
     clear hst hown' hgrow hw1
     go_wp2_with fail
     with_reducible refine Calls.mono (T.out g' cap' W hsx.out) ?_
     rintro e w2 ⟨v2, rfl, hv2, rfl⟩
     replace hv2 := Lib.hid hv2
     clear hW hc1 hf1
     go_wp2_with fail
     with_reducible refine Calls.mono (M.out _ _ hv2.out) ?_
     rintro e w3 ⟨v3, rfl, hv3, hb3⟩
     replace hv3 := Lib.hid hv3
     have hB3 := hb1.trans (hb3.mono hb1.size)
     have hD3 := hbl2.trans (hB3.mono hbl2.size)
     by_cases hle : y * y ≤ a
     ·have k3 : decide (cmpI (y * y) a ≤ 0) = true := decide_eq_true (by unfold cmpI; split <;> (try split) <;> omega)
      have C1 := Lib.hid (fun vx wx h h2 => C.out vx wx h h2)
      replace hle := Lib.hid hle
      generalize cmpI (y * y) a = z at *
      go_wp2_with fail
      with_reducible refine Calls.mono (C1.out _ _ hv3.out (ha.out.below hD3)) ?_
      rintro e w4 ⟨rfl, hb4⟩
      have hB4 := hB3.trans (hb4.mono hB3.size)
      have hD4 := hD3.trans (hb4.mono hD3.size)
      clear hb4 hb3 hB3 hD3 hb1
      go_wp2_with fail
      go_roundw
      case rel => exact ⟨mid, h, rfl, rfl, hm2, hh9, (by rw [← hy.out]; exact hle.out), hq2.out, hXb.out.below hB4 hlt8, hD4⟩
      case measure => simp [intOf]; omega
     ·have k3 : decide (cmpI (y * y) a ≤ 0) = false := decide_eq_false (by rw [cmpI_gt (by omega)]; omega)
      have C1 := Lib.hid (fun vx wx h h2 => C.out vx wx h h2)
      replace hle := Lib.hid hle
      generalize cmpI (y * y) a = z at *
      go_wp2_with fail
      with_reducible refine Calls.mono (C1.out _ _ hv3.out (ha.out.below hD3)) ?_
      rintro e w4 ⟨rfl, hb4⟩
      have hB4 := hB3.trans (hb4.mono hB3.size)
      have hD4 := hD3.trans (hb4.mono hD3.size)
      clear hb4 hb3 hB3 hD3 hb1
      go_wp2_with fail
      go_roundw
      case rel => exact ⟨l, mid - 1, rfl, by first | rfl | go_num, by omega, by omega, hq1.out, (by rw [← hmidy.out, ← hy.out]; have := hle.out; omega), hXb.out.below hB4 hlt8, hD4⟩
      case measure => simp [intOf]; omega
    ·obtain rfl : l = h := by omega
     have k2 : ¬ (l : Int) < (l : Int) := by omega
     have hnx := Lib.hid (hS.out.set (by rw [hXl.out]; exact him) (by omega) hq1.out hq2.out)
     have hXs := Lib.hid (hXb.set i l)
     clear hXb hq1 hq2
     go_wp2_with fail
     go_roundw
     case rel => exact ⟨i, X.set i l, by first | rfl | go_num, by omega, by rw [List.length_set]; exact hXl.out, hnx.out, hXs.out, hbl2.setCell (Nat.le_refl _) _⟩
     case measure => simp [intOf]
end Go.Proofs.YtdmoadfnogdfnaaGreatDoor.Rx
namespace Go.Proofs.YtdmoadfnogdfnaaGreatDoor.Rx
open Go.RowKit
attribute [local irreducible] tv dg cmpI txt decB nb isq
set_option maxHeartbeats 4000000 in
set_option maxRecDepth 100000 in
theorem rleading_any (v : Value) (l : List Nat) (F : Nat) (hd : ∀ d ∈ l, d < 10000) (hF : F ≤ 1000000) (hl : l.length ≤ F + 4) (w : World) (h : Sl w v l) :
  Calls Tryz.prog 177 #[v, .int .i64 (F : Int)] w fun e w' => e = .returned (.int .i64 ((tv (l.drop F) : Nat) : Int)) ∧ w = w' := by
 obtain ⟨ao, c, rfl, hv⟩ := h.view
 obtain ⟨n, hn⟩ : ∃ n, n = l.length := ⟨_, rfl⟩
 rw [← hn] at hl hv ⊢
 have h0 := Lib.hid (show tv (l.drop n) = 0 by rw [List.drop_eq_nil_of_le (by omega), tv_nil])
 replace hn := Lib.hid hn
 replace hv := Lib.hid hv
 replace hd := Lib.hid hd
 clear h
 go_enter Tryz.func177, Tryz.ntmps177
 go_wp2_with fail
 go_loopw [5, 6] (fun s z wr => ∃ j : Nat, j ≤ n ∧ (F ≤ j ∨ j = n) ∧ z = .int .i64 ((j : Int) - 1) ∧ s = .int .i64 ((tv (l.drop j) : Nat) : Int) ∧ w = wr) (fun _ z _ => (intOf z + 1).toNat)
 case atStart => exact ⟨n, Nat.le_refl _, .inr rfl, by first | rfl | go_num, by rw [h0.out]; rfl, rfl⟩
 case round =>
  obtain ⟨j, hj, hFj, rfl, rfl, rfl⟩ := hrel
  rcases Nat.lt_or_ge F j with hlt | hge
  ·obtain ⟨i, rfl⟩ : ∃ i, j = i + 1 := ⟨j - 1, by omega⟩
   obtain ⟨a, rfl, -, hs⟩ := hv.out (by omega)
   have hil : i < l.length := by have := hn.out; omega
   have hcell := hs.cell i hil
   have hx := hd.out _ (List.getElem_mem hil)
   have hnext : tv (l.drop i) = l[i] + 10000 * tv (l.drop (i + 1)) := by rw [List.drop_eq_getElem_cons hil, tv_cons]
   have hT : tv (l.drop (i + 1)) < 1000000000000 := by
    have h1 := tv_lt (l := l.drop (i + 1)) fun d hdd => hd.out d (List.mem_of_mem_drop hdd)
    exact Nat.lt_of_lt_of_le h1 (Nat.le_trans (Nat.pow_le_pow_right (by omega) (show _ ≤ 3 by rw [List.length_drop]; have := hn.out; omega)) (by decide))
   have e1 : (((i + 1 : Nat) : Int) - 1) = (i : Int) := by omega
   have k1 : (F : Int) ≤ (i : Int) := by omega
   have k2 : (i : Int) < (n : Int) := by omega
   have hTi : ((tv (l.drop (i + 1)) : Nat) : Int) ≤ 1000000000000 := by omega
   clear hT hs
   generalize l[i] = x at *
   generalize tv (l.drop (i + 1)) = T at *
   replace hnext := Lib.hid hnext
   replace hFj := Lib.hid hFj
   rw [e1]
   go_wp2_with fail
   go_roundw
   case rel => exact ⟨i, by omega, .inl (by omega), by first | rfl | go_num, (by rw [hnext.out]; go_num), by trivial⟩
   case measure => simp [intOf]
  ·have hfin : tv (l.drop j) = tv (l.drop F) := by
    rcases hFj with h | h
    ·rw [show j = F by omega]
    ·rw [List.drop_eq_nil_of_le (by have := hn.out; omega), List.drop_eq_nil_of_le (by have := hn.out; omega)]
   have k1 : ¬ (F : Int) ≤ (j : Int) - 1 := by omega
   replace hfin := Lib.hid hfin
   replace hFj := Lib.hid hFj
   go_wp2_with fail
   go_ret
   exact ⟨by rw [← hfin.out]; rfl, rfl⟩
/-- The bounds that the leading digits give. -/
theorem lead_low {b y F t : Nat} (ht : t = b / 10000 ^ F) : y / 10000 ^ F / (t + 1) * b ≤ y := by
 have hp : 0 < 10000 ^ F := Nat.pow_pos (by omega)
 have h1 : b < 10000 ^ F * (t + 1) := by
  have := Nat.lt_mul_div_succ b hp
  rwa [← ht] at this
 have h2 : y / 10000 ^ F / (t + 1) * b ≤ y / 10000 ^ F / (t + 1) * (10000 ^ F * (t + 1)) := Nat.mul_le_mul_left _ (Nat.le_of_lt h1)
 have h3 : y / 10000 ^ F / (t + 1) * (t + 1) ≤ y / 10000 ^ F := Nat.div_mul_le_self _ _
 have h4 : y / 10000 ^ F * 10000 ^ F ≤ y := Nat.div_mul_le_self _ _
 have h5 : y / 10000 ^ F / (t + 1) * (10000 ^ F * (t + 1)) = (y / 10000 ^ F / (t + 1) * (t + 1)) * 10000 ^ F := by
  rw [Nat.mul_comm (10000 ^ F), Nat.mul_assoc]
 have h6 : (y / 10000 ^ F / (t + 1) * (t + 1)) * 10000 ^ F ≤ y / 10000 ^ F * 10000 ^ F := Nat.mul_le_mul_right _ h3
 omega
theorem lead_high {b y F t : Nat} (ht : t = b / 10000 ^ F) (ht0 : 0 < t) : y / b ≤ y / 10000 ^ F / t := by
 rw [Nat.div_div_eq_div_mul]
 have h1 : 10000 ^ F * t ≤ b := by rw [ht]; exact Nat.mul_div_le _ _
 exact Nat.div_le_div_left h1 (Nat.mul_pos (Nat.pow_pos (by omega)) ht0)
end Go.Proofs.YtdmoadfnogdfnaaGreatDoor.Rx
namespace Go.Proofs.YtdmoadfnogdfnaaGreatDoor.Rx
open Go.RowKit
attribute [local irreducible] tv dg cmpI txt decB nb isq
theorem add_add (a : Addr) (i j : Nat) : (a.add i).add j = a.add (i + j) := by
 unfold Addr.add
 by_cases h : i = 0
 ·subst h; simp
 ·by_cases h2 : j = 0
  ·subst h2; simp [h]
  ·simp [h, h2, Nat.add_assoc]
theorem small_len {k : Nat} (hk : k ≤ 9999) : (td k).length ≤ 1 := td_length.2 (by rw [Nat.pow_one]; omega)
theorem own_one (w : World) (x : Int) : (w.alloc (.cells #[.int .i64 x] 3)).ownsRow w.heap.size 3 1 (.slice (some ⟨w.heap.size, 0, none⟩) 1 1) 1 [.int .i64 x] :=
 ⟨rfl, .inr ⟨w.heap.size, 1, #[.int .i64 x], rfl, Nat.le_refl _, heap_alloc_new w _, Nat.le_refl _, by unfold maxLen; omega, rfl, rfl⟩⟩
theorem slice_from (w : World) (aA : Addr) (L ca i1 : Nat) (h : i1 ≤ L) (hc : L ≤ ca) :
  (Instr.slice 42 (.slice (some aA) L ca) (some (.int .i64 (i1 : Int))) none none).run Tryz.prog w = .ok (.slice (some (if ca = i1 then aA else aA.add i1)) (L - i1) (ca - i1)) w := by
 obtain ⟨i0, hi, hz0, hz1, hz2⟩ := info_parts Tryz.infoI
 have h1 : (0 : Int) ≤ (i1 : Int) := by omega
 have h2 : (i1 : Int) ≤ (L : Int) := by omega
 by_cases hh : ca = i1
 ·simp [Instr.slice, Instr.sliceBounds, run_underlying Tryz.underlying42, run_sliceBound, h1, h2, hh, go_sem] <;> rfl
 ·simp [Instr.slice, Instr.sliceBounds, run_underlying Tryz.underlying42, run_sliceBound, h1, h2, hh, go_sem] <;> rfl
theorem made2 (w : World) (o : Obj) : ((w.alloc o).alloc (.cells #[] 3)).ownsRow (w.heap.size + 1) 3 1 (.slice (some ⟨w.heap.size + 1, 0, none⟩) 0 0) 0 [] := by
 have h := World.ownsRow_made (base := w.heap.size + 1) (e := 3) (size := 1) (w.alloc o) #[] 0 (by rw [World.size_alloc]; exact Nat.le_refl _) (Nat.zero_le _) rfl
 rwa [World.size_alloc] at h
/-- trim leaves the block that its argument looks into. -/
theorem trim_blk (v : Value) (l : List Nat) (hd : ∀ d ∈ l, d < 10000) (hB : l.length < 9223372036854775807) (w : World) (h : Sl w v l) :
  Calls Tryz.prog 168 #[v] w fun e w' => ∃ v', e = .returned v' ∧ Sl w v' (td (tv l)) ∧ v'.ownBlock = v.ownBlock ∧ w = w' := by
 obtain ⟨z, hz⟩ := td_tv hd
 rcases h with ⟨ao, c, rfl, rfl, hc0⟩ | ⟨a, c, rfl, h2, h3⟩
 ·refine (trim_nil ao c w).mono ?_
  rintro e w' ⟨rfl, rfl⟩
  exact ⟨_, rfl, .inl ⟨ao, c, rfl, by rw [tv_nil, td_zero], hc0⟩, rfl, rfl⟩
 ·have hlen : l.length = (td (tv l)).length + z := by
   have := congrArg List.length hz
   rwa [List.length_append, List.length_replicate] at this
  rw [hz] at h3
  rw [hlen] at h2 hB ⊢
  refine (trim_row a c _ z (td (tv l)) rfl h2 hB (fun h => td_last h) w h3).mono ?_
  rintro e w' ⟨rfl, rfl⟩
  exact ⟨_, rfl, .inr ⟨a, c, rfl, by omega, h3.left⟩, rfl, rfl⟩
theorem Sl.set_off {w : World} {v : Value} {l : List Nat} {g k : Nat} {u : Value} (h : Sl w v l) (ho : v.ownBlock ≠ some g) : Sl (w.setCell ⟨g, k, none⟩ u) v l := by
 rcases h with h | ⟨a, c, rfl, h2, h3⟩
 ·exact .inl h
 ·have hne : a.block ≠ g := fun e => ho (by rw [← e]; rfl)
  refine .inr ⟨a, c, rfl, h2, fun i hi => ?_, ?_⟩
  ·rw [← h3.cell i hi]
   exact World.cell?_of_block (by rw [addB]; exact Below.heap_setCell _ _ _ _ hne)
  ·have := h3.blk
   simpa [World.setCell] using this
theorem wpList_append_sl {w : World} {ops : Array Oper} {rest : List Oper} {o : Oper} {a : Act} {Q : Exit → Act → World → Prop} (hgd : o.guard = none) (s x : Operand)
  (ho : o.op = .call { callee := .builtin .append, args := #[s, x], argTypes := #[42, 42] })
  (base : Nat) (v : Value) (n : Nat) (xs : List Value) (hs : a.eval s = v) (hown : w.ownsRow base 3 1 v n xs)
  (v2 : Value) (l : List Nat) (hx : a.eval x = v2) (hsl : Sl w v2 l) (hn : n + l.length ≤ 1000000) (hbase : base ≤ w.heap.size)
  (h : ∀ v' w', w'.ownsRow base 3 1 v' (n + l.length) (xs ++ l.map iv) → w.grownBy w' v.ownBlock → wpList Tryz.prog ops Q rest (a.put o.dst v') w') : wpList Tryz.prog ops Q (o :: rest) a w := by
 obtain ⟨i0, hi, hz0, hz1, hz2⟩ := info_parts Tryz.infoI
 rcases hsl.src with ⟨e, rfl⟩ | ⟨ad, c, e, hnews⟩
 ·rw [e] at hx
  refine wpList_append_own_none hgd s x _ ho base 3 i0 1 Tryz.underlying42 hi v n xs hs hown hx (h v w ?_ ⟨rfl, rfl, rfl, Nat.le_refl _, fun _ _ _ => rfl⟩)
  simpa using hown
 ·rw [e] at hx
  exact wpList_append_own w hgd s x _ ho base 3 i0 (.int .i64 0) 1 8 Tryz.underlying42 hi hz0 hz1 hz2 rfl (by decide) v n xs hs hown ad l.length c (l.map iv) hx (by rw [List.length_map, Nat.mul_one]) hnews
   (fun u hu => by obtain ⟨y, -, rfl⟩ := List.mem_map.1 hu; rfl) (by unfold maxLen; omega) (by omega) hbase fun v' w' h1 h2 _ => h v' w' h1 h2
set_option maxHeartbeats 4000000 in
set_option maxRecDepth 100000 in
theorem rdiv_small (va vb : Value) (a b : Nat) (hab : a < b) (la : (td a).length ≤ 1000) (lb : (td b).length ≤ 1000) (w : World) (ha : Rn w va a) (hb : Rn w vb b) :
  Calls Tryz.prog 111 #[va, vb] w fun e w' => e = .returned (.tuple #[.slice none 0 0, va]) ∧ Below w.heap.size w w' := by
 have C := rcmp_any va vb a b (by omega) (by omega) w ha hb
 rw [cmpI_lt hab] at C
 replace C := Lib.hid C
 clear ha hb hab
 go_enter Tryz.func111, Tryz.ntmps111
 go_wp2_with fail
 with_reducible refine Calls.mono C.out ?_
 rintro e w1 ⟨rfl, hb1⟩
 go_wp2_with fail
 exact bodyPost_ret (v := .tuple #[.slice none 0 0, va]) (by simp [results, Tryz.results111, go_sem]) rfl ⟨rfl, hb1⟩
set_option maxHeartbeats 8000000 in
set_option maxRecDepth 100000 in
theorem rdiv_big (va vb : Value) (a b : Nat) (hab : b ≤ a) (hb0 : 0 < b) (la : (td a).length ≤ 1000) (w : World) (ha : Rn w va a) (hb : Rn w vb b) :
  Calls Tryz.prog 111 #[va, vb] w fun e w' => ∃ v1 v2, e = .returned (.tuple #[v1, v2]) ∧ Rn w' v1 (a / b) ∧ Rn w' v2 (a % b) ∧ Below w.heap.size w w' := by
 obtain ⟨i0, hi, hz0, hz1, hz2⟩ := info_parts Tryz.infoI
 obtain ⟨ao, ca, ea, hva⟩ := ha.view
 obtain ⟨bo, cb, eb⟩ := hb.form
 subst ea eb
 have lb := Nat.le_trans (td_mono hab) la
 have hML := td_mono hab
 obtain ⟨i1, hi1, hst⟩ := DivS.start hab hb0
 have hM0 : 0 < (td b).length := by
  rcases Nat.eq_zero_or_pos (td b).length with h | h
  ·have := td_nil.1 (List.eq_nil_of_length_eq_zero h); omega
  ·exact h
 have hAlt := td_lt a
 obtain ⟨F, hF⟩ : ∃ F, F = (td b).length - 3 := ⟨_, rfl⟩
 have hdrop := td_drop b F
 have ht0 : 0 < b / 10000 ^ F := by
  refine Nat.pos_of_ne_zero fun h => ?_
  rw [h, td_zero] at hdrop
  have := congrArg List.length hdrop
  rw [List.length_drop, List.length_nil] at this
  omega
 have Le := Lib.hid (fun (wx : World) (hh : Rn wx (.slice bo (td b).length cb) b) => rleading_any (.slice bo (td b).length cb) (td b) F (td_lt b) (by omega) (by omega) wx hh)
 rw [hdrop, tv_td] at Le
 have htb : b / 10000 ^ F < 1000000000000 := by
  have h1 : (td (b / 10000 ^ F)).length ≤ 3 := by rw [← hdrop, List.length_drop]; omega
  exact Nat.lt_of_lt_of_le (td_length.1 h1) (by decide)
 have C := Lib.hid (fun (wx : World) (h1 : Rn wx (.slice ao (td a).length ca) a) (h2 : Rn wx (.slice bo (td b).length cb) b) => rcmp_any _ _ a b (by omega) (by omega) wx h1 h2)
 have hcw : decide (cmpI a b < 0) = false := decide_eq_false (by unfold cmpI; split <;> (try split) <;> omega)
 generalize cmpI a b = z at *
 obtain ⟨t, ht⟩ : ∃ t, t = b / 10000 ^ F := ⟨_, rfl⟩
 rw [← ht] at Le ht0 htb
 -- the search for a digit
 have low := fun y => lead_low (y := y) ht
 have high := fun y => lead_high (y := y) ht ht0
 have lead := Lib.hid (fun (v : Value) (y : Nat) (hy : y < 10000 * b) (wx : World) (hv : Rn wx v y) => rleading_any v (td y) F (td_lt y) (by omega) (by
  have h1 : (td y).length ≤ (td b).length + 1 := td_length.2 (by
   have := td_length.1 (Nat.le_refl (td b).length)
   rw [Nat.pow_succ]; omega)
  omega) wx hv)
 have fb : ∀ y, y < 10000 * b → y / 10000 ^ F < 20000000000000000 := fun y hy => by
  have hp : 0 < 10000 ^ F := Nat.pow_pos (by omega)
  have h1 : b < 10000 ^ F * (t + 1) := by
   have := Nat.lt_mul_div_succ b hp
   rwa [← ht] at this
  refine (Nat.div_lt_iff_lt_mul hp).2 ?_
  have h2 : 10000 * b < 10000 * (10000 ^ F * (t + 1)) := Nat.mul_lt_mul_of_pos_left h1 (by omega)
  have h3 : 10000 ^ F * (t + 1) ≤ 10000 ^ F * 1000000000000 := Nat.mul_le_mul_left _ (by omega)
  generalize 10000 ^ F * (t + 1) = p at *
  generalize 10000 ^ F = q at *
  omega
 have MB := Lib.hid (fun (k : Nat) (hk : k ≤ 9999) (vx : Value) (wx : World) (h1 : Rn wx (.slice bo (td b).length cb) b) (h2 : Rn wx vx k) => rmul_any (.slice bo (td b).length cb) vx b k (by omega) (Nat.le_trans (small_len hk) (by omega)) wx h1 h2)
 have hbk : ∀ k, k ≤ 9999 → (td (b * k)).length ≤ 1001 := fun k hk => Nat.le_trans (td_mul_le lb (small_len hk)) (by omega)
 have hyl : ∀ y, y < 10000 * b → (td y).length ≤ 1001 := fun y hy => by
  have h1 : (td y).length ≤ (td b).length + 1 := td_length.2 (by
   have := td_length.1 (Nat.le_refl (td b).length)
   rw [Nat.pow_succ]; omega)
  omega
 have CM := Lib.hid (fun (k : Nat) (hk : k ≤ 9999) (y : Nat) (hy : y < 10000 * b) (vx vy : Value) (wx : World) (h1 : Rn wx vx (b * k)) (h2 : Rn wx vy y) => rcmp_any vx vy (b * k) y (Nat.le_trans (hbk k hk) (by omega)) (Nat.le_trans (hyl y hy) (by omega)) wx h1 h2)
 have SB := Lib.hid (fun (k y : Nat) (hy : y < 10000 * b) (hle : b * k ≤ y) (vx vy : Value) (wx : World) (h1 : Rn wx vy y) (h2 : Rn wx vx (b * k)) => rsub_any vy vx y (b * k) (Nat.le_trans (hyl y hy) (by omega)) hle wx h1 h2)
 have hTR : ∀ (x y r : Nat) (hy : y = x + 10000 * r) (hx : x < 10000) (hyb : y < 10000 * b) (v : Value) (wx : World), Sl wx v (x :: td r) → Calls Tryz.prog 168 #[v] wx fun e w' => ∃ v', e = .returned v' ∧ Rn w' v' y ∧ v'.ownBlock = v.ownBlock ∧ wx = w' := fun x y r hy hx hyb v wx hv => by
  have h1 : tv (x :: td r) = y := by rw [tv_cons, tv_td, hy]
  have h2 : (td r).length ≤ 1001 := Nat.le_trans (td_mono (show r ≤ y by omega)) (hyl y hyb)
  have := trim_blk v (x :: td r) (fun d hd => by
   rcases List.mem_cons.1 hd with rfl | hd
   ·exact hx
   ·exact td_lt r d hd) (by rw [List.length_cons]; omega) wx hv
  rw [h1] at this
  refine Calls.mono this ?_
  rintro e w' ⟨v', rfl, h, h', rfl⟩
  exact ⟨v', rfl, h, h', rfl⟩
 replace hTR := Lib.hid hTR
 clear hbk hyl hdrop ht
 obtain ⟨L, hL⟩ : ∃ L, L = (td a).length := ⟨_, rfl⟩
 obtain ⟨M, hM⟩ : ∃ M, M = (td b).length := ⟨_, rfl⟩
 rw [← hL] at la ha hva C hi1 hML ⊢
 rw [← hM] at lb hb C Le MB hi1 hM0 hF hML ⊢
 obtain ⟨aA, rfl, hca, hsd⟩ := hva (by omega)
 have hsd := Lib.hid hsd
 obtain ⟨ad, had⟩ : ∃ ad, ad = (if ca = i1 then aA else aA.add i1) := ⟨_, rfl⟩
 obtain ⟨r0, hr0⟩ : ∃ r0, r0 = a / 10000 ^ i1 := ⟨_, rfl⟩
 have htr : (td a).drop i1 = td r0 := by rw [hr0, td_drop]
 have hmk : ∀ w, (Instr.makeSlice 42 (.int .i64 (i1 : Int)) (.int .i64 (i1 : Int))).run Tryz.prog w = .ok (.slice (some ⟨w.heap.size, 0, none⟩) i1 i1) (w.alloc (zobjI i1)) :=
  fun w => makeN w _ i1 rfl (by omega)
 have hsf : ∀ w, (Instr.slice 42 (.slice (some aA) L ca) (some (.int .i64 (i1 : Int))) none none).run Tryz.prog w = .ok (.slice (some ad) (L - i1) (ca - i1)) w :=
  fun w => by rw [had]; exact slice_from w aA L ca i1 (by omega) hca
 have hsr : ∀ wx, Below w.heap.size w wx → Sl wx (.slice (some ad) (L - i1) (ca - i1)) (td r0) := by
  intro wx hbx
  have hlr : (td r0).length = L - i1 := by rw [← htr, List.length_drop, ← hL]
  by_cases hz : L = i1
  ·exact .inl ⟨some ad, ca - i1, by rw [hz, Nat.sub_self], List.eq_nil_of_length_eq_zero (by rw [hlr, hz, Nat.sub_self]), fun h => by simp at h⟩
  ·have hne : ca ≠ i1 := by omega
   rw [if_neg hne] at had
   refine .inr ⟨ad, ca - i1, by rw [hlr], by omega, fun j hj => ?_, ?_⟩
   ·have hjl : i1 + j < (td a).length := by omega
    have := (hsd.out.below hbx).cell (i1 + j) hjl
    rw [had, add_add, this]
    congr 3
    simp only [← htr, List.getElem_drop]
   ·rw [had, addB]; exact (hsd.out.below hbx).blk
 have hLM : (L : Int) - (M : Int) + 1 = (i1 : Int) := by omega
 obtain ⟨m1, hm1⟩ : ∃ m1, m1 = L - i1 := ⟨_, rfl⟩
 have hLi : L - i1 = m1 := hm1.symm
 have hm1b : m1 ≤ 1000 := by omega
 have hiL : (i1 : Int) ≤ (L : Int) := by omega
 have hi0 : (1 : Int) ≤ (i1 : Int) := by omega
 have hm1' := Lib.hid (show m1 = L - i1 ∧ i1 + M = L + 1 ∧ M ≤ L from ⟨hm1, hi1, by omega⟩)
 clear hm1
 have hmax : max (0 : Int) ((M : Int) - 3) = (F : Int) := by omega
 replace ha := Lib.hid ha
 replace hb := Lib.hid hb
 have hm1r : (td r0).length = m1 := by rw [← htr, List.length_drop, ← hL, hLi]
 rw [htr, tv_td] at hst
 rw [hLi] at hsr
 replace hst := Lib.hid hst
 replace hsr := Lib.hid hsr
 replace htr := Lib.hid htr
 replace hr0 := Lib.hid hr0
 replace hca := Lib.hid hca
 replace had := Lib.hid had
 clear hva
 replace hL := Lib.hid hL
 replace hM := Lib.hid hM
 replace hAlt := Lib.hid hAlt
 replace low := Lib.hid low
 replace high := Lib.hid high
 replace fb := Lib.hid fb
 have hi1' := Lib.hid hi1
 have hF' := Lib.hid hF
 have k1 : (M : Int) ≤ (L : Int) := by omega
 clear hi1 hF
 go_enter Tryz.func111, Tryz.ntmps111
 go_wp2_with fail
 with_reducible refine Calls.mono (C.out _ ha.out hb.out) ?_
 rintro e w1 ⟨rfl, hb1⟩
 go_wp2_with fail
 with_reducible refine Calls.mono (Le.out _ (hb.out.below hb1)) ?_
 rintro e w2 ⟨rfl, rfl⟩
 have hD0 := ((hb1.alloc hb1.size (zobjI i1)).alloc (by rw [World.size_alloc]; have := hb1.size; omega) (.cells #[] 3))
 have hr0S := Lib.hid (hsr.out _ hD0)
 have hm1r' : 0 + (td r0).length ≤ 1000000 := by omega
 replace hD0 := Lib.hid hD0
 replace hm1r' := Lib.hid hm1r'
 go_wp2_with (at_builtin; refine wpList_append_sl rfl _ _ rfl (w1.heap.size + 1) _ 0 [] rfl (made2 _ _) _ (td r0) rfl hr0S.out hm1r'.out (by simp) ?_)
 intro v2 w2 hown hgrow
 have hB2 : Below (w1.heap.size + 1) (w1.alloc (zobjI i1)) w2 := ((Below.refl _ _).alloc (by rw [World.size_alloc]; exact Nat.le_refl _) _).grown hgrow (by simp [World.size_alloc]) (fun j hj => by simp [Value.ownBlock] at hj; omega)
 have hX0 := (IB.zeros w1 i1).below hB2 (Nat.lt_succ_self _)
 have hgB : w.heap.size ≤ w1.heap.size := hb1.size
 have hD2 := (hb1.alloc hb1.size (zobjI i1)).trans (hB2.mono (Nat.le_trans hgB (Nat.le_succ _)))
 have hR2 : Rn w2 v2 r0 := Sl.owned hown hm1r.symm
 clear hown hgrow hB2 hD0 hr0S hsf hsr hmk hm1r'
 replace hX0 := Lib.hid hX0
 replace hR2 := Lib.hid hR2
 obtain ⟨g, hg⟩ : ∃ g, g = w1.heap.size := ⟨_, rfl⟩
 rw [← hg] at hX0 hgB ⊢
 clear hg
 go_wp2_with fail
 go_loopw [8, 10] (fun zv rv wr => ∃ (j : Nat) (X : List Nat) (r : Nat), zv = .int .i64 ((j : Int) - 1) ∧ j ≤ i1 ∧ X.length = i1 ∧ DivS a b (td a) X j r ∧ IB wr g X ∧ Rn wr rv r ∧ Below w.heap.size w wr) (fun zv _ _ => (intOf zv + 1).toNat)
 case atStart => exact ⟨i1, _, r0, (by rw [show (L : Int) - (M : Int) = (i1 : Int) - 1 by omega]), Nat.le_refl _, List.length_replicate, hst.out, hX0.out, hR2.out, hD2⟩
 case round =>
  obtain ⟨j, X, r, rfl, hj, hXl, hS, hX, hr, hbl⟩ := hrel
  clear hX0 hR2 hst hD2 C Le
  cases j with
  | zero =>
   have HT := trim_any _ X hS.lt (by rw [hXl]; omega) wr (hX.sl i1 (by omega))
   obtain ⟨hq, hrm⟩ := hS.done
   rw [hq, hXl] at HT
   replace HT := Lib.hid HT
   rw [hrm] at hr
   obtain ⟨ro, rc, erv⟩ := hr.form
   subst erv
   replace hr := Lib.hid hr
   clear hS hX hXl hq hrm
   go_wp2_with fail
   with_reducible refine Calls.mono HT.out ?_
   rintro e w3 ⟨v', rfl, hv, rfl⟩
   replace hv := Lib.hid hv
   go_wp2_with fail
   exact bodyPost_ret (v := .tuple #[v', .slice ro (td (a % b)).length rc]) (by simp [results, Tryz.results111, go_sem]) rfl ⟨_, _, rfl, hv.out, hr.out, hbl⟩
  | succ k =>
   have hki : k < i1 := by omega
   have hkL : k < L := by omega
   have e1 : (((k + 1 : Nat) : Int) - 1) = (k : Int) := by omega
   have hxb : dg (td a) k < 10000 := dg_lt hAlt.out k
   have hcell : wr.cell? (aA.add k) = some (.int .i64 ((dg (td a) k : Nat) : Int)) := by
    rw [dg_in (by rw [← hL.out]; exact hkL)]
    exact (hsd.out.below hbl).cell k (by rw [← hL.out]; exact hkL)
   have hkX : k < X.length := by rw [hXl]; exact hki
   obtain ⟨y, hy⟩ : ∃ y, y = dg (td a) k + 10000 * r := ⟨_, rfl⟩
   obtain ⟨hq9, hN⟩ := hS.step hAlt.out hkX hy
   generalize dg (td a) k = x at *
   have hrb := hS.rem
   have hyb : y < 10000 * b := by omega
   have hlr : (td r).length ≤ 1000 := Nat.le_trans (td_mono (Nat.le_of_lt hrb)) (by rw [← hM.out]; exact lb)
   obtain ⟨f, hf⟩ : ∃ f, f = y / 10000 ^ F := ⟨_, rfl⟩
   have hfb : f < 20000000000000000 := by rw [hf]; exact fb.out y hyb
   have LD := Lib.hid (fun (v : Value) (wx : World) (h : Rn wx v y) => lead.out v y hyb wx h)
   rw [td_drop, tv_td, ← hf] at LD
   obtain ⟨l0, hl0⟩ : ∃ l0, l0 = f / (t + 1) := ⟨_, rfl⟩
   obtain ⟨h0, hh0⟩ : ∃ h0, h0 = f / t := ⟨_, rfl⟩
   obtain ⟨h9, hh9⟩ : ∃ h9, h9 = min h0 9999 := ⟨_, rfl⟩
   have m1q : l0 * b ≤ y := by rw [hl0, hf]; exact low.out y
   have m2q : y / b ≤ h0 := by rw [hh0, hf]; exact high.out y
   have m3q : y / b ≤ h9 := by omega
   have m4q : l0 ≤ y / b := (Nat.le_div_iff_mul_le hb0).2 m1q
   have m5q : l0 ≤ h9 := Nat.le_trans m4q m3q
   have m6q : y < b * (h9 + 1) := by
    have := (Nat.div_lt_iff_lt_mul hb0).1 (Nat.lt_succ_of_le m3q)
    rwa [Nat.mul_comm] at this
   have m7q : h9 ≤ 9999 := by omega
   have i1q : (f : Int) / ((t : Int) + 1) = (l0 : Int) := by rw [hl0]; exact (Int.natCast_ediv f (t + 1)).symm
   have i2q : (f : Int) / (t : Int) = (h0 : Int) := by rw [hh0]; exact (Int.natCast_ediv f t).symm
   have i3q : min (h0 : Int) 9999 = (h9 : Int) := by omega
   have h0b : h0 ≤ f := by rw [hh0]; exact Nat.div_le_self _ _
   have hTR1 := Lib.hid (fun v wx h => hTR.out x y r hy hxb hyb v wx h)
   rw [Nat.mul_comm] at m1q
   replace m1q := Lib.hid m1q
   replace m6q := Lib.hid m6q
   replace hN := Lib.hid hN
   replace hy := Lib.hid hy
   replace hq9 := Lib.hid hq9
   replace hr := Lib.hid hr
   replace hkX := Lib.hid hkX
   replace hXl := Lib.hid hXl
   have hcX := hX.cell k hkX.out
   have hfX := hX.frozen k
   replace hX := Lib.hid hX
   replace hyb := Lib.hid hyb
   clear hS m2q m3q m4q hf hl0 hh0 hh9 lead hTR low high fb hrb
   rw [e1]
   have hrA := Lib.hid (hr.out.below ((Below.refl wr.heap.size wr).alloc (Nat.le_refl _) (.cells #[.int .i64 (x : Int)] 3)))
   have hlr1 := Lib.hid (show 1 + (td r).length ≤ 1000000 by omega)
   clear hlr
   go_wp2_with (at_builtin; refine wpList_append_sl rfl _ _ rfl wr.heap.size _ 1 [.int .i64 (x : Int)] rfl (own_one wr x) _ (td r) rfl hrA.out hlr1.out (by simp) ?_)
   intro v3 w3 hown hgrow
   have hs3 := Lib.hid (show Sl w3 v3 (x :: td r) from Sl.owned hown (by rw [List.length_cons, Nat.add_comm]))
   have hB3 : Below wr.heap.size wr w3 := ((Below.refl _ _).alloc (Nat.le_refl _) _).grown hgrow (by simp) (fun j hj => by simp [Value.ownBlock] at hj; omega)
   have hD3 := hbl.trans (hB3.mono hbl.size)
   have hX3 := Lib.hid (hX.out.below hB3 hX.out.lt)
   have ho3 : v3.ownBlock ≠ some g := fun e => by
    have := (hown.lt g e).1
    have := hX.out.lt
    omega
   clear hown hgrow hB3 hX hbl hcX hfX hcell hrA hr hlr1
   go_wp2_with fail
   with_reducible refine Calls.mono (hTR1.out _ _ hs3.out) ?_
   rintro e w4 ⟨v4, rfl, hv4, ho4, rfl⟩
   rw [← ho4] at ho3
   replace ho3 := Lib.hid ho3
   clear ho4
   replace hv4 := Lib.hid hv4
   clear hs3
   go_wp2_with fail
   with_reducible refine Calls.mono (LD.out _ _ hv4.out) ?_
   rintro e w4 ⟨rfl, rfl⟩
   have t1 : ¬ (t : Int) + 1 = 0 := by omega
   have t2 : ¬ (t : Int) = 0 := by omega
   go_wp2_with fail
   go_quiet (fail)
   go_wp2_with fail
   have hX3' := Lib.hid (hX3.out.drewN nq)
   have hD3' := ibdrew hD3 nq
   have hv4' := Lib.hid (show Rn (w3.drewN nq) v4 y from hv4.out.below (ibdrew (Below.refl _ _) nq))
   generalize hW4 : w3.drewN nq = w4 at *
   clear hW4 hX3 hD3 hv4
   go_loopw [12, 13] (fun lv hv wx => ∃ (l h : Nat), lv = .int .i64 (l : Int) ∧ hv = .int .i64 (h : Int) ∧ l ≤ h ∧ h ≤ 9999 ∧ b * l ≤ y ∧ y < b * (h + 1) ∧ IB wx g X ∧ Rn wx v4 y ∧ Below w.heap.size w wx) (fun lv hv _ => (intOf hv - intOf lv).toNat)
   case atStart => exact ⟨l0, h9, rfl, rfl, m5q, m7q, m1q.out, m6q.out, hX3'.out, hv4'.out, hD3'⟩
   case round =>
    obtain ⟨l, h, rfl, rfl, hlh, hh9, hq1, hq2, hXb, hvb, hbl⟩ := hrel
    replace hq1 := Lib.hid hq1
    replace hq2 := Lib.hid hq2
    have hXlt := hXb.lt
    clear hX3' hD3' hv4' m1q m6q m5q m7q i1q i2q i3q h0b hfb t1 t2 LD hTR1
    rcases Nat.lt_or_ge l h with hlt | hge
    ·have k2 : (l : Int) < (h : Int) := by omega
     obtain ⟨mid, hmid⟩ : ∃ mid, mid = (l + h + 1) / 2 := ⟨_, rfl⟩
     have hmv : ((l : Int) + (h : Int) + 1) / 2 = (mid : Int) := by omega
     have hm1 : l < mid := by omega
     have hm2 : mid ≤ h := by omega
     have hm9 : mid ≤ 9999 := by omega
     have hmidy : mid = (mid - 1) + 1 := by omega
     have OF := Lib.hid (fun wx => rof_any mid (by omega) wx)
     have hmB := Lib.hid (fun vx wx h1 h2 => MB.out mid hm9 vx wx h1 h2)
     have hcM := Lib.hid (fun vx wx h1 h2 => CM.out mid hm9 y hyb.out vx v4 wx h1 h2)
     replace hmid := Lib.hid hmid
     replace hmidy := Lib.hid hmidy
     replace hXb := Lib.hid hXb
     replace hvb := Lib.hid hvb
     go_wp2_with fail
     with_reducible refine Calls.mono (OF.out _) ?_
     rintro e w5 ⟨v5, rfl, hv5, hb5⟩
     replace hv5 := Lib.hid hv5
     have B5 := hbl.trans (hb5.mono hbl.size)
     have hvb5 := Lib.hid (hvb.out.below hb5)
     have hX5 := Lib.hid (hXb.out.below hb5 hXb.out.lt)
     clear hb5
     go_wp2_with fail
     with_reducible refine Calls.mono (hmB.out _ _ (hb.out.below B5) hv5.out) ?_
     rintro e w6 ⟨v6, rfl, hv6, hb6⟩
     replace hv6 := Lib.hid hv6
     have B6 := B5.trans (hb6.mono B5.size)
     have hvb6 := Lib.hid (hvb5.out.below hb6)
     have hX6 := Lib.hid (hX5.out.below hb6 hX5.out.lt)
     clear hb6 B5
     by_cases hle : b * mid ≤ y
     ·have k3 : decide (cmpI (b * mid) y ≤ 0) = true := decide_eq_true (by unfold cmpI; split <;> (try split) <;> omega)
      replace hle := Lib.hid hle
      generalize cmpI (b * mid) y = zz at *
      go_wp2_with fail
      with_reducible refine Calls.mono (hcM.out _ _ hv6.out hvb6.out) ?_
      rintro e w7 ⟨rfl, hb7⟩
      have B7 := B6.trans (hb7.mono B6.size)
      have hvb7 := Lib.hid (hvb6.out.below hb7)
      have hX7 := Lib.hid (hX6.out.below hb7 hX6.out.lt)
      clear hb7 B6
      go_wp2_with fail
      go_roundw
      case rel => exact ⟨mid, h, rfl, rfl, hm2, hh9, hle.out, hq2.out, hX7.out, hvb7.out, B7⟩
      case measure => simp [intOf]; omega
     ·have k3 : decide (cmpI (b * mid) y ≤ 0) = false := decide_eq_false (by rw [cmpI_gt (by omega)]; omega)
      replace hle := Lib.hid hle
      generalize cmpI (b * mid) y = zz at *
      go_wp2_with fail
      with_reducible refine Calls.mono (hcM.out _ _ hv6.out hvb6.out) ?_
      rintro e w7 ⟨rfl, hb7⟩
      have B7 := B6.trans (hb7.mono B6.size)
      have hvb7 := Lib.hid (hvb6.out.below hb7)
      have hX7 := Lib.hid (hX6.out.below hb7 hX6.out.lt)
      clear hb7 B6
      go_wp2_with fail
      go_roundw
      case rel => exact ⟨l, mid - 1, rfl, by first | rfl | go_num, by omega, by omega, hq1.out, (by rw [← hmidy.out]; exact Nat.lt_of_not_le hle.out), hX7.out, hvb7.out, B7⟩
      case measure => simp [intOf]; omega
    ·obtain rfl : l = h := by omega
     have k2 : ¬ (l : Int) < (l : Int) := by omega
     have hyd : y / b = l := Nat.div_eq_of_lt_le (by rw [Nat.mul_comm]; exact hq1.out) (by rw [Nat.mul_comm]; exact hq2.out)
     rw [hyd] at hN hq9
     have OF := Lib.hid (fun wx => rof_any l (by omega) wx)
     have hmB := Lib.hid (fun vx wx h1 h2 => MB.out l hh9 vx wx h1 h2)
     have hsB := Lib.hid (fun vx wx h1 h2 => SB.out l y hyb.out hq1.out vx v4 wx h1 h2)
     have hcX := hXb.cell k hkX.out
     have hfX := hXb.frozen k
     have hb1 := hbl.setCell (p := ⟨g, k, none⟩) hgB (.int .i64 (l : Int))
     have hXs := Lib.hid (hXb.set k l)
     have hvs := Lib.hid (Sl.set_off (k := k) (u := .int .i64 (l : Int)) hvb ho3.out)
     replace hXb := Lib.hid hXb
     go_wp2_with fail
     with_reducible refine Calls.mono (OF.out _) ?_
     rintro e w5 ⟨v5, rfl, hv5, hb5⟩
     replace hv5 := Lib.hid hv5
     have B5 := hb1.trans (hb5.mono hb1.size)
     have hvb5 := Lib.hid (hvs.out.below hb5)
     have hX5 := Lib.hid (hXs.out.below hb5 hXs.out.lt)
     clear hb5 hXs hvs hcX hfX hb1
     go_wp2_with fail
     with_reducible refine Calls.mono (hmB.out _ _ (hb.out.below B5) hv5.out) ?_
     rintro e w6 ⟨v6, rfl, hv6, hb6⟩
     replace hv6 := Lib.hid hv6
     have B6 := B5.trans (hb6.mono B5.size)
     have hvb6 := Lib.hid (hvb5.out.below hb6)
     have hX6 := Lib.hid (hX5.out.below hb6 hX5.out.lt)
     clear hb6 B5
     go_wp2_with fail
     with_reducible refine Calls.mono (hsB.out _ _ hvb6.out hv6.out) ?_
     rintro e w7 ⟨v7, rfl, hv7, hb7⟩
     replace hv7 := Lib.hid hv7
     have B7 := B6.trans (hb7.mono B6.size)
     have hX7 := Lib.hid (hX6.out.below hb7 hX6.out.lt)
     clear hb7 B6
     go_wp2_with fail
     go_roundw
     case rel => exact ⟨k, X.set k l, y - b * l, by first | rfl | go_num, by omega, by rw [List.length_set]; exact hXl.out, hN.out, hX7.out, hv7.out, B7⟩
     case measure => simp [intOf]
set_option maxHeartbeats 4000000 in
/-- Div, for b above 0. -/
theorem rdiv_any (va vb : Value) (a b : Nat) (hb0 : 0 < b) (la : (td a).length ≤ 1000) (lb : (td b).length ≤ 1000) (w : World) (ha : Rn w va a) (hb : Rn w vb b) :
  Calls Tryz.prog 111 #[va, vb] w fun e w' => ∃ v1 v2, e = .returned (.tuple #[v1, v2]) ∧ Rn w' v1 (a / b) ∧ Rn w' v2 (a % b) ∧ Below w.heap.size w w' := by
 rcases Nat.lt_or_ge a b with h | h
 ·refine (rdiv_small va vb a b h la lb w ha hb).mono ?_
  rintro e w' ⟨rfl, hbl⟩
  refine ⟨_, _, rfl, ?_, ?_, hbl⟩
  ·rw [Nat.div_eq_of_lt h]
   show Sl w' _ (td 0)
   rw [td_zero]; exact Sl.nil w'
  ·rw [Nat.mod_eq_of_lt h]; exact ha.below hbl
 ·exact rdiv_big va vb a b h hb0 la w ha hb
end Go.Proofs.YtdmoadfnogdfnaaGreatDoor.Rx
namespace Go.Proofs.YtdmoadfnogdfnaaGreatDoor.Rx
open Go.RowKit
attribute [local irreducible] tv dg cmpI txt decB nb isq
open Classical in
noncomputable def dec (w : World) (v : Value) : Nat := if h : ∃ y, Rn w v y then h.choose else 0
theorem dec_eq {w : World} {v : Value} {y : Nat} (h : Rn w v y) : dec w v = y := by
 unfold dec
 rw [dif_pos ⟨y, h⟩]
 exact Rn.inj (Exists.choose_spec (⟨y, h⟩ : ∃ y, Rn w v y)) h
set_option maxHeartbeats 4000000 in
set_option maxRecDepth 100000 in
theorem rgcd_any (va vb : Value) (a b : Nat) (la : (td a).length ≤ 1000) (lb : (td b).length ≤ 1000) (w : World) (ha : Rn w va a) (hb : Rn w vb b) :
  Calls Tryz.prog 110 #[va, vb] w fun e w' => ∃ v, e = .returned v ∧ Rn w' v (Nat.gcd a b) ∧ Below w.heap.size w w' := by
 replace ha := Lib.hid ha
 replace hb := Lib.hid hb
 go_enter Tryz.func110, Tryz.ntmps110
 go_wp2_with fail
 go_loopw [0, 1] (fun av bv wr => ∃ (x y : Nat), Rn wr av x ∧ Rn wr bv y ∧ Nat.gcd x y = Nat.gcd a b ∧ (td x).length ≤ 1000 ∧ (td y).length ≤ 1000 ∧ Below w.heap.size w wr) (fun _ bv wr => dec wr bv)
 case atStart => exact ⟨a, b, ha.out, hb.out, rfl, la, lb, Below.refl _ _⟩
 case round =>
  obtain ⟨x, y, hx, hy, hg, lx, ly, hbl⟩ := hrel
  clear ha hb
  have hm := Lib.hid (dec_eq hy)
  obtain ⟨yo, yc, ey⟩ := hy.form
  obtain ⟨xo, xc, ex⟩ := hx.form
  subst ey ex
  obtain ⟨M, hM⟩ : ∃ M, M = (td y).length := ⟨_, rfl⟩
  rcases Nat.eq_zero_or_pos y with h0 | h0
  ·have hM0 : M = 0 := by rw [hM, h0, td_zero]; rfl
   have hgx : x = Nat.gcd a b := by rw [← hg, h0, Nat.gcd_zero_right]
   rw [← hM, hM0]
   rw [hgx] at hx
   rw [hgx]
   replace hx := Lib.hid hx
   clear hy hm hM hM0 hg hgx
   go_wp2_with fail
   go_ret
   exact ⟨_, rfl, hx.out, hbl⟩
  ·have D := Lib.hid (rdiv_any _ _ x y h0 lx ly wr hx hy)
   rw [← hM] at hy ly D hm ⊢
   have hMp : (0 : Int) < (M : Int) := by
    have : M ≠ 0 := fun h => by
     have := td_nil.1 (List.eq_nil_of_length_eq_zero (hM.symm.trans h))
     omega
    omega
   replace hy := Lib.hid hy
   replace hM := Lib.hid hM
   clear hx
   generalize (td x).length = N at *
   go_wp2_with fail
   with_reducible refine Calls.mono D.out ?_
   rintro e w1 ⟨v1, v2, rfl, h1, h2, hb1⟩
   replace h2 := Lib.hid h2
   clear h1
   have hyb := Lib.hid (hy.out.below hb1)
   have hD := hbl.trans (hb1.mono hbl.size)
   go_wp2_with fail
   go_roundw
   case rel => exact ⟨y, x % y, hyb.out, h2.out, (by rw [← hg, Nat.gcd_comm x y, Nat.gcd_rec y x, Nat.gcd_comm]), (by rw [← hM.out]; exact ly), Nat.le_trans (td_mono (Nat.le_of_lt (Nat.mod_lt x h0))) (by rw [← hM.out]; exact ly), hD⟩
   case measure => rw [dec_eq h2.out, hm.out]; exact Nat.mod_lt x h0
end Go.Proofs.YtdmoadfnogdfnaaGreatDoor.Rx
namespace Go.Proofs.YtdmoadfnogdfnaaGreatDoor
/-- Every operation waits for earlier ones alone, and what comes behind it waits for it or is apart from it. -/
def fastFrom (md : Region.Mode) (ops : Array Oper) : Nat → List Oper → Bool
 | _, [] => true
 | k, o :: l => (o.after.all fun e => !Region.binds md e || decide (e.on < k)) &&
   (l.all fun oj => (oj.after.any fun e => Region.binds md e && e.on == k) || o.apart ops oj) && fastFrom md ops (k + 1) l
def fastB (md : Region.Mode) (l : List Oper) : Bool := Region.noSelect l.toArray && fastFrom md l.toArray 0 l
def preL (s n : Nat) : Array Bool := ((List.range s).map fun i => decide (i < n)).toArray
theorem preL_get (s n i : Nat) (d : Bool) : (preL s n).getD i d = if i < s then decide (i < n) else d := by
 unfold preL
 by_cases h : i < s
 ·simp [h]
 ·simp [h]
theorem preL_set (s n : Nat) : (preL s n).setIfInBounds n true = preL s (n + 1) := by
 apply Array.ext
 ·simp [preL]
 ·intro i h1 h2
  simp only [preL, List.setIfInBounds_toArray, List.getElem_toArray]
  by_cases e : n = i
  ·subst e; simp
  ·rw [List.getElem_set_ne e]
   simp only [List.getElem_map, List.getElem_range]
   by_cases h : i < n
   ·rw [decide_eq_true h, decide_eq_true (by omega)]
   ·rw [decide_eq_false h, decide_eq_false (by omega)]
theorem preL_zero (s : Nat) : preL s 0 = Array.replicate s false := by
 apply Array.ext
 ·simp [preL]
 ·intro i h1 h2; simp [preL]
theorem lexFrom_of_fast {md : Region.Mode} {ops : Array Oper} : ∀ (l : List Oper) (k : Nat), (∀ j, l[j]? = ops[k + j]?) → k + l.length = ops.size → fastFrom md ops k l = true → Region.lexFrom md ops l.length k (preL ops.size k) = true
 | [], k, hl, hs, _ => by
  have : Region.ready md ops (preL ops.size k) = [] := by
   apply List.eq_nil_iff_forall_not_mem.2
   intro j hj
   obtain ⟨h1, o, ho, -⟩ := mem_ready.1 hj
   have hj' : j < ops.size := (Array.getElem?_eq_some_iff.1 ho).1
   rw [preL_get, if_pos hj', decide_eq_true (by simp at hs; omega)] at h1
   cases h1
  simp [Region.lexFrom, this]
 | o :: l, k, hl, hs, h => by
  have h0 : ops[k]? = some o := by simpa using (hl 0).symm
  have hk : k < ops.size := (Array.getElem?_eq_some_iff.1 h0).1
  simp only [fastFrom, Bool.and_eq_true] at h
  obtain ⟨⟨hw, hf⟩, hr⟩ := h
  simp only [List.length_cons, Region.lexFrom, Bool.and_eq_true]
  refine ⟨⟨List.contains_iff_mem.2 (mem_ready.2 ⟨by rw [preL_get, if_pos hk, decide_eq_false (by omega)], o, h0, fun e he hb => ?_⟩), ?_⟩, ?_⟩
  ·have h1 := (Array.all_eq_true_iff_forall_mem.1 hw) e he
   simp only [hb, Bool.not_true, Bool.false_or, decide_eq_true_eq] at h1
   rw [preL_get, if_pos (by omega), decide_eq_true h1]
  ·simp only [Region.free, h0, List.all_eq_true, List.mem_range]
   intro j hj
   by_cases e : j = k
   ·simp [e]
   ·by_cases hjk : j < k
    ·rw [preL_get, if_pos hj, decide_eq_true hjk]; simp
    ·have h2 : l[j - k - 1]? = ops[j]? := by
      have := hl (j - k)
      rw [show k + (j - k) = j by omega] at this
      rw [← this, show j - k = (j - k - 1) + 1 by omega, List.getElem?_cons_succ]
      rfl
     rw [Array.getElem?_eq_getElem hj] at h2
     have h3 := (List.all_eq_true.1 hf) ops[j] (List.mem_of_getElem? h2)
     rw [Array.getElem?_eq_getElem hj]
     simp only [Bool.or_eq_true] at h3 ⊢
     exact .inr h3
  ·rw [preL_set]
   exact lexFrom_of_fast l (k + 1) (fun j => by have := hl (j + 1); simpa [Nat.add_assoc, Nat.add_comm 1 j] using this) (by simp at hs; omega) hr
theorem lexB_of_fast {md : Region.Mode} {l : List Oper} (h : fastB md l = true) : Region.lexB md l.toArray = true := by
 simp only [fastB, Bool.and_eq_true] at h
 simp only [Region.lexB, Bool.and_eq_true]
 refine ⟨h.1, ?_⟩
 have := lexFrom_of_fast (md := md) (ops := l.toArray) l 0 (fun j => by simp) (by simp) h.2
 rw [preL_zero] at this
 simpa using this
end Go.Proofs.YtdmoadfnogdfnaaGreatDoor
namespace Go.Proofs.YtdmoadfnogdfnaaGreatDoor
open Go.RowKit
attribute [local irreducible] lo hs sm s64 c64 d64 b64 mh ml pd pc qd qc val hiB str cmpI srD lz nb isq decB
/-- The text, without more, of a number that a decimal form spells. -/
theorem text_lit (n : Nat) (l : List UInt8) (hd : isDec l) (hv : dval l = n) (hl : (digs n).length ≤ 1000000) (w : World) (htab : Tab w) :
  Calls Tryz.prog 39 #[natV n] w fun e w' => e = .returned (.string ⟨l.toArray⟩) ∧ Below w.heap.size w w' := by
 have h := text_any n hl w htab
 have e : txt n = ⟨l.toArray⟩ := by unfold txt; rw [← hv, dec_dval hd]
 rw [e] at h
 exact h
theorem sm_digs {n k : Nat} (h : n < Bs ^ k) : (digs n).length ≤ k := digs_length_iff.2 h
set_option maxHeartbeats 16000000 in
set_option maxRecDepth 100000 in
theorem works_any (w : World) (htab : Tab w) :
  Calls Tryz.prog 21 #[] w fun e w' => e = .returned (.bool true) ∧ Below w.heap.size w w' := by
 obtain ⟨m, h_m⟩ : ∃ n, n = 18446744073709551615 := ⟨_, rfl⟩
 obtain ⟨ten, h_ten⟩ : ∃ n, n = 100000000000000000000 := ⟨_, rfl⟩
 obtain ⟨q, h_q⟩ : ∃ n, n = 14285714285714285714 := ⟨_, rfl⟩
 obtain ⟨two, h_two⟩ : ∃ n, n = 1180591620717411303424 := ⟨_, rfl⟩
 obtain ⟨six, h_six⟩ : ∃ n, n = 3656158440062976 := ⟨_, rfl⟩
 obtain ⟨less, h_less⟩ : ∃ n, n = 99999999999999999999 := ⟨_, rfl⟩
 obtain ⟨mm, h_mm⟩ : ∃ n, n = 340282366920938463426481119284349108225 := ⟨_, rfl⟩
 obtain ⟨m1, h_m1⟩ : ∃ n, n = 18446744073709551616 := ⟨_, rfl⟩
 obtain ⟨rt, h_rt⟩ : ∃ n, n = 9999999999 := ⟨_, rfl⟩
 have O1 := Lib.hid (fun w => of_val 18446744073709551615 m (by rw [h_m]; rfl) (by rw [h_m]; unfold Bs; omega) w)
 have O2 := Lib.hid (fun w => of_val 10 10 rfl (by unfold Bs; omega) w)
 have P2 := Lib.hid (fun w => pow_ok 10 20 (by omega) (.inr (Nat.le_trans (nb_le64 (by unfold Bs; omega)) (by decide))) (Nat.le_trans (sm_digs (k := 1) (by unfold Bs; decide)) (by omega)) w)
 rw [show 10 ^ 20 = ten by rw [h_ten]] at P2
 have O3 := Lib.hid (fun w => of_val 7 7 rfl (by unfold Bs; omega) w)
 have D3 := Lib.hid (fun w => div_pos ten 7 (by omega) (by rw [h_ten]; exact (Nat.le_trans (sm_digs (k := 2) (by unfold Bs; decide)) (by omega))) w)
 rw [show ten / 7 = q by rw [h_ten, h_q], show ten % 7 = 2 by rw [h_ten]] at D3
 have O4 := Lib.hid (fun w => of_val 2 2 rfl (by unfold Bs; omega) w)
 have P4 := Lib.hid (fun w => pow_ok 2 70 (by omega) (.inr (Nat.le_trans (nb_le64 (by unfold Bs; omega)) (by decide))) (Nat.le_trans (sm_digs (k := 1) (by unfold Bs; decide)) (by omega)) w)
 rw [show 2 ^ 70 = two by rw [h_two]] at P4
 have O5 := Lib.hid (fun w => of_val 6 6 rfl (by unfold Bs; omega) w)
 have P5 := Lib.hid (fun w => pow_ok 6 20 (by omega) (.inr (Nat.le_trans (nb_le64 (by unfold Bs; omega)) (by decide))) (Nat.le_trans (sm_digs (k := 1) (by unfold Bs; decide)) (by omega)) w)
 rw [show 6 ^ 20 = six by rw [h_six]] at P5
 have O6 := Lib.hid (fun w => of_val 1 1 rfl (by unfold Bs; omega) w)
 have S6 := Lib.hid (fun w => sub_ge ten 1 (by rw [h_ten]; omega) (by rw [h_ten]; exact (Nat.le_trans (sm_digs (k := 2) (by unfold Bs; decide)) (by omega))) w)
 rw [show ten - 1 = less by rw [h_ten, h_less]] at S6
 have O7a := Lib.hid (fun w => of_val 3 3 rfl (by unfold Bs; omega) w)
 have O7b := Lib.hid (fun w => of_val 5 5 rfl (by unfold Bs; omega) w)
 have S7 := Lib.hid (fun w => sub_lt 3 5 (by omega) w)
 have O8 := Lib.hid (fun w => of_val 5 5 rfl (by unfold Bs; omega) w)
 have D8 := fun w => div_zero 5 w
 rw [natV_zero] at D8
 replace D8 := Lib.hid D8
 have P9 : ∀ w, Calls Tryz.prog 115 #[.agg #[.int .u64 0, .string ⟨#[]⟩], .int .i64 0] w fun e w' => e = .returned (.tuple #[natV 1, .int .i64 0]) ∧ Below w.heap.size w w' := fun w => by
  rw [← natV_zero]; exact pow_ok 0 0 (by omega) (.inl rfl) (Nat.le_trans (sm_digs (k := 1) (by unfold Bs; decide)) (by omega)) w
 replace P9 := Lib.hid P9
 have O10 := Lib.hid (fun w => of_val 2 2 rfl (by unfold Bs; omega) w)
 have P10 := fun w => pow_neg 2 (-1) (by omega) w
 rw [natV_zero] at P10
 replace P10 := Lib.hid P10
 have M11 := Lib.hid (fun w => mul_any m m (by rw [h_m]; exact (Nat.le_trans (sm_digs (k := 1) (by unfold Bs; decide)) (by omega))) (by rw [h_m]; exact (Nat.le_trans (sm_digs (k := 1) (by unfold Bs; decide)) (by omega))) w)
 rw [show m * m = mm by rw [h_m, h_mm]] at M11
 have T11a := Lib.hid (fun w ht => text_lit mm [51, 52, 48, 50, 56, 50, 51, 54, 54, 57, 50, 48, 57, 51, 56, 52, 54, 51, 52, 50, 54, 52, 56, 49, 49, 49, 57, 50, 56, 52, 51, 52, 57, 49, 48, 56, 50, 50, 53] (isDec_yes (by decide +kernel)) (by rw [h_mm]; decide +kernel) (by rw [h_mm]; exact (Nat.le_trans (sm_digs (k := 2) (by unfold Bs; decide)) (by omega))) w ht)
 have T11b := Lib.hid (fun w ht => text_lit q [49, 52, 50, 56, 53, 55, 49, 52, 50, 56, 53, 55, 49, 52, 50, 56, 53, 55, 49, 52] (isDec_yes (by decide +kernel)) (by rw [h_q]; decide +kernel) (by rw [h_q]; exact (Nat.le_trans (sm_digs (k := 1) (by unfold Bs; decide)) (by omega))) w ht)
 have O11a := Lib.hid (fun w => of_val 2 2 rfl (by unfold Bs; omega) w)
 have G11 := Lib.hid (fun w => gcd_any two six (by rw [h_two]; exact (Nat.le_trans (sm_digs (k := 2) (by unfold Bs; decide)) (by omega))) (by rw [h_six]; exact (Nat.le_trans (sm_digs (k := 1) (by unfold Bs; decide)) (by omega))) w)
 rw [show Nat.gcd two six = 1048576 by rw [h_two, h_six]; decide] at G11
 have O11b := Lib.hid (fun w => of_val 1048576 1048576 rfl (by unfold Bs; omega) w)
 have Q11 := Lib.hid (fun w => sqrt_pos less (by rw [h_less]; omega) (by rw [h_less]; exact (Nat.le_trans (sm_digs (k := 2) (by unfold Bs; decide)) (by omega))) w)
 rw [show isq less = rt from (isq_uniq (by rw [h_rt, h_less]; decide) (by rw [h_rt, h_less]; decide)).symm] at Q11
 have O11c := Lib.hid (fun w => of_val 9999999999 rt (by rw [h_rt]; rfl) (by rw [h_rt]; unfold Bs; omega) w)
 have O11d := Lib.hid (fun w => of_val 1 1 rfl (by unfold Bs; omega) w)
 have A11 := Lib.hid (fun w => add_any m 1 (by rw [h_m]; exact (Nat.le_trans (sm_digs (k := 1) (by unfold Bs; decide)) (by omega))) (Nat.le_trans (sm_digs (k := 1) (by unfold Bs; decide)) (by omega)) w)
 rw [show m + 1 = m1 by rw [h_m, h_m1]] at A11
 have B11 := Lib.hid (fun w => bits_any m1 (by rw [h_m1]; exact (Nat.le_trans (sm_digs (k := 2) (by unfold Bs; decide)) (by omega))) w)
 rw [show nb m1 = 65 from nb_of (by rw [h_m1]; decide) (by rw [h_m1]; decide)] at B11
 have R13 := fun w => parse_form [48, 48] (by decide) (isDec_no (by decide +kernel)) w
 rw [natV_zero] at R13
 have h0 : st [48, 48] = ⟨#[48, 48]⟩ := rfl
 rw [h0] at R13
 clear h0
 replace R13 := Lib.hid R13
 have R14 := fun w => parse_form [] (by decide) (isDec_no (by decide +kernel)) w
 rw [natV_zero] at R14
 have h0 : st [] = ⟨#[]⟩ := rfl
 rw [h0] at R14
 clear h0
 replace R14 := Lib.hid R14
 have R15 := fun w => parse_form [45, 49] (by decide) (isDec_no (by decide +kernel)) w
 rw [natV_zero] at R15
 have h0 : st [45, 49] = ⟨#[45, 49]⟩ := rfl
 rw [h0] at R15
 clear h0
 replace R15 := Lib.hid R15
 have R16 := Lib.hid (fun w => parse_ok [49, 50] (by decide) (isDec_yes (by decide +kernel)) w)
 rw [show dval [49, 50] = 12 by decide, show st [49, 50] = ⟨#[49, 50]⟩ from rfl] at R16
 have O17a := Lib.hid (fun w => of_val 1 1 rfl (by unfold Bs; omega) w)
 have O17b := Lib.hid (fun w => of_val 12 12 rfl (by unfold Bs; omega) w)
 clear h_m h_ten h_q h_two h_six h_less h_mm h_m1 h_rt
 have hL0 : NL w w [] := NL.start w
 go_enter Tryz.func21, Tryz.ntmps21
 go_wp2_with fail
 with_reducible refine Calls.mono (O1.out _) ?_
 rintro e x1 ⟨rfl, hb⟩
 replace hL0 := hL0.call hb
 clear hb O1
 replace hL0 := hL0.new rfl m 32
 generalize hweq : x1.alloc (.cells #[.int .u64 ((lo m : Nat) : Int), .string (hs m)] 32) = x2 at hL0
 go_wp2_with fail
 with_reducible refine Calls.mono (O2.out _) ?_
 rintro e x3 ⟨rfl, hb⟩
 replace hL0 := hL0.call hb
 clear hb O2 hweq
 go_wp2_with fail
 with_reducible refine Calls.mono (P2.out _) ?_
 rintro e x4 ⟨rfl, hb⟩
 replace hL0 := hL0.call hb
 clear hb P2
 replace hL0 := hL0.new rfl ten 32
 generalize hweq : x4.alloc (.cells #[.int .u64 ((lo ten : Nat) : Int), .string (hs ten)] 32) = x5 at hL0
 go_upto_region 3 with fail
 go_cut [4, 5, 6] from 4 to 42 (fun t4 t5 t6 wx => ∃ k4 k5, t4 = .pointer (some ⟨k4, 0, none⟩) ∧ t5 = .pointer (some ⟨k5, 0, none⟩) ∧ t6 = .bool true ∧ NL w wx [(k5, 2), (k4, q), (x4.heap.size, ten), (x1.heap.size, m)])
 case first =>
  clear hweq
  have hR := NL.start x5
  have hnw : ∀ (W : World) (v0 v1 : Value) (t : TypeId), (W.alloc (.cells #[v0, v1] t)).cell? ⟨W.heap.size, 0, none⟩ = some v0 ∧ (W.alloc (.cells #[v0, v1] t)).cell? ⟨W.heap.size, 1, none⟩ = some v1 ∧ ∀ j, (W.alloc (.cells #[v0, v1] t)).frozen? ⟨W.heap.size, j, none⟩ = false := nw_all
  have hs0 : [(x4.heap.size, ten)] ⊆ [(x4.heap.size, ten), (x1.heap.size, m)] := by simp
  go_region_held3 (fun w' => w'.cell? ⟨x4.heap.size, 0, none⟩ = some (.int .u64 ((lo ten : Nat) : Int)) ∧ w'.cell? ⟨x4.heap.size, 1, none⟩ = some (.string (hs ten)))
   ((apply (NL.keep (w0 := x5) (C := [(x4.heap.size, ten)]) hL0 hs0); (first | ((repeat (first | (with_reducible exact szAD _ _) | (with_reducible exact szA _ _) | (with_reducible exact szD _) | (with_reducible exact rfl) | assumption | (with_reducible apply NL.drew) | (with_reducible apply NL.new0) | (with_reducible apply NL.new) | (with_reducible apply NL.put0) | (with_reducible apply NL.put1))); done) | ((with_reducible apply NL.put1); (repeat (first | (with_reducible exact szAD _ _) | (with_reducible exact szA _ _) | (with_reducible exact szD _) | (with_reducible exact rfl) | assumption | (with_reducible apply NL.drew) | (with_reducible apply NL.new0) | (with_reducible apply NL.new) | (with_reducible apply NL.put0) | (with_reducible apply NL.put1))); done))))
   (first
    | (go_at_call 81; ((with_reducible refine Calls.mono (O3.out _) ?_); rintro e wc0 ⟨rfl, hbc0⟩; have hLc0 := NL.call (w0 := x5) (by (first | ((repeat (first | (with_reducible exact szAD _ _) | (with_reducible exact szA _ _) | (with_reducible exact szD _) | (with_reducible exact rfl) | assumption | (with_reducible apply NL.drew) | (with_reducible apply NL.new0) | (with_reducible apply NL.new) | (with_reducible apply NL.put0) | (with_reducible apply NL.put1))); done) | ((with_reducible apply NL.put1); (repeat (first | (with_reducible exact szAD _ _) | (with_reducible exact szA _ _) | (with_reducible exact szD _) | (with_reducible exact rfl) | assumption | (with_reducible apply NL.drew) | (with_reducible apply NL.new0) | (with_reducible apply NL.new) | (with_reducible apply NL.put0) | (with_reducible apply NL.put1))); done))) hbc0; have hAc0 := hLc0.fc; simp only [fc, ne, and_true, ne_eq, not_false_eq_true] at hAc0))
    | (go_at_call 106; ((with_reducible refine Calls.mono (D3.out _) ?_); rintro e wc1 ⟨rfl, hbc1⟩; have hLc1 := NL.call (w0 := x5) (by (first | ((repeat (first | (with_reducible exact szAD _ _) | (with_reducible exact szA _ _) | (with_reducible exact szD _) | (with_reducible exact rfl) | assumption | (with_reducible apply NL.drew) | (with_reducible apply NL.new0) | (with_reducible apply NL.new) | (with_reducible apply NL.put0) | (with_reducible apply NL.put1))); done) | ((with_reducible apply NL.put1); (repeat (first | (with_reducible exact szAD _ _) | (with_reducible exact szA _ _) | (with_reducible exact szD _) | (with_reducible exact rfl) | assumption | (with_reducible apply NL.drew) | (with_reducible apply NL.new0) | (with_reducible apply NL.new) | (with_reducible apply NL.put0) | (with_reducible apply NL.put1))); done))) hbc1; have hAc1 := hLc1.fc; simp only [fc, ne, and_true, ne_eq, not_false_eq_true] at hAc1)))
  all_goals (
   go_wp2_with fail
   go_meet
   exact ⟨_, _, rfl, rfl, rfl, by first | exact NL.join (L := [_, _]) hL0 (by (first | ((repeat (first | (with_reducible exact szAD _ _) | (with_reducible exact szA _ _) | (with_reducible exact szD _) | (with_reducible exact rfl) | assumption | (with_reducible apply NL.drew) | (with_reducible apply NL.new0) | (with_reducible apply NL.new) | (with_reducible apply NL.put0) | (with_reducible apply NL.put1))); done) | ((with_reducible apply NL.put1); (repeat (first | (with_reducible exact szAD _ _) | (with_reducible exact szA _ _) | (with_reducible exact szD _) | (with_reducible exact rfl) | assumption | (with_reducible apply NL.drew) | (with_reducible apply NL.new0) | (with_reducible apply NL.new) | (with_reducible apply NL.put0) | (with_reducible apply NL.put1))); done))) | exact NL.join (L := [_, _]) hL0 (NL.swap (by (first | ((repeat (first | (with_reducible exact szAD _ _) | (with_reducible exact szA _ _) | (with_reducible exact szD _) | (with_reducible exact rfl) | assumption | (with_reducible apply NL.drew) | (with_reducible apply NL.new0) | (with_reducible apply NL.new) | (with_reducible apply NL.put0) | (with_reducible apply NL.put1))); done) | ((with_reducible apply NL.put1); (repeat (first | (with_reducible exact szAD _ _) | (with_reducible exact szA _ _) | (with_reducible exact szD _) | (with_reducible exact rfl) | assumption | (with_reducible apply NL.drew) | (with_reducible apply NL.new0) | (with_reducible apply NL.new) | (with_reducible apply NL.put0) | (with_reducible apply NL.put1))); done))))⟩)
 case rest =>
  clear hL0 O3 D3
  obtain ⟨k4, k5, rfl, rfl, rfl, hL0⟩ := hcut
  go_wp2_with fail
  with_reducible refine Calls.mono (O4.out _) ?_
  rintro e x6 ⟨rfl, hb⟩
  replace hL0 := hL0.call hb
  clear hb O4
  go_wp2_with fail
  with_reducible refine Calls.mono (P4.out _) ?_
  rintro e x7 ⟨rfl, hb⟩
  replace hL0 := hL0.call hb
  clear hb P4
  replace hL0 := hL0.new rfl two 32
  generalize hweq : x7.alloc (.cells #[.int .u64 ((lo two : Nat) : Int), .string (hs two)] 32) = x8 at hL0
  go_wp2_with fail
  with_reducible refine Calls.mono (O5.out _) ?_
  rintro e x9 ⟨rfl, hb⟩
  replace hL0 := hL0.call hb
  clear hb O5 hweq
  go_wp2_with fail
  with_reducible refine Calls.mono (P5.out _) ?_
  rintro e x10 ⟨rfl, hb⟩
  replace hL0 := hL0.call hb
  clear hb P5
  replace hL0 := hL0.new rfl six 32
  generalize hweq : x10.alloc (.cells #[.int .u64 ((lo six : Nat) : Int), .string (hs six)] 32) = x11 at hL0
  go_upto_region 6 with fail
  go_cut [11, 12] from 11 to 58 (fun t11 t12 wx => ∃ k11, t11 = .pointer (some ⟨k11, 0, none⟩) ∧ t12 = .bool true ∧ NL w wx [(k11, less), (x10.heap.size, six), (x7.heap.size, two), (k5, 2), (k4, q), (x4.heap.size, ten), (x1.heap.size, m)])
  case first =>
   clear hweq
   have hR := NL.start x11
   have hnw : ∀ (W : World) (v0 v1 : Value) (t : TypeId), (W.alloc (.cells #[v0, v1] t)).cell? ⟨W.heap.size, 0, none⟩ = some v0 ∧ (W.alloc (.cells #[v0, v1] t)).cell? ⟨W.heap.size, 1, none⟩ = some v1 ∧ ∀ j, (W.alloc (.cells #[v0, v1] t)).frozen? ⟨W.heap.size, j, none⟩ = false := nw_all
   have hs0 : [(x4.heap.size, ten)] ⊆ [(x10.heap.size, six), (x7.heap.size, two), (k5, 2), (k4, q), (x4.heap.size, ten), (x1.heap.size, m)] := by simp
   go_region_held3 (fun w' => w'.cell? ⟨x4.heap.size, 0, none⟩ = some (.int .u64 ((lo ten : Nat) : Int)) ∧ w'.cell? ⟨x4.heap.size, 1, none⟩ = some (.string (hs ten)))
    ((apply (NL.keep (w0 := x11) (C := [(x4.heap.size, ten)]) hL0 hs0); (first | ((repeat (first | (with_reducible exact szAD _ _) | (with_reducible exact szA _ _) | (with_reducible exact szD _) | (with_reducible exact rfl) | assumption | (with_reducible apply NL.drew) | (with_reducible apply NL.new0) | (with_reducible apply NL.new) | (with_reducible apply NL.put0) | (with_reducible apply NL.put1))); done) | ((with_reducible apply NL.put1); (repeat (first | (with_reducible exact szAD _ _) | (with_reducible exact szA _ _) | (with_reducible exact szD _) | (with_reducible exact rfl) | assumption | (with_reducible apply NL.drew) | (with_reducible apply NL.new0) | (with_reducible apply NL.new) | (with_reducible apply NL.put0) | (with_reducible apply NL.put1))); done))))
    (first
     | (go_at_call 81; ((with_reducible refine Calls.mono (O6.out _) ?_); rintro e wc0 ⟨rfl, hbc0⟩; have hLc0 := NL.call (w0 := x11) (by (first | ((repeat (first | (with_reducible exact szAD _ _) | (with_reducible exact szA _ _) | (with_reducible exact szD _) | (with_reducible exact rfl) | assumption | (with_reducible apply NL.drew) | (with_reducible apply NL.new0) | (with_reducible apply NL.new) | (with_reducible apply NL.put0) | (with_reducible apply NL.put1))); done) | ((with_reducible apply NL.put1); (repeat (first | (with_reducible exact szAD _ _) | (with_reducible exact szA _ _) | (with_reducible exact szD _) | (with_reducible exact rfl) | assumption | (with_reducible apply NL.drew) | (with_reducible apply NL.new0) | (with_reducible apply NL.new) | (with_reducible apply NL.put0) | (with_reducible apply NL.put1))); done))) hbc0; have hAc0 := hLc0.fc; simp only [fc, ne, and_true, ne_eq, not_false_eq_true] at hAc0))
     | (go_at_call 100; ((with_reducible refine Calls.mono (S6.out _) ?_); rintro e wc1 ⟨rfl, hbc1⟩; have hLc1 := NL.call (w0 := x11) (by (first | ((repeat (first | (with_reducible exact szAD _ _) | (with_reducible exact szA _ _) | (with_reducible exact szD _) | (with_reducible exact rfl) | assumption | (with_reducible apply NL.drew) | (with_reducible apply NL.new0) | (with_reducible apply NL.new) | (with_reducible apply NL.put0) | (with_reducible apply NL.put1))); done) | ((with_reducible apply NL.put1); (repeat (first | (with_reducible exact szAD _ _) | (with_reducible exact szA _ _) | (with_reducible exact szD _) | (with_reducible exact rfl) | assumption | (with_reducible apply NL.drew) | (with_reducible apply NL.new0) | (with_reducible apply NL.new) | (with_reducible apply NL.put0) | (with_reducible apply NL.put1))); done))) hbc1; have hAc1 := hLc1.fc; simp only [fc, ne, and_true, ne_eq, not_false_eq_true] at hAc1)))
   all_goals (
    go_wp2_with fail
    go_meet
    exact ⟨_, rfl, rfl, NL.join (L := [_]) hL0 (by (first | ((repeat (first | (with_reducible exact szAD _ _) | (with_reducible exact szA _ _) | (with_reducible exact szD _) | (with_reducible exact rfl) | assumption | (with_reducible apply NL.drew) | (with_reducible apply NL.new0) | (with_reducible apply NL.new) | (with_reducible apply NL.put0) | (with_reducible apply NL.put1))); done) | ((with_reducible apply NL.put1); (repeat (first | (with_reducible exact szAD _ _) | (with_reducible exact szA _ _) | (with_reducible exact szD _) | (with_reducible exact rfl) | assumption | (with_reducible apply NL.drew) | (with_reducible apply NL.new0) | (with_reducible apply NL.new) | (with_reducible apply NL.put0) | (with_reducible apply NL.put1))); done)))⟩)
  case rest =>
   clear hL0 O6 S6
   obtain ⟨k11, rfl, rfl, hL0⟩ := hcut
   go_wp2_with fail
   with_reducible refine Calls.mono (O7a.out _) ?_
   rintro e x12 ⟨rfl, hb⟩
   replace hL0 := hL0.call hb
   clear hb O7a
   go_wp2_with fail
   with_reducible refine Calls.mono (O7b.out _) ?_
   rintro e x13 ⟨rfl, hb⟩
   replace hL0 := hL0.call hb
   clear hb O7b
   go_wp2_with fail
   with_reducible refine Calls.mono (S7.out _) ?_
   rintro e x14 ⟨rfl, hb⟩
   replace hL0 := hL0.call hb
   clear hb S7
   replace hL0 := hL0.new rfl 0 32
   generalize hweq : x14.alloc (.cells #[.int .u64 ((lo 0 : Nat) : Int), .string (hs 0)] 32) = x15 at hL0
   go_wp2_with fail
   with_reducible refine Calls.mono (O8.out _) ?_
   rintro e x16 ⟨rfl, hb⟩
   replace hL0 := hL0.call hb
   clear hb O8 hweq
   go_wp2_with fail
   with_reducible refine Calls.mono (D8.out _) ?_
   rintro e x17 ⟨rfl, hb⟩
   replace hL0 := hL0.call hb
   clear hb D8
   replace hL0 := (hL0.new0 rfl 32).new0 (szA _ _) 32
   go_wp2_with fail
   with_reducible refine Calls.mono (P9.out _) ?_
   rintro e x19 ⟨rfl, hb⟩
   replace hL0 := hL0.call hb
   clear hb P9
   replace hL0 := hL0.new rfl 1 32
   generalize hweq : x19.alloc (.cells #[.int .u64 ((lo 1 : Nat) : Int), .string (hs 1)] 32) = x20 at hL0
   go_wp2_with fail
   with_reducible refine Calls.mono (O10.out _) ?_
   rintro e x21 ⟨rfl, hb⟩
   replace hL0 := hL0.call hb
   clear hb O10 hweq
   go_wp2_with fail
   with_reducible refine Calls.mono (P10.out _) ?_
   rintro e x22 ⟨rfl, hb⟩
   replace hL0 := hL0.call hb
   clear hb P10
   replace hL0 := hL0.new0 rfl 32
   go_upto_region 11 with fail
   generalize hz20 : (x22.alloc (.cells #[.int .u64 0, .string ⟨#[]⟩] 32)) = wz at hL0 ⊢
   clear hz20
   go_cut [120] from 82 to 120 (fun t120 wx => t120 = .bool false ∧ NL w wx [(x22.heap.size, 0), (x19.heap.size, 1), (x17.heap.size + 1, 0), (x17.heap.size, 0), (x14.heap.size, 0), (k11, less), (x10.heap.size, six), (x7.heap.size, two), (k5, 2), (k4, q), (x4.heap.size, ten), (x1.heap.size, m)])
   case first =>
    have htB : Tab wz := htab.below hL0.bl
    have hR := NL.start wz
    have hs0 : [(x1.heap.size, m), (k4, q), (k5, 2), (x7.heap.size, two), (x10.heap.size, six), (k11, less)] ⊆ [(x22.heap.size, 0), (x19.heap.size, 1), (x17.heap.size + 1, 0), (x17.heap.size, 0), (x14.heap.size, 0), (k11, less), (x10.heap.size, six), (x7.heap.size, two), (k5, 2), (k4, q), (x4.heap.size, ten), (x1.heap.size, m)] := by simp
    go_region_held3 (fun w' => w'.cell? ⟨x1.heap.size, 0, none⟩ = some (.int .u64 ((lo m : Nat) : Int)) ∧ w'.cell? ⟨x1.heap.size, 1, none⟩ = some (.string (hs m)) ∧ w'.cell? ⟨k4, 0, none⟩ = some (.int .u64 ((lo q : Nat) : Int)) ∧ w'.cell? ⟨k4, 1, none⟩ = some (.string (hs q)) ∧ w'.cell? ⟨k5, 0, none⟩ = some (.int .u64 ((lo 2 : Nat) : Int)) ∧ w'.cell? ⟨k5, 1, none⟩ = some (.string (hs 2)) ∧ w'.cell? ⟨x7.heap.size, 0, none⟩ = some (.int .u64 ((lo two : Nat) : Int)) ∧ w'.cell? ⟨x7.heap.size, 1, none⟩ = some (.string (hs two)) ∧ w'.cell? ⟨x10.heap.size, 0, none⟩ = some (.int .u64 ((lo six : Nat) : Int)) ∧ w'.cell? ⟨x10.heap.size, 1, none⟩ = some (.string (hs six)) ∧ w'.cell? ⟨k11, 0, none⟩ = some (.int .u64 ((lo less : Nat) : Int)) ∧ w'.cell? ⟨k11, 1, none⟩ = some (.string (hs less)))
     ((apply (NL.keep (w0 := wz) (C := [(x1.heap.size, m), (k4, q), (k5, 2), (x7.heap.size, two), (x10.heap.size, six), (k11, less)]) hL0 hs0); (first | ((repeat (first | (with_reducible exact szAD _ _) | (with_reducible exact szA _ _) | (with_reducible exact szD _) | (with_reducible exact rfl) | assumption | (with_reducible apply NL.drew) | (with_reducible apply NL.new0) | (with_reducible apply NL.new) | (with_reducible apply NL.put0) | (with_reducible apply NL.put1))); done) | ((with_reducible apply NL.put1); (repeat (first | (with_reducible exact szAD _ _) | (with_reducible exact szA _ _) | (with_reducible exact szD _) | (with_reducible exact rfl) | assumption | (with_reducible apply NL.drew) | (with_reducible apply NL.new0) | (with_reducible apply NL.new) | (with_reducible apply NL.put0) | (with_reducible apply NL.put1))); done))))
     (first
      | (go_at_call 107; ((with_reducible refine Calls.mono (M11.out _) ?_); rintro e wd0 ⟨rfl, hbd0⟩; have hLd0 := NL.call (w0 := wz) (by (first | ((repeat (first | (with_reducible exact szAD _ _) | (with_reducible exact szA _ _) | (with_reducible exact szD _) | (with_reducible exact rfl) | assumption | (with_reducible apply NL.drew) | (with_reducible apply NL.new0) | (with_reducible apply NL.new) | (with_reducible apply NL.put0) | (with_reducible apply NL.put1))); done) | ((with_reducible apply NL.put1); (repeat (first | (with_reducible exact szAD _ _) | (with_reducible exact szA _ _) | (with_reducible exact szD _) | (with_reducible exact rfl) | assumption | (with_reducible apply NL.drew) | (with_reducible apply NL.new0) | (with_reducible apply NL.new) | (with_reducible apply NL.put0) | (with_reducible apply NL.put1))); done))) hbd0; have hAd0 := hLd0.fc; simp only [fc, ne, and_true, ne_eq, not_false_eq_true] at hAd0))
      | (go_at_call 39; ((with_reducible refine Calls.mono (T11a.out _ (htB.below (NL.bl (w0 := wz) (by (first | ((repeat (first | (with_reducible exact szAD _ _) | (with_reducible exact szA _ _) | (with_reducible exact szD _) | (with_reducible exact rfl) | assumption | (with_reducible apply NL.drew) | (with_reducible apply NL.new0) | (with_reducible apply NL.new) | (with_reducible apply NL.put0) | (with_reducible apply NL.put1))); done) | ((with_reducible apply NL.put1); (repeat (first | (with_reducible exact szAD _ _) | (with_reducible exact szA _ _) | (with_reducible exact szD _) | (with_reducible exact rfl) | assumption | (with_reducible apply NL.drew) | (with_reducible apply NL.new0) | (with_reducible apply NL.new) | (with_reducible apply NL.put0) | (with_reducible apply NL.put1))); done)))))) ?_); rintro e wd1 ⟨rfl, hbd1⟩; have hLd1 := NL.call (w0 := wz) (by (first | ((repeat (first | (with_reducible exact szAD _ _) | (with_reducible exact szA _ _) | (with_reducible exact szD _) | (with_reducible exact rfl) | assumption | (with_reducible apply NL.drew) | (with_reducible apply NL.new0) | (with_reducible apply NL.new) | (with_reducible apply NL.put0) | (with_reducible apply NL.put1))); done) | ((with_reducible apply NL.put1); (repeat (first | (with_reducible exact szAD _ _) | (with_reducible exact szA _ _) | (with_reducible exact szD _) | (with_reducible exact rfl) | assumption | (with_reducible apply NL.drew) | (with_reducible apply NL.new0) | (with_reducible apply NL.new) | (with_reducible apply NL.put0) | (with_reducible apply NL.put1))); done))) hbd1; have hAd1 := hLd1.fc; simp only [fc, ne, and_true, ne_eq, not_false_eq_true] at hAd1))
      | (go_at_call 39; ((with_reducible refine Calls.mono (T11b.out _ (htB.below (NL.bl (w0 := wz) (by (first | ((repeat (first | (with_reducible exact szAD _ _) | (with_reducible exact szA _ _) | (with_reducible exact szD _) | (with_reducible exact rfl) | assumption | (with_reducible apply NL.drew) | (with_reducible apply NL.new0) | (with_reducible apply NL.new) | (with_reducible apply NL.put0) | (with_reducible apply NL.put1))); done) | ((with_reducible apply NL.put1); (repeat (first | (with_reducible exact szAD _ _) | (with_reducible exact szA _ _) | (with_reducible exact szD _) | (with_reducible exact rfl) | assumption | (with_reducible apply NL.drew) | (with_reducible apply NL.new0) | (with_reducible apply NL.new) | (with_reducible apply NL.put0) | (with_reducible apply NL.put1))); done)))))) ?_); rintro e wd2 ⟨rfl, hbd2⟩; have hLd2 := NL.call (w0 := wz) (by (first | ((repeat (first | (with_reducible exact szAD _ _) | (with_reducible exact szA _ _) | (with_reducible exact szD _) | (with_reducible exact rfl) | assumption | (with_reducible apply NL.drew) | (with_reducible apply NL.new0) | (with_reducible apply NL.new) | (with_reducible apply NL.put0) | (with_reducible apply NL.put1))); done) | ((with_reducible apply NL.put1); (repeat (first | (with_reducible exact szAD _ _) | (with_reducible exact szA _ _) | (with_reducible exact szD _) | (with_reducible exact rfl) | assumption | (with_reducible apply NL.drew) | (with_reducible apply NL.new0) | (with_reducible apply NL.new) | (with_reducible apply NL.put0) | (with_reducible apply NL.put1))); done))) hbd2; have hAd2 := hLd2.fc; simp only [fc, ne, and_true, ne_eq, not_false_eq_true] at hAd2))
      | (go_at_call 81; ((with_reducible refine Calls.mono (O11a.out _) ?_); rintro e wd3 ⟨rfl, hbd3⟩; have hLd3 := NL.call (w0 := wz) (by (first | ((repeat (first | (with_reducible exact szAD _ _) | (with_reducible exact szA _ _) | (with_reducible exact szD _) | (with_reducible exact rfl) | assumption | (with_reducible apply NL.drew) | (with_reducible apply NL.new0) | (with_reducible apply NL.new) | (with_reducible apply NL.put0) | (with_reducible apply NL.put1))); done) | ((with_reducible apply NL.put1); (repeat (first | (with_reducible exact szAD _ _) | (with_reducible exact szA _ _) | (with_reducible exact szD _) | (with_reducible exact rfl) | assumption | (with_reducible apply NL.drew) | (with_reducible apply NL.new0) | (with_reducible apply NL.new) | (with_reducible apply NL.put0) | (with_reducible apply NL.put1))); done))) hbd3; have hAd3 := hLd3.fc; simp only [fc, ne, and_true, ne_eq, not_false_eq_true] at hAd3))
      | (go_at_call 109; ((with_reducible refine Calls.mono (G11.out _) ?_); rintro e wd4 ⟨rfl, hbd4⟩; have hLd4 := NL.call (w0 := wz) (by (first | ((repeat (first | (with_reducible exact szAD _ _) | (with_reducible exact szA _ _) | (with_reducible exact szD _) | (with_reducible exact rfl) | assumption | (with_reducible apply NL.drew) | (with_reducible apply NL.new0) | (with_reducible apply NL.new) | (with_reducible apply NL.put0) | (with_reducible apply NL.put1))); done) | ((with_reducible apply NL.put1); (repeat (first | (with_reducible exact szAD _ _) | (with_reducible exact szA _ _) | (with_reducible exact szD _) | (with_reducible exact rfl) | assumption | (with_reducible apply NL.drew) | (with_reducible apply NL.new0) | (with_reducible apply NL.new) | (with_reducible apply NL.put0) | (with_reducible apply NL.put1))); done))) hbd4; have hAd4 := hLd4.fc; simp only [fc, ne, and_true, ne_eq, not_false_eq_true] at hAd4))
      | (go_at_call 81; ((with_reducible refine Calls.mono (O11b.out _) ?_); rintro e wd5 ⟨rfl, hbd5⟩; have hLd5 := NL.call (w0 := wz) (by (first | ((repeat (first | (with_reducible exact szAD _ _) | (with_reducible exact szA _ _) | (with_reducible exact szD _) | (with_reducible exact rfl) | assumption | (with_reducible apply NL.drew) | (with_reducible apply NL.new0) | (with_reducible apply NL.new) | (with_reducible apply NL.put0) | (with_reducible apply NL.put1))); done) | ((with_reducible apply NL.put1); (repeat (first | (with_reducible exact szAD _ _) | (with_reducible exact szA _ _) | (with_reducible exact szD _) | (with_reducible exact rfl) | assumption | (with_reducible apply NL.drew) | (with_reducible apply NL.new0) | (with_reducible apply NL.new) | (with_reducible apply NL.put0) | (with_reducible apply NL.put1))); done))) hbd5; have hAd5 := hLd5.fc; simp only [fc, ne, and_true, ne_eq, not_false_eq_true] at hAd5))
      | (go_at_call 113; ((with_reducible refine Calls.mono (Q11.out _) ?_); rintro e wd6 ⟨rfl, hbd6⟩; have hLd6 := NL.call (w0 := wz) (by (first | ((repeat (first | (with_reducible exact szAD _ _) | (with_reducible exact szA _ _) | (with_reducible exact szD _) | (with_reducible exact rfl) | assumption | (with_reducible apply NL.drew) | (with_reducible apply NL.new0) | (with_reducible apply NL.new) | (with_reducible apply NL.put0) | (with_reducible apply NL.put1))); done) | ((with_reducible apply NL.put1); (repeat (first | (with_reducible exact szAD _ _) | (with_reducible exact szA _ _) | (with_reducible exact szD _) | (with_reducible exact rfl) | assumption | (with_reducible apply NL.drew) | (with_reducible apply NL.new0) | (with_reducible apply NL.new) | (with_reducible apply NL.put0) | (with_reducible apply NL.put1))); done))) hbd6; have hAd6 := hLd6.fc; simp only [fc, ne, and_true, ne_eq, not_false_eq_true] at hAd6))
      | (go_at_call 81; ((with_reducible refine Calls.mono (O11c.out _) ?_); rintro e wd7 ⟨rfl, hbd7⟩; have hLd7 := NL.call (w0 := wz) (by (first | ((repeat (first | (with_reducible exact szAD _ _) | (with_reducible exact szA _ _) | (with_reducible exact szD _) | (with_reducible exact rfl) | assumption | (with_reducible apply NL.drew) | (with_reducible apply NL.new0) | (with_reducible apply NL.new) | (with_reducible apply NL.put0) | (with_reducible apply NL.put1))); done) | ((with_reducible apply NL.put1); (repeat (first | (with_reducible exact szAD _ _) | (with_reducible exact szA _ _) | (with_reducible exact szD _) | (with_reducible exact rfl) | assumption | (with_reducible apply NL.drew) | (with_reducible apply NL.new0) | (with_reducible apply NL.new) | (with_reducible apply NL.put0) | (with_reducible apply NL.put1))); done))) hbd7; have hAd7 := hLd7.fc; simp only [fc, ne, and_true, ne_eq, not_false_eq_true] at hAd7))
      | (go_at_call 81; ((with_reducible refine Calls.mono (O11d.out _) ?_); rintro e wd8 ⟨rfl, hbd8⟩; have hLd8 := NL.call (w0 := wz) (by (first | ((repeat (first | (with_reducible exact szAD _ _) | (with_reducible exact szA _ _) | (with_reducible exact szD _) | (with_reducible exact rfl) | assumption | (with_reducible apply NL.drew) | (with_reducible apply NL.new0) | (with_reducible apply NL.new) | (with_reducible apply NL.put0) | (with_reducible apply NL.put1))); done) | ((with_reducible apply NL.put1); (repeat (first | (with_reducible exact szAD _ _) | (with_reducible exact szA _ _) | (with_reducible exact szD _) | (with_reducible exact rfl) | assumption | (with_reducible apply NL.drew) | (with_reducible apply NL.new0) | (with_reducible apply NL.new) | (with_reducible apply NL.put0) | (with_reducible apply NL.put1))); done))) hbd8; have hAd8 := hLd8.fc; simp only [fc, ne, and_true, ne_eq, not_false_eq_true] at hAd8))
      | (go_at_call 102; ((with_reducible refine Calls.mono (A11.out _) ?_); rintro e wd9 ⟨rfl, hbd9⟩; have hLd9 := NL.call (w0 := wz) (by (first | ((repeat (first | (with_reducible exact szAD _ _) | (with_reducible exact szA _ _) | (with_reducible exact szD _) | (with_reducible exact rfl) | assumption | (with_reducible apply NL.drew) | (with_reducible apply NL.new0) | (with_reducible apply NL.new) | (with_reducible apply NL.put0) | (with_reducible apply NL.put1))); done) | ((with_reducible apply NL.put1); (repeat (first | (with_reducible exact szAD _ _) | (with_reducible exact szA _ _) | (with_reducible exact szD _) | (with_reducible exact rfl) | assumption | (with_reducible apply NL.drew) | (with_reducible apply NL.new0) | (with_reducible apply NL.new) | (with_reducible apply NL.put0) | (with_reducible apply NL.put1))); done))) hbd9; have hAd9 := hLd9.fc; simp only [fc, ne, and_true, ne_eq, not_false_eq_true] at hAd9))
      | (go_at_call 114; ((with_reducible refine Calls.mono (B11.out _) ?_); rintro e wda ⟨rfl, hbda⟩; have hLda := NL.call (w0 := wz) (by (first | ((repeat (first | (with_reducible exact szAD _ _) | (with_reducible exact szA _ _) | (with_reducible exact szD _) | (with_reducible exact rfl) | assumption | (with_reducible apply NL.drew) | (with_reducible apply NL.new0) | (with_reducible apply NL.new) | (with_reducible apply NL.put0) | (with_reducible apply NL.put1))); done) | ((with_reducible apply NL.put1); (repeat (first | (with_reducible exact szAD _ _) | (with_reducible exact szA _ _) | (with_reducible exact szD _) | (with_reducible exact rfl) | assumption | (with_reducible apply NL.drew) | (with_reducible apply NL.new0) | (with_reducible apply NL.new) | (with_reducible apply NL.put0) | (with_reducible apply NL.put1))); done))) hbda; have hAda := hLda.fc; simp only [fc, ne, and_true, ne_eq, not_false_eq_true] at hAda)))
    all_goals (
     go_wp2_with fail
     go_meet
     exact ⟨rfl, NL.join (L := []) hL0 (by (first | ((repeat (first | (with_reducible exact szAD _ _) | (with_reducible exact szA _ _) | (with_reducible exact szD _) | (with_reducible exact rfl) | assumption | (with_reducible apply NL.drew) | (with_reducible apply NL.new0) | (with_reducible apply NL.new) | (with_reducible apply NL.put0) | (with_reducible apply NL.put1))); done) | ((with_reducible apply NL.put1); (repeat (first | (with_reducible exact szAD _ _) | (with_reducible exact szA _ _) | (with_reducible exact szD _) | (with_reducible exact rfl) | assumption | (with_reducible apply NL.drew) | (with_reducible apply NL.new0) | (with_reducible apply NL.new) | (with_reducible apply NL.put0) | (with_reducible apply NL.put1))); done)))⟩)
   case rest =>
    clear hL0 M11 T11a T11b O11a G11 O11b Q11 O11c O11d A11 B11
    obtain ⟨rfl, hL0⟩ := hcut
    go_wp2_with fail
    with_reducible refine Calls.mono (R13.out _) ?_
    rintro e x24 ⟨rfl, hb⟩
    replace hL0 := hL0.call hb
    clear hb R13
    replace hL0 := hL0.new0 rfl 32
    go_wp2_with fail
    with_reducible refine Calls.mono (R14.out _) ?_
    rintro e x26 ⟨rfl, hb⟩
    replace hL0 := hL0.call hb
    clear hb R14
    replace hL0 := hL0.new0 rfl 32
    go_wp2_with fail
    with_reducible refine Calls.mono (R15.out _) ?_
    rintro e x28 ⟨rfl, hb⟩
    replace hL0 := hL0.call hb
    clear hb R15
    replace hL0 := hL0.new0 rfl 32
    go_wp2_with fail
    with_reducible refine Calls.mono (R16.out _) ?_
    rintro e x30 ⟨rfl, hb⟩
    replace hL0 := hL0.call hb
    clear hb R16
    replace hL0 := hL0.new rfl 12 32
    generalize hweq : x30.alloc (.cells #[.int .u64 ((lo 12 : Nat) : Int), .string (hs 12)] 32) = x31 at hL0
    go_wp2_with fail
    clear hweq
    have hR := NL.start x31
    have hs0 : [(x19.heap.size, 1), (x30.heap.size, 12)] ⊆ [(x30.heap.size, 12), (x28.heap.size, 0), (x26.heap.size, 0), (x24.heap.size, 0), (x22.heap.size, 0), (x19.heap.size, 1), (x17.heap.size + 1, 0), (x17.heap.size, 0), (x14.heap.size, 0), (k11, less), (x10.heap.size, six), (x7.heap.size, two), (k5, 2), (k4, q), (x4.heap.size, ten), (x1.heap.size, m)] := by simp
    go_region_held3 (fun w' => w'.cell? ⟨x19.heap.size, 0, none⟩ = some (.int .u64 ((lo 1 : Nat) : Int)) ∧ w'.cell? ⟨x19.heap.size, 1, none⟩ = some (.string (hs 1)) ∧ w'.cell? ⟨x30.heap.size, 0, none⟩ = some (.int .u64 ((lo 12 : Nat) : Int)) ∧ w'.cell? ⟨x30.heap.size, 1, none⟩ = some (.string (hs 12)))
     ((apply (NL.keep (w0 := x31) (C := [(x19.heap.size, 1), (x30.heap.size, 12)]) hL0 hs0); (first | ((repeat (first | (with_reducible exact szAD _ _) | (with_reducible exact szA _ _) | (with_reducible exact szD _) | (with_reducible exact rfl) | assumption | (with_reducible apply NL.drew) | (with_reducible apply NL.new0) | (with_reducible apply NL.new) | (with_reducible apply NL.put0) | (with_reducible apply NL.put1))); done) | ((with_reducible apply NL.put1); (repeat (first | (with_reducible exact szAD _ _) | (with_reducible exact szA _ _) | (with_reducible exact szD _) | (with_reducible exact rfl) | assumption | (with_reducible apply NL.drew) | (with_reducible apply NL.new0) | (with_reducible apply NL.new) | (with_reducible apply NL.put0) | (with_reducible apply NL.put1))); done))))
     (first
      | (go_at_call 81; ((with_reducible refine Calls.mono (O17a.out _) ?_); rintro e we0 ⟨rfl, hbe0⟩; have hLe0 := NL.call (w0 := x31) (by (first | ((repeat (first | (with_reducible exact szAD _ _) | (with_reducible exact szA _ _) | (with_reducible exact szD _) | (with_reducible exact rfl) | assumption | (with_reducible apply NL.drew) | (with_reducible apply NL.new0) | (with_reducible apply NL.new) | (with_reducible apply NL.put0) | (with_reducible apply NL.put1))); done) | ((with_reducible apply NL.put1); (repeat (first | (with_reducible exact szAD _ _) | (with_reducible exact szA _ _) | (with_reducible exact szD _) | (with_reducible exact rfl) | assumption | (with_reducible apply NL.drew) | (with_reducible apply NL.new0) | (with_reducible apply NL.new) | (with_reducible apply NL.put0) | (with_reducible apply NL.put1))); done))) hbe0; have hAe0 := hLe0.fc; simp only [fc, ne, and_true, ne_eq, not_false_eq_true] at hAe0))
      | (go_at_call 81; ((with_reducible refine Calls.mono (O17b.out _) ?_); rintro e we1 ⟨rfl, hbe1⟩; have hLe1 := NL.call (w0 := x31) (by (first | ((repeat (first | (with_reducible exact szAD _ _) | (with_reducible exact szA _ _) | (with_reducible exact szD _) | (with_reducible exact rfl) | assumption | (with_reducible apply NL.drew) | (with_reducible apply NL.new0) | (with_reducible apply NL.new) | (with_reducible apply NL.put0) | (with_reducible apply NL.put1))); done) | ((with_reducible apply NL.put1); (repeat (first | (with_reducible exact szAD _ _) | (with_reducible exact szA _ _) | (with_reducible exact szD _) | (with_reducible exact rfl) | assumption | (with_reducible apply NL.drew) | (with_reducible apply NL.new0) | (with_reducible apply NL.new) | (with_reducible apply NL.put0) | (with_reducible apply NL.put1))); done))) hbe1; have hAe1 := hLe1.fc; simp only [fc, ne, and_true, ne_eq, not_false_eq_true] at hAe1)))
    all_goals (
     go_wp2_with fail
     exact bodyPost_ret (v := .bool true) (by simp [results, Tryz.results21, go_sem]) rfl ⟨rfl, (NL.join (L := []) hL0 (by (first | ((repeat (first | (with_reducible exact szAD _ _) | (with_reducible exact szA _ _) | (with_reducible exact szD _) | (with_reducible exact rfl) | assumption | (with_reducible apply NL.drew) | (with_reducible apply NL.new0) | (with_reducible apply NL.new) | (with_reducible apply NL.put0) | (with_reducible apply NL.put1))); done) | ((with_reducible apply NL.put1); (repeat (first | (with_reducible exact szAD _ _) | (with_reducible exact szA _ _) | (with_reducible exact szD _) | (with_reducible exact rfl) | assumption | (with_reducible apply NL.drew) | (with_reducible apply NL.new0) | (with_reducible apply NL.new) | (with_reducible apply NL.put0) | (with_reducible apply NL.put1))); done)))).bl⟩)
end Go.Proofs.YtdmoadfnogdfnaaGreatDoor
