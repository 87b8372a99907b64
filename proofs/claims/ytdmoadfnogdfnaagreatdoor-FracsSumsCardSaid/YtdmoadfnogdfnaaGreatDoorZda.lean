/-
  The law answers true at every input, and leaves its arguments as they were: a part of the proof. CONDITIONS: the package-level tables start as the program's text lays them (the card ties them).
-/
import Derived.Test.YtdmoadfnogdfnaaGreatDoorZac
import Derived.Test.YtdmoadfnogdfnaaGreatDoorRows
set_option linter.unusedVariables false
set_option linter.unusedSimpArgs false
namespace Go.Proofs
open Go.Shelf
def Tryz.lays125_ren : Go.Shelf.Ren := ⟨fun | 125 => 185 | 128 => 208 | 129 => 183 | n => n, fun | 46 => 116 | 3 => 3 | 51 => 22 | 53 => 30 | 4 => 4 | 5 => 5 | 9 => 9 | n => n, fun | n => n⟩
theorem Tryz.lays125 : Go.Proofs.Lays.n125 Tryz.prog Tryz.lays125_ren := {
 mixed := by kernel_rfl
 f125 := Tryz.func185.trans (congrArg some (by kernel_rfl))
 f128 := Tryz.func208.trans (congrArg some (by kernel_rfl))
 f129 := Tryz.func183.trans (congrArg some (by kernel_rfl))
 t3 := Tryz.underlying3
 a3 := Tryz.isAgg3
 z3 := Tryz.sizeOf3
 v3 := Tryz.zeroValue3
 t4 := Tryz.underlying4
 a4 := Tryz.isAgg4
 z4 := Tryz.sizeOf4
 v4 := Tryz.zeroValue4
 t5 := Tryz.underlying5
 a5 := Tryz.isAgg5
 z5 := Tryz.sizeOf5
 v5 := Tryz.zeroValue5
 t9 := Tryz.underlying9
 a9 := Tryz.isAgg9
 z9 := Tryz.sizeOf9
 v9 := Tryz.zeroValue9
 t46 := Tryz.underlying116
 a46 := Tryz.isAgg116
 z46 := Tryz.sizeOf116
 v46 := Tryz.zeroValue116
 t51 := Tryz.underlying22
 a51 := Tryz.isAgg22
 z51 := Tryz.sizeOf22
 v51 := Tryz.zeroValue22
 t53 := Tryz.underlying30
 a53 := Tryz.isAgg30
 z53 := Tryz.sizeOf30
 v53 := Tryz.zeroValue30 }
/-- bits.Len: "Len returns the minimum number of bits required to represent x; the result is 0 for x == 0.": IT RETURNS 'Lib.bitLen x'; the world is as it was. (A uint has 64 bits in the model.) ITS CALLEE bits.Len64 IS MET BY ITS OWN CONTRACT OFF THE SHELF (lay that first). (LAID: no walk: one application.) -/
theorem Tryz.bits_Len (x : Int) (w : World) (h0 : 0 ≤ x) (h1 : x ≤ 18446744073709551615) :
  Calls Tryz.prog 185 #[.int .u64 x] w fun e w' => e = .returned (.int .i64 (Lib.bitLen x.toNat)) ∧ w' = w := Any.bits_Len Tryz.lays125 x w h0 h1
def Tryz.lays129_ren : Go.Shelf.Ren := ⟨fun | 129 => 183 | n => n, fun | 53 => 30 | 3 => 3 | 4 => 4 | 46 => 116 | 5 => 5 | 9 => 9 | n => n, fun | n => n⟩
theorem Tryz.lays129 : Go.Proofs.Lays.n129 Tryz.prog Tryz.lays129_ren := {
 mixed := by kernel_rfl
 f129 := Tryz.func183.trans (congrArg some (by kernel_rfl))
 t3 := Tryz.underlying3
 a3 := Tryz.isAgg3
 z3 := Tryz.sizeOf3
 v3 := Tryz.zeroValue3
 t4 := Tryz.underlying4
 a4 := Tryz.isAgg4
 z4 := Tryz.sizeOf4
 v4 := Tryz.zeroValue4
 t5 := Tryz.underlying5
 a5 := Tryz.isAgg5
 z5 := Tryz.sizeOf5
 v5 := Tryz.zeroValue5
 t9 := Tryz.underlying9
 a9 := Tryz.isAgg9
 z9 := Tryz.sizeOf9
 v9 := Tryz.zeroValue9
 t46 := Tryz.underlying116
 a46 := Tryz.isAgg116
 z46 := Tryz.sizeOf116
 v46 := Tryz.zeroValue116
 t53 := Tryz.underlying30
 a53 := Tryz.isAgg30
 z53 := Tryz.sizeOf30
 v53 := Tryz.zeroValue30 }
/-- bits.Len64: "Len64 returns the minimum number of bits required to represent x; the result is 0 for x == 0.": IT RETURNS 'Lib.bitLen x'; the world is as it was. ('h0', 'h1': x is a uint64.) (LAID: no walk: one application.) -/
theorem Tryz.bits_Len64 (x : Int) (w : World) (h0 : 0 ≤ x) (h1 : x ≤ 18446744073709551615) :
  Calls Tryz.prog 183 #[.int .u64 x] w fun e w' => e = .returned (.int .i64 (Lib.bitLen x.toNat)) ∧ w' = w := Any.bits_Len64 Tryz.lays129 x w h0 h1
def Tryz.lays145_ren : Go.Shelf.Ren := ⟨fun | 145 => 151 | 220 => 196 | 219 => 218 | 217 => 228 | 225 => 229 | 224 => 230 | 267 => 231 | 266 => 234 | 314 => 235 | n => n, fun | 9 => 9 | 4 => 4 | 59 => 187 | 3 => 3 | 5 => 5 | 46 => 116 | 146 => 247 | 51 => 22 | n => n, fun | 1 => 3 | n => n⟩
theorem Tryz.lays145 : Go.Proofs.Lays.n145 Tryz.prog Tryz.lays145_ren := {
 mixed := by kernel_rfl
 f145 := Tryz.func151.trans (congrArg some (by kernel_rfl))
 f217 := Tryz.func228.trans (congrArg some (by kernel_rfl))
 f219 := Tryz.func218.trans (congrArg some (by kernel_rfl))
 f220 := Tryz.func196.trans (congrArg some (by kernel_rfl))
 f224 := Tryz.func230.trans (congrArg some (by kernel_rfl))
 f225 := Tryz.func229.trans (congrArg some (by kernel_rfl))
 f266 := Tryz.func234.trans (congrArg some (by kernel_rfl))
 f267 := Tryz.func231.trans (congrArg some (by kernel_rfl))
 f314 := Tryz.func235.trans (congrArg some (by kernel_rfl))
 t3 := Tryz.underlying3
 a3 := Tryz.isAgg3
 z3 := Tryz.sizeOf3
 v3 := Tryz.zeroValue3
 t4 := Tryz.underlying4
 a4 := Tryz.isAgg4
 z4 := Tryz.sizeOf4
 v4 := Tryz.zeroValue4
 t5 := Tryz.underlying5
 a5 := Tryz.isAgg5
 z5 := Tryz.sizeOf5
 v5 := Tryz.zeroValue5
 t9 := Tryz.underlying9
 a9 := Tryz.isAgg9
 z9 := Tryz.sizeOf9
 v9 := Tryz.zeroValue9
 t46 := Tryz.underlying116
 a46 := Tryz.isAgg116
 z46 := Tryz.sizeOf116
 v46 := Tryz.zeroValue116
 t51 := Tryz.underlying22
 a51 := Tryz.isAgg22
 z51 := Tryz.sizeOf22
 v51 := Tryz.zeroValue22
 t59 := Tryz.underlying187
 a59 := Tryz.isAgg187
 z59 := Tryz.sizeOf187
 v59 := Tryz.zeroValue187
 t146 := Tryz.underlying247
 a146 := Tryz.isAgg247
 z146 := Tryz.sizeOf247
 v146 := Tryz.zeroValue247
 g1 := by kernel_rfl }
open Go.RowKit Go.Lib in
/-- strings.Cut: "Cut slices s around the first instance of sep, returning the text before and after sep. The found result reports whether sep appears in s. If sep does not appear in s, cut returns s, "", false.": IT RETURNS 'Lib.cut s sep'; the world is as it was but for the count of draws. (LAID: no walk: one application.) -/
theorem Tryz.strings_Cut (s sep : ByteArray) (m : Int) (w : World) (hs : s.size < 4294967281) (hm : w.cell? ⟨3, 0, none⟩ = some (.int .i64 m)) :
  Calls Tryz.prog 151 #[.string s, .string sep] w fun e w' => e = .returned (.tuple #[.string ⟨(Lib.cut s.data.toList sep.data.toList).1.toArray⟩, .string ⟨(Lib.cut s.data.toList sep.data.toList).2.1.toArray⟩, .bool (Lib.cut s.data.toList sep.data.toList).2.2]) ∧ ∃ n, w' = w.drewN n := Any.strings_Cut Tryz.lays145 s sep m w hs hm
def Tryz.laysM145_ren : Go.Shelf.Ren := ⟨fun | 145 => 151 | 220 => 196 | 219 => 218 | 217 => 228 | 225 => 229 | 224 => 230 | 267 => 231 | 266 => 234 | 314 => 235 | n => n, fun | 9 => 9 | 4 => 4 | 59 => 187 | 3 => 3 | 5 => 5 | 46 => 116 | 146 => 247 | 51 => 22 | n => n, fun | 1 => 3 | n => n⟩
theorem Tryz.laysM145 : Go.Proofs.LaysM.n145 Tryz.prog Tryz.laysM145_ren := {
 mixed := by kernel_rfl
 f145 := Tryz.func151.trans (congrArg some (by kernel_rfl))
 f217 := Tryz.func228.trans (congrArg some (by kernel_rfl))
 f219 := Tryz.func218.trans (congrArg some (by kernel_rfl))
 f220 := Tryz.func196.trans (congrArg some (by kernel_rfl))
 f224 := Tryz.func230.trans (congrArg some (by kernel_rfl))
 f225 := Tryz.func229.trans (congrArg some (by kernel_rfl))
 f266 := Tryz.func234.trans (congrArg some (by kernel_rfl))
 f267 := Tryz.func231.trans (congrArg some (by kernel_rfl))
 f314 := Tryz.func235.trans (congrArg some (by kernel_rfl))
 t3 := Tryz.underlying3
 a3 := Tryz.isAgg3
 z3 := Tryz.sizeOf3
 v3 := Tryz.zeroValue3
 t4 := Tryz.underlying4
 a4 := Tryz.isAgg4
 z4 := Tryz.sizeOf4
 v4 := Tryz.zeroValue4
 t5 := Tryz.underlying5
 a5 := Tryz.isAgg5
 z5 := Tryz.sizeOf5
 v5 := Tryz.zeroValue5
 t9 := Tryz.underlying9
 a9 := Tryz.isAgg9
 z9 := Tryz.sizeOf9
 v9 := Tryz.zeroValue9
 t46 := Tryz.underlying116
 a46 := Tryz.isAgg116
 z46 := Tryz.sizeOf116
 v46 := Tryz.zeroValue116
 t51 := Tryz.underlying22
 a51 := Tryz.isAgg22
 z51 := Tryz.sizeOf22
 v51 := Tryz.zeroValue22
 t59 := Tryz.underlying187
 a59 := Tryz.isAgg187
 z59 := Tryz.sizeOf187
 v59 := Tryz.zeroValue187
 t146 := Tryz.underlying247
 a146 := Tryz.isAgg247
 z146 := Tryz.sizeOf247
 v146 := Tryz.zeroValue247
 g1 := by kernel_rfl
 i3 := by kernel_rfl
 i4 := by kernel_rfl
 i5 := by kernel_rfl
 i9 := by kernel_rfl
 i46 := by kernel_rfl
 i51 := by kernel_rfl
 i59 := by kernel_rfl
 i146 := by kernel_rfl
 m1 := by kernel_rfl
 s1_3 := fun w h => Go.Proofs.cell_of_shapedOpen_int (zero := #[.int .i64 0]) (t := 3) h (of_decide_eq_true (by kernel_rfl)) (by kernel_rfl) rfl (by kernel_rfl) (by kernel_rfl) Tryz.underlying3 }
end Go.Proofs
namespace Go.Proofs.YtdmoadfnogdfnaaGreatDoor
open Go.RowKit
attribute [local irreducible] lo hs sm s64 c64 d64 b64 mh ml pd pc qd qc val hiB str cmpI srD
theorem above_val (D : List Nat) (hD : Dig D) (at_ s : Nat) (hs : s < 64) (h : at_ < D.length) :
  val D / 2 ^ (64 * at_ + s) % Bs = srD s D[at_] (D.getD (at_ + 1) 0) := by
 have h1 : val D / Bs ^ at_ = val (D.drop at_) := by
  have h2 : val D = val (D.take at_) + Bs ^ at_ * val (D.drop at_) := by
   have := val_append (D.take at_) (D.drop at_)
   rw [List.take_append_drop, List.length_take, Nat.min_eq_left (Nat.le_of_lt h)] at this
   exact this
  have h3 : val (D.take at_) < Bs ^ at_ := by
   have := val_lt (hD.take at_)
   rwa [List.length_take, Nat.min_eq_left (Nat.le_of_lt h)] at this
  rw [h2, Nat.add_mul_div_left _ _ (Nat.pow_pos Bs_pos), Nat.div_eq_of_lt h3, Nat.zero_add]
 rw [Nat.pow_add, Nat.pow_mul, show (2 : Nat) ^ 64 = Bs from Bs_pow.symm, ← Nat.div_div_eq_div_mul, h1, List.drop_eq_getElem_cons h, val_cons, srD_sum (Nat.le_of_lt hs), Nat.add_mul_mod_self_left, next_digit D (at_ + 1) hD]
 exact Nat.mod_eq_of_lt (srD_lt (Nat.le_of_lt hs) (hD.get at_ h))
theorem above_past (D : List Nat) (hD : Dig D) (at_ s : Nat) (h : D.length ≤ at_) : val D / 2 ^ (64 * at_ + s) % Bs = 0 := by
 have h1 := val_lt hD
 have h2 : val D < 2 ^ (64 * at_ + s) := by
  refine Nat.lt_of_lt_of_le h1 ?_
  rw [Bs_pow, ← Nat.pow_mul]
  exact Nat.pow_le_pow_right (by omega) (by omega)
 rw [Nat.div_eq_of_lt h2]; exact Nat.zero_mod _
set_option maxHeartbeats 2000000 in
set_option maxRecDepth 100000 in
theorem above_any (g c at_ s n : Nat) (D : List Nat) (hD : Dig D) (hn : n = 64 * at_ + s) (hs : s < 64) (hatl : at_ ≤ 1099511627776) (hl : D.length ≤ 1099511627776) (w : World) (hr : Rd w g 0 D) :
  Calls Tryz.prog 221 #[.slice (some ⟨g, 0, none⟩) D.length c, .int .i64 (n : Int)] w fun e w' =>
   e = .returned (.int .u64 ((val D / 2 ^ n % Bs : Nat) : Int)) ∧ w = w' := by
 have hm64 : min s 64 = s := by omega
 have hdq : (n : Int) / 64 = (at_ : Int) := by omega
 have hdm : (n : Int).tmod 64 = (s : Int) := by rw [Int.tmod_eq_emod_of_nonneg (by omega)]; omega
 by_cases hat : at_ < D.length
 ·have hv := above_val D hD at_ s hs hat
  rw [← hn] at hv
  rw [hv]
  clear hn hv
  have hx := hD.get at_ hat
  have hcell := hr at_ hat
  rw [Nat.zero_add] at hcell
  have hd0 : decide (D.length ≤ at_) = false := by rw [decide_eq_false_iff_not]; omega
  have e2 : ((D[at_] : Nat) : Int) / 2 ^ s = ((D[at_] / 2 ^ s : Nat) : Int) := by rw [Int.natCast_ediv, Int.natCast_pow]; rfl
  by_cases hlast : at_ + 1 < D.length
  ·have hor := srD_or (n := s) (z := D.getD (at_ + 1) 0) (Nat.le_of_lt hs) hx
   have hcell2 := hr (at_ + 1) hlast
   rw [Nat.zero_add, show D[at_ + 1] = D.getD (at_ + 1) 0 by simp [hlast]] at hcell2
   rw [e2] at hor
   generalize D[at_] / 2 ^ s = xq at *
   generalize D.getD (at_ + 1) 0 = z at *
   generalize D[at_] = x at *
   clear hx hr hD
   go_enter Tryz.func221, Tryz.ntmps221
   go_upto_region 2 with fail
   clear hdq hdm
   go_wp2
   go_ret
   exact ⟨rfl, rfl⟩
  ·have hz : D.getD (at_ + 1) 0 = 0 := by simp [hlast]
   have hsr : srD s D[at_] 0 = D[at_] / 2 ^ s := by unfold srD; simp
   rw [hz, hsr]
   generalize D[at_] / 2 ^ s = xq at *
   generalize D[at_] = x at *
   clear hx hr hD hz hsr
   go_enter Tryz.func221, Tryz.ntmps221
   go_upto_region 2 with fail
   clear hdq hdm
   go_wp2
   go_ret
   exact ⟨rfl, rfl⟩
 ·have hv := above_past D hD at_ s (Nat.le_of_not_lt hat)
  rw [← hn] at hv
  rw [hv]
  have hd0 : decide (D.length ≤ at_) = true := by rw [decide_eq_true_eq]; omega
  clear hn hv hr hD
  go_enter Tryz.func221, Tryz.ntmps221
  go_wp2
  go_ret
  exact ⟨rfl, rfl⟩
theorem aboveW (g c N a m : Nat) (X : List Nat) (hm : (digs a).length = m) (hl : m ≤ 1000000000000) (hN : N ≤ 64 * 1000000000000) (hv : a / 2 ^ N < Bs) (w : World) (hdx : DB w g (digs a ++ X)) :
  Calls Tryz.prog 221 #[.slice (some ⟨g, 0, none⟩) m c, .int .i64 (N : Int)] w fun e w' =>
   e = .returned (.int .u64 ((a / 2 ^ N : Nat) : Int)) ∧ w = w' := by
 subst hm
 refine (above_any g c (N / 64) (N % 64) N (digs a) (digs_dig a) (by omega) (by omega) (by omega) (by omega) w hdx.rdl).mono ?_
 rintro e w' ⟨rfl, rfl⟩
 rw [val_digs, Nat.mod_eq_of_lt hv]
 exact ⟨rfl, rfl⟩
theorem window (a m t : Nat) (hm : (digs a).length = m) (h2 : 2 ≤ m) (ht : t = (digs a)[m - 1]'(by omega)) :
  t < Bs ∧ ∃ N, 64 * m = N + 62 + lz t ∧ a / 2 ^ N < 4611686018427387904 ∧ 0 < a / 2 ^ N := by
 obtain ⟨n, rfl⟩ : ∃ n, m = n + 1 := ⟨m - 1, by omega⟩
 obtain ⟨h1, h3, h4, -, -⟩ := norm_div a n hm t ht
 have htB : t < Bs := by rw [ht]; exact (digs_dig a).get _ (by omega)
 refine ⟨htB, 64 * (n + 1) - 62 - lz t, by omega, ?_, ?_⟩
 ·rw [Nat.div_lt_iff_lt_mul (Nat.pow_pos (by omega))]
  have h5 : 4611686018427387904 * 2 ^ (64 * (n + 1) - 62 - lz t) * 2 ^ lz t = Bs ^ (n + 1) := by
   rw [show (4611686018427387904 : Nat) = 2 ^ 62 from rfl, ← Nat.pow_add, ← Nat.pow_add, Bs_pow, ← Nat.pow_mul]
   congr 1; omega
  exact Nat.lt_of_mul_lt_mul_right (a := 2 ^ lz t) (by rw [h5]; exact h3)
 ·rw [Nat.div_pos_iff]
  refine ⟨Nat.pow_pos (by omega), ?_⟩
  have h5 : 2 ^ (64 * (n + 1) - 62 - lz t) * 2 ^ 62 * 2 ^ lz t = Bs ^ (n + 1) := by
   rw [← Nat.pow_add, ← Nat.pow_add, Bs_pow, ← Nat.pow_mul]
   congr 1; omega
  have h6 : 2 ^ (64 * (n + 1) - 62 - lz t) * 2 ^ lz t * 4 ≤ a * 2 ^ lz t * 2 := by
   have h7 : 2 ^ (64 * (n + 1) - 62 - lz t) * 2 ^ lz t * 4 ≤ Bs ^ (n + 1) := by
    rw [← h5, Nat.mul_right_comm _ (2 ^ 62)]
    exact Nat.mul_le_mul_left (2 ^ (64 * (n + 1) - 62 - lz t) * 2 ^ lz t) (show 4 ≤ 2 ^ 62 by decide)
   omega
  exact Nat.le_of_mul_le_mul_right (c := 2 ^ lz t) (by omega) (Nat.pow_pos (by omega))
theorem put4 {w : World} {k : Nat} {x y z u : Value} (hA : Bx w k x y) (hB : Bx w (k + 1) z u) (x' y' z' u' : Value) :
  Bx ((((w.setCell ⟨k, 0, none⟩ x').setCell ⟨k, 1, none⟩ y').setCell ⟨k + 1, 0, none⟩ z').setCell ⟨k + 1, 1, none⟩ u') k x' y' ∧
  Bx ((((w.setCell ⟨k, 0, none⟩ x').setCell ⟨k, 1, none⟩ y').setCell ⟨k + 1, 0, none⟩ z').setCell ⟨k + 1, 1, none⟩ u') (k + 1) z' u' := by
 obtain ⟨a0, a1, af⟩ := hA
 obtain ⟨b0, b1, bf⟩ := hB
 constructor <;> refine ⟨?_, ?_, fun j => ?_⟩ <;> simp [go_sem, a0, a1, af, b0, b1, bf]
attribute [local irreducible] lz
set_option maxHeartbeats 2000000 in
set_option maxRecDepth 100000 in
theorem certain_any (gx gy cx cy a b m n : Nat) (X Y : List Nat) (hn : (digs b).length = n) (hn2 : 2 ≤ n) (hm : (digs a).length = m) (hab : b ≤ a) (hal : m ≤ 1000000000000) (w : World) (hdx : DB w gx (digs a ++ X)) (hdy : DB w gy (digs b ++ Y)) :
  Calls Tryz.prog 206 #[.slice (some ⟨gx, 0, none⟩) m cx, .slice (some ⟨gy, 0, none⟩) n cy] w fun e w' =>
   ∃ A B C D p q p0 q0 : Int, e = .returned (.tuple #[.agg #[.int .i64 A, .int .i64 B], .agg #[.int .i64 C, .int .i64 D]]) ∧ CS a b p0 q0 A B C D p q ∧ p0 ≤ 4611686018427387904 ∧ Below w.heap.size w w' := by
 obtain ⟨w0, hw0, hA, hB, hbw, hsz⟩ := boxes2 w (.int .i64 0) (.int .i64 0) (.int .i64 0) (.int .i64 0) 235
 have hnm : n ≤ m := by rw [← hn, ← hm]; exact digs_mono hab
 obtain ⟨t, ht⟩ : ∃ t, t = (digs a)[m - 1]'(by omega) := ⟨_, rfl⟩
 obtain ⟨htB, N, hN, hP, hP0⟩ := window a m t hm (by omega) ht
 have hlz : lz t ≤ 63 := (norm_div a (m - 1) (by omega) t ht).1
 have hdx0 := hdx.below hbw hdx.lt
 have hdy0 := hdy.below hbw hdy.lt
 have hcell := hdx0.cell (m - 1) (by simp; omega)
 rw [List.getElem_append_left (by omega), ← ht] at hcell
 have hQ : b / 2 ^ N ≤ a / 2 ^ N := Nat.div_le_div_right hab
 have H1 := fun w h => aboveW gx cx N a m X hm hal (by omega) (by unfold Bs; omega) w h
 have H2 := fun w h => aboveW gy cy N b n Y hn (by omega) (by omega) (by unfold Bs; omega) w h
 replace H1 := Lib.hid H1
 replace H2 := Lib.hid H2
 have hxT : (a : Int) = ((a / 2 ^ N : Nat) : Int) * ((2 ^ N : Nat) : Int) + ((a % 2 ^ N : Nat) : Int) := by
  have := Nat.div_add_mod a (2 ^ N)
  rw [← Int.natCast_mul, ← Int.natCast_add, Nat.mul_comm, this]
 have hyT : (b : Int) = ((b / 2 ^ N : Nat) : Int) * ((2 ^ N : Nat) : Int) + ((b % 2 ^ N : Nat) : Int) := by
  have := Nat.div_add_mod b (2 ^ N)
  rw [← Int.natCast_mul, ← Int.natCast_add, Nat.mul_comm, this]
 have hxl : a % 2 ^ N < 2 ^ N := Nat.mod_lt _ (Nat.pow_pos (by omega))
 have hyl : b % 2 ^ N < 2 ^ N := Nat.mod_lt _ (Nat.pow_pos (by omega))
 generalize a / 2 ^ N = P at *
 generalize b / 2 ^ N = Q at *
 generalize a % 2 ^ N = xl at *
 generalize b % 2 ^ N = yl at *
 generalize 2 ^ N = T at *
 have hS := CS.start (p0 := ((P : Nat) : Int)) (q0 := ((Q : Nat) : Int)) hab (by omega) (by omega) (by omega)
 have hwP : IntKind.i64.wrap ((P : Nat) : Int) = ((P : Nat) : Int) := IntWalk.i64_in _ (by omega)
 have hwQ : IntKind.i64.wrap ((Q : Nat) : Int) = ((Q : Nat) : Int) := IntWalk.i64_in _ (by omega)
 have HS := Lib.hid hS
 have HX := Lib.hid hxT
 have HY := Lib.hid hyT
 have HD := Lib.hid (And.intro hdx0 hdy0)
 have HDrop : (m : Int) * 64 - (lz t : Int) - 62 = (N : Int) := by omega
 have HL := Lib.hid (lz_any t htB)
 clear hS hxT hyT hdx0 hdy0 hdx hdy htB ht hN
 go_enter Tryz.func206, Tryz.ntmps206
 go_wp2_with fail
 refine (HL.out _).mono ?_
 rintro e w1 ⟨rfl, rfl⟩
 go_wp2_with fail
 refine (H1.out _ HD.out.1).mono ?_
 rintro e w1 ⟨rfl, rfl⟩
 go_wp2_with fail
 refine (H2.out _ HD.out.2).mono ?_
 rintro e w1 ⟨rfl, rfl⟩
 obtain ⟨a0, a1, af⟩ := id hA
 obtain ⟨b0, b1, bf⟩ := id hB
 clear HL H1 H2 HDrop hcell hlz
 go_wp2_with fail
 go_loopw [7, 8, 9] (fun z7 z8 _ wr => ∃ A B C D p q : Int, z7 = .int .i64 p ∧ z8 = .int .i64 q ∧ CS a b P Q A B C D p q ∧
  Bx wr w.heap.size (.int .i64 A) (.int .i64 B) ∧ Bx wr (w.heap.size + 1) (.int .i64 C) (.int .i64 D) ∧ Below w.heap.size w wr ∧ w.heap.size + 2 ≤ wr.heap.size) (fun _ z8 _ _ => (intOf z8).toNat)
 case atStart =>
  have hp := put4 hA hB (.int .i64 1) (.int .i64 0) (.int .i64 0) (.int .i64 1)
  exact ⟨1, 0, 0, 1, P, Q, rfl, rfl, HS.out, hp.1, hp.2, (((hbw.setCell (by simp <;> omega) _).setCell (by simp <;> omega) _).setCell (by simp <;> omega) _).setCell (by simp <;> omega) _, by simp; omega⟩
 case round =>
  obtain ⟨A, B, C, D, p, q, rfl, rfl, hCS, hA, hB, hbw, hsz⟩ := hrel
  clear a0 a1 af b0 b1 bf HS
  have hbd := hCS.bounds
  have hCS := Lib.hid hCS
  obtain ⟨u, hu⟩ : ∃ u, u = q + C := ⟨_, rfl⟩
  obtain ⟨v, hv⟩ : ∃ v, v = q + D := ⟨_, rfl⟩
  obtain ⟨f, hf⟩ : ∃ f, f = p + A := ⟨_, rfl⟩
  obtain ⟨g, hg⟩ : ∃ g, g = p + B := ⟨_, rfl⟩
  have wu : IntKind.i64.wrap (q + C) = u := by rw [hu]; exact IntWalk.i64_in _ (by omega)
  have wv : IntKind.i64.wrap (q + D) = v := by rw [hv]; exact IntWalk.i64_in _ (by omega)
  have wf : IntKind.i64.wrap (p + A) = f := by rw [hf]; exact IntWalk.i64_in _ (by omega)
  have wg : IntKind.i64.wrap (p + B) = g := by rw [hg]; exact IntWalk.i64_in _ (by omega)
  have hu0 : 0 ≤ u := by omega
  have hv0 : 0 ≤ v := by omega
  have HBD := Lib.hid hbd
  have Hu := Lib.hid hu
  have Hv := Lib.hid hv
  have Hf := Lib.hid hf
  have Hg := Lib.hid hg
  obtain ⟨a0, a1, af⟩ := id hA
  obtain ⟨b0, b1, bf⟩ := id hB
  clear hbd hu hv hf hg
  by_cases hu1 : u = 0
  ·have hwu0 : decide (u = 0) = true := decide_eq_true hu1
   go_wp2_with fail
   go_region
   go_wp2_with fail
   have hp := put4 hA hB (.int .i64 A) (.int .i64 B) (.int .i64 C) (.int .i64 D)
   obtain ⟨⟨p0, p1, -⟩, ⟨p2, p3, -⟩⟩ := hp
   exact bodyPost_ret (v := .tuple #[.agg #[.int .i64 A, .int .i64 B], .agg #[.int .i64 C, .int .i64 D]]) (by simp [results, Tryz.results206, go_sem, a0, a1, b0, b1, af, bf]) rfl
    ⟨A, B, C, D, p, q, P, Q, rfl, hCS.out, by omega, ((((hbw.setCell (by simp <;> omega) _).setCell (by simp <;> omega) _).setCell (by simp <;> omega) _).setCell (by simp <;> omega) _).drew⟩
  ·have hwu0 : (u != 0) = true := bne_iff_ne.2 hu1
   by_cases hv1 : v = 0
   ·have hwv0 : decide (v = 0) = true := decide_eq_true hv1
    go_wp2_with fail
    go_region
    go_wp2_with fail
    have hp := put4 hA hB (.int .i64 A) (.int .i64 B) (.int .i64 C) (.int .i64 D)
    obtain ⟨⟨p0, p1, -⟩, ⟨p2, p3, -⟩⟩ := hp
    exact bodyPost_ret (v := .tuple #[.agg #[.int .i64 A, .int .i64 B], .agg #[.int .i64 C, .int .i64 D]]) (by simp [results, Tryz.results206, go_sem, a0, a1, b0, b1, af, bf]) rfl
     ⟨A, B, C, D, p, q, P, Q, rfl, hCS.out, by omega, ((((hbw.setCell (by simp <;> omega) _).setCell (by simp <;> omega) _).setCell (by simp <;> omega) _).setCell (by simp <;> omega) _).drew⟩
   ·have hwv0 : (v != 0) = true := bne_iff_ne.2 hv1
    have hf0 : 0 ≤ f := by have := HBD.out; have := Hf.out; omega
    have hg0 : 0 ≤ g := by have := HBD.out; have := Hg.out; omega
    obtain ⟨k, hk⟩ : ∃ k, k = f / u := ⟨_, rfl⟩
    obtain ⟨l, hl⟩ : ∃ l, l = g / v := ⟨_, rfl⟩
    have hkb : 0 ≤ k ∧ k ≤ f := ⟨by rw [hk]; exact Int.ediv_nonneg hf0 hu0, by rw [hk]; exact Int.ediv_le_self _ hf0⟩
    have hlb : 0 ≤ l ∧ l ≤ g := ⟨by rw [hl]; exact Int.ediv_nonneg hg0 hv0, by rw [hl]; exact Int.ediv_le_self _ hg0⟩
    have hff : f ≤ 9223372036854775807 ∧ g ≤ 9223372036854775807 := by have := HBD.out; have := Hf.out; have := Hg.out; omega
    have tk : f.tdiv u = k := by rw [hk]; exact Int.tdiv_eq_ediv_of_nonneg hf0
    have tl : g.tdiv v = l := by rw [hl]; exact Int.tdiv_eq_ediv_of_nonneg hg0
    have wk : IntKind.i64.wrap k = k := IntWalk.i64_in _ (by omega)
    have wl : IntKind.i64.wrap l = l := IntWalk.i64_in _ (by omega)
    have Hk := Lib.hid hk
    have Hl := Lib.hid hl
    clear hk hl hff hkb hlb
    by_cases hkl : k = l
    ·subst hkl
     have hstep := hCS.out.step (T := T) (xl := xl) (yl := yl) (k := k) (by have := Hu.out; omega) (by have := Hv.out; omega) (by rw [← Hf.out, ← Hu.out]; exact Hk.out) (by rw [← Hg.out, ← Hv.out]; exact Hl.out) HX.out HY.out hxl hyl
     obtain ⟨hn, n1, n2, n3, n4, n5⟩ := hstep
     have nb := hn.bounds
     have ob := HBD.out
     obtain ⟨kq, hkq⟩ : ∃ z, z = k * q := ⟨_, rfl⟩
     obtain ⟨kc, hkc⟩ : ∃ z, z = k * C := ⟨_, rfl⟩
     obtain ⟨kd, hkd⟩ : ∃ z, z = k * D := ⟨_, rfl⟩
     rw [← hkq, ← hkc, ← hkd] at nb
     rw [← hkq] at n2 n3 n4 n5
     rw [← hkq, ← hkc, ← hkd] at hn
     obtain ⟨q', hq'⟩ : ∃ z, z = p - kq := ⟨_, rfl⟩
     obtain ⟨C', hC'⟩ : ∃ z, z = A - kc := ⟨_, rfl⟩
     obtain ⟨D', hD'⟩ : ∃ z, z = B - kd := ⟨_, rfl⟩
     rw [← hq', ← hC', ← hD'] at nb hn
     rw [← hq'] at n3 n4
     have w1 : IntKind.i64.wrap (k * q) = kq := by rw [← hkq]; exact IntWalk.i64_in _ (by omega)
     have w2 : IntKind.i64.wrap (k * C) = kc := by rw [← hkc]; exact IntWalk.i64_in _ (by omega)
     have w3 : IntKind.i64.wrap (k * D) = kd := by rw [← hkd]; exact IntWalk.i64_in _ (by omega)
     have w4 : IntKind.i64.wrap (p - kq) = q' := by rw [← hq']; exact IntWalk.i64_in _ (by omega)
     have w5 : IntKind.i64.wrap (A - kc) = C' := by rw [← hC']; exact IntWalk.i64_in _ (by omega)
     have w6 : IntKind.i64.wrap (B - kd) = D' := by rw [← hD']; exact IntWalk.i64_in _ (by omega)
     have HN := Lib.hid hn
     have HM := Lib.hid (And.intro n3 n4)
     clear nb ob n1 n2 n3 n4 n5 hkq hkc hkd hq' hC' hD' hn hCS Hk Hl Hu Hv Hf Hg HBD
     go_wp2_with fail
     go_region
     go_wp2_with fail
     have hp := put4 hA hB (.int .i64 C) (.int .i64 D) (.int .i64 C') (.int .i64 D')
     refine ⟨⟨C, D, C', D', q, q', rfl, rfl, HN.out, hp.1, hp.2, ((((hbw.setCell (by simp <;> omega) _).setCell (by simp <;> omega) _).setCell (by simp <;> omega) _).setCell (by simp <;> omega) _).drew, by simp; omega⟩, ?_⟩
     have := HM.out
     simp [intOf]; omega
    ·have hkl0 : (k != l) = true := bne_iff_ne.2 hkl
     go_wp2_with fail
     go_region
     go_wp2_with fail
     have hp := put4 hA hB (.int .i64 A) (.int .i64 B) (.int .i64 C) (.int .i64 D)
     obtain ⟨⟨p0, p1, -⟩, ⟨p2, p3, -⟩⟩ := hp
     exact bodyPost_ret (v := .tuple #[.agg #[.int .i64 A, .int .i64 B], .agg #[.int .i64 C, .int .i64 D]]) (by simp [results, Tryz.results206, go_sem, a0, a1, b0, b1, af, bf]) rfl
      ⟨A, B, C, D, p, q, P, Q, rfl, hCS.out, by omega, ((((hbw.setCell (by simp <;> omega) _).setCell (by simp <;> omega) _).setCell (by simp <;> omega) _).setCell (by simp <;> omega) _).drew⟩
end Go.Proofs.YtdmoadfnogdfnaaGreatDoor
namespace Go.Proofs.YtdmoadfnogdfnaaGreatDoor
open Go.RowKit
attribute [local irreducible] lo hs sm s64 c64 d64 b64 mh ml pd pc qd qc val hiB str cmpI srD lz
theorem addP0 (g gy c cy f K n : Nat) (D Y : List Nat) (hK : D.length = K) (hn : Y.length = n) (hD : Dig D) (hY : Dig Y) (hf : f < Bs) (hle : n ≤ K) (hl : K ≤ 1099511627776) (hne : gy ≠ g) (w : World) (hdb : DB w g D) (hgy : gy < w.heap.size) (hr : Rd w gy 0 Y) :
  Calls Tryz.prog 174 #[.slice (some ⟨g, 0, none⟩) K c, .slice (some ⟨gy, 0, none⟩) n cy, .int .u64 (f : Int)] w fun e w' =>
   ∃ (carry : Nat) (P : List Nat), e = .returned (.int .u64 (carry : Int)) ∧ MulI D Y f n carry P ∧ DB w' g (P ++ D.drop n) ∧ w.grownBy w' (some g) := by
 subst hK; subst hn
 refine (addProduct_any g gy 0 c cy f [] D [] Y hD hY hf hle hl hne w (by simpa using hdb) hgy hr).mono ?_
 rintro e w' ⟨carry, P, h1, h2, h3, h4⟩
 exact ⟨carry, P, h1, h2, by simpa using h3, h4⟩
theorem takeP0 (g gy c cy f K n : Nat) (D Y : List Nat) (hK : D.length = K) (hn : Y.length = n) (hD : Dig D) (hY : Dig Y) (hf : f < Bs) (hle : n < K) (hl : K ≤ 1099511627776) (hne : gy ≠ g) (w : World) (hdb : DB w g D) (hgy : gy < w.heap.size) (hr : Rd w gy 0 Y) :
  Calls Tryz.prog 220 #[.slice (some ⟨g, 0, none⟩) K c, .slice (some ⟨gy, 0, none⟩) n cy, .int .u64 (f : Int)] w fun e w' =>
   ∃ (b : Bool) (D' : List Nat), e = .returned (.bool b) ∧ (D'.length = K ∧ Dig D' ∧ val D' + f * val Y = val D + if b then Bs ^ K else 0) ∧ DB w' g D' ∧ w.grownBy w' (some g) := by
 subst hK; subst hn
 refine (takeProduct_any g gy 0 c cy f [] D [] Y hD hY hf hle hl hne w (by simpa using hdb) hgy hr).mono ?_
 rintro e w' ⟨b, D', h1, h2, h3, h4⟩
 exact ⟨b, D', h1, h2, by simpa using h3, h4⟩
theorem trim0 (g c K : Nat) (l : List Nat) (hK : l.length = K) (hd : Dig l) (hl : K ≤ maxLen) (hcap : K ≤ c) (w : World) (hdb : DB w g l) :
  Calls Tryz.prog 130 #[.slice (some ⟨g, 0, none⟩) K c] w fun e w' =>
   e = .returned (.slice (some ⟨g, 0, none⟩) (digs (val l)).length c) ∧ w = w' := by
 subst hK
 exact trim_any g 0 c l hd hl hcap w hdb.rd0
/-- The first product, with its carry put at its place. -/
theorem dif_first {K n x a carry : Nat} {P : List Nat} (hn : (digs x).length = n) (hnK : n < K) (h : MulI (List.replicate K 0) (digs x) a n carry P) :
  ((P ++ List.drop n (List.replicate K 0)).set n carry).length = K ∧ Dig ((P ++ List.drop n (List.replicate K 0)).set n carry) ∧ val ((P ++ List.drop n (List.replicate K 0)).set n carry) = a * x := by
 have e : (P ++ List.drop n (List.replicate K 0)).set n carry = P ++ carry :: List.replicate (K - n - 1) 0 := by
  rw [List.set_append_right _ _ (by rw [h.len]; exact Nat.le_refl _), h.len, Nat.sub_self, List.drop_replicate]
  obtain ⟨j, hj⟩ : ∃ j, K - n = j + 1 := ⟨K - n - 1, by omega⟩
  rw [hj, List.replicate_succ, List.set_cons_zero]; rfl
 have he := h.eq
 rw [List.take_replicate, Nat.min_eq_left (Nat.le_of_lt hnK), val_zeros, ← hn, List.take_length, val_digs, Nat.zero_add, hn] at he
 rw [e]
 refine ⟨by simp [h.len]; omega, h.dig.app (Dig.cons h.le (Dig.zeros _)), ?_⟩
 rw [val_append, val_cons, val_zeros, h.len, Nat.mul_zero, Nat.add_zero]; exact he
theorem dif_last {K b y d v : Nat} {D' : List Nat} {c : Bool} (hK : D'.length = K) (hD : Dig D') (h : val D' + b * y = b * y + d + if c then v else 0) (hv : v = Bs ^ K) : val D' = d := by
 have h1 := val_lt hD
 rw [hK, ← hv] at h1
 cases c <;> simp at h <;> omega
set_option maxHeartbeats 2000000 in
set_option maxRecDepth 100000 in
theorem difference_any (gx gy cx cy a b x y d n m : Nat) (X Y : List Nat) (ha : a < Bs) (hb : b < Bs) (hn : (digs x).length = n) (hm : (digs y).length = m) (hnl : n ≤ 1000000000000) (hml : m ≤ 1000000000000)
  (hd : a * x = b * y + d) (w : World) (hdx : DB w gx (digs x ++ X)) (hdy : DB w gy (digs y ++ Y)) :
  Calls Tryz.prog 222 #[.slice (some ⟨gx, 0, none⟩) n cx, .slice (some ⟨gy, 0, none⟩) m cy, .int .u64 (a : Int), .int .u64 (b : Int)] w fun e w' =>
   ∃ g c z, e = .returned (.slice (some ⟨g, 0, none⟩) (digs d).length c) ∧ DB w' g (digs d ++ List.replicate z 0) ∧ (digs d).length ≤ c ∧ w.heap.size ≤ g ∧ Below w.heap.size w w' := by
 obtain ⟨K, hK⟩ : ∃ K, K = max n m + 1 := ⟨_, rfl⟩
 have hmk : (Instr.makeSlice 156 (.int .i64 (K : Int)) (.int .i64 (K : Int))).run Tryz.prog w = .ok (.slice (some ⟨w.heap.size, 0, none⟩) K K) (w.alloc (zobj K)) := make64 w _ K (by omega) (by omega)
 have hmax : max (n : Int) (m : Int) + 1 = (K : Int) := by omega
 have hz := DB.zeros w K
 have hbz : Below w.heap.size w (w.alloc (zobj K)) := (Below.refl _ _).alloc (Nat.le_refl _) _
 have hsz : w.heap.size < (w.alloc (zobj K)).heap.size := by simp
 have hdx0 := hdx.alloc (zobj K)
 have hdy0 := hdy.alloc (zobj K)
 have hgx : gx < w.heap.size := hdx.lt
 have hgy : gy < w.heap.size := hdy.lt
 have HA := Lib.hid (addP0 w.heap.size gx K cx a K n (List.replicate K 0) (digs x) (by simp) hn (Dig.zeros K) (digs_dig x) ha (by omega) (by omega) (by omega) (w.alloc (zobj K)) hz (by omega) hdx0.rdl)
 clear hdx hdx0 hz
 generalize hW : w.alloc (zobj K) = W1 at *
 have HB := fun D hD => takeP0 w.heap.size gy K cy b K m D (digs y) hD hm
 have HT := fun D hD => trim0 w.heap.size K K D hD
 replace HB := Lib.hid HB
 replace HT := Lib.hid HT
 replace hK := Lib.hid hK
 replace hd := Lib.hid hd
 replace hn := Lib.hid hn
 replace hm := Lib.hid hm
 go_enter Tryz.func222, Tryz.ntmps222
 go_wp2_with fail
 refine (HA.out).mono ?_
 rintro e w2 ⟨carry, P, rfl, hP, hdP, hg2⟩
 have hcb := hP.le
 have hPl := hP.len
 have hKn := hK.out
 have hset := hdP.set n (by simp [hPl]; omega) carry
 have hcell := hdP.cell n (by simp [hPl]; omega)
 have hfz := hdP.frozen n
 generalize hU : w2.setCell ⟨w.heap.size, n, none⟩ (.int .u64 (carry : Int)) = W3 at *
 have hnK : n < K := by omega
 clear hKn
 obtain ⟨q1, q2, q3⟩ := dif_first hn.out hnK hP
 generalize (P ++ List.drop n (List.replicate K 0)).set n carry = D3 at *
 have hg3 : W1.grownBy W3 (some w.heap.size) := by rw [← hU]; exact grown_trans hg2 (grown_set _ _ _ _)
 have hB3 := hbz.trans (grown_below hg3 (Nat.le_refl _) (Nat.le_of_lt hsz))
 have hdy3 := hdy.below hB3 hgy
 have HB3 := Lib.hid (HB.out D3 q1 q2 (digs_dig y) hb (by have := hK.out; omega) (by omega) (by omega) W3 hset hdy3.lt hdy3.rdl)
 have hB3 := Lib.hid hB3
 have hs3 : w.heap.size < W3.heap.size := hset.lt
 go_wp2_with fail
 refine (HB3.out).mono ?_
 rintro e w4 ⟨c, D4, rfl, ⟨h1, h2, h3⟩, hd4, hg4⟩
 rw [q3, hd.out, val_digs] at h3
 have hv := dif_last h1 h2 h3 rfl
 have HT4 := Lib.hid (HT.out D4 h1 h2 (by unfold maxLen; omega) (Nat.le_refl _) w4 hd4)
 rw [hv] at HT4
 clear hW hU HB HT HB3 hg2 hg3 h3 hcell hfz hP hdP
 go_wp2_with fail
 refine (HT4.out).mono ?_
 rintro e w5 ⟨rfl, rfl⟩
 go_wp2_with fail
 go_ret
 obtain ⟨z, hz⟩ := norm D4 h2
 rw [hv] at hz
 refine ⟨_, _, z, rfl, by rw [← hz]; exact hd4, ?_, Nat.le_refl _, hB3.out.trans (grown_below hg4 (Nat.le_refl _) (Nat.le_of_lt hs3))⟩
 have := congrArg List.length hz
 simp at this; omega
set_option maxHeartbeats 2000000 in
set_option maxRecDepth 100000 in
theorem combine_any (gx gy cx cy x y d n m : Nat) (A B : Int) (X Y : List Nat) (hn : (digs x).length = n) (hm : (digs y).length = m) (hnl : n ≤ 1000000000000) (hml : m ≤ 1000000000000)
  (hA1 : -4611686018427387904 ≤ A) (hA2 : A ≤ 4611686018427387904) (hB1 : -4611686018427387904 ≤ B) (hB2 : B ≤ 4611686018427387904) (hs1 : A ≤ 0 → 0 ≤ B) (hs2 : 0 < A → B ≤ 0)
  (hd : (d : Int) = A * x + B * y) (w : World) (hdx : DB w gx (digs x ++ X)) (hdy : DB w gy (digs y ++ Y)) :
  Calls Tryz.prog 207 #[.slice (some ⟨gx, 0, none⟩) n cx, .slice (some ⟨gy, 0, none⟩) m cy, .agg #[.int .i64 A, .int .i64 B]] w fun e w' =>
   ∃ g c z, e = .returned (.slice (some ⟨g, 0, none⟩) (digs d).length c) ∧ DB w' g (digs d ++ List.replicate z 0) ∧ (digs d).length ≤ c ∧ w.heap.size ≤ g ∧ Below w.heap.size w w' := by
 obtain ⟨w0, hw0, hbx, hbw, hsz⟩ := boxes1 w (.int .i64 A) (.int .i64 B) 235
 obtain ⟨a0, a1, af⟩ := hbx
 have hdx0 := hdx.below hbw hdx.lt
 have hdy0 := hdy.below hbw hdy.lt
 by_cases hA : A ≤ 0
 ·have hB := hs1 hA
  obtain ⟨a, ha⟩ := Int.eq_ofNat_of_zero_le (show 0 ≤ -A by omega)
  obtain ⟨b, hb⟩ := Int.eq_ofNat_of_zero_le hB
  have hsum : b * y = a * x + d := by
   have h1 : A * (x : Int) = -((a * x : Nat) : Int) := by rw [Int.natCast_mul, ← ha, Int.neg_mul, Int.neg_neg]
   have h2 : B * (y : Int) = ((b * y : Nat) : Int) := by rw [Int.natCast_mul, ← hb]
   rw [h1, h2] at hd; omega
  have HD := Lib.hid (difference_any gy gx cy cx b a y x d m n Y X (by unfold Bs; omega) (by unfold Bs; omega) hm hn hml hnl hsum w0 hdy0 hdx0)
  have hA0 : decide (A ≤ 0) = true := decide_eq_true hA
  have r1 : IntKind.i64.wrap (-A) = -A := IntWalk.i64_in _ (by omega)
  have r2 : IntKind.u64.wrap (-A) = (a : Int) := by rw [ha]; exact wrapN _ (by omega)
  have r3 : IntKind.u64.wrap B = (b : Int) := by rw [hb]; exact wrapN _ (by omega)
  clear hdx hdy hdx0 hdy0 hsum hd ha hb hA hB hA1 hA2 hB1 hB2 hs1 hs2
  go_enter Tryz.func207, Tryz.ntmps207
  go_wp2_with fail
  refine (HD.out).mono ?_
  rintro e w1 ⟨g, c, z, rfl, h1, h2, h3, h4⟩
  go_wp2_with fail
  go_ret
  exact ⟨g, c, z, rfl, h1, h2, by omega, hbw.trans (h4.mono (by omega))⟩
 ·have hB := hs2 (by omega)
  obtain ⟨a, ha⟩ := Int.eq_ofNat_of_zero_le (show 0 ≤ A by omega)
  obtain ⟨b, hb⟩ := Int.eq_ofNat_of_zero_le (show 0 ≤ -B by omega)
  have hsum : a * x = b * y + d := by
   have h1 : A * (x : Int) = ((a * x : Nat) : Int) := by rw [Int.natCast_mul, ← ha]
   have h2 : B * (y : Int) = -((b * y : Nat) : Int) := by rw [Int.natCast_mul, ← hb, Int.neg_mul, Int.neg_neg]
   rw [h1, h2] at hd; omega
  have HD := Lib.hid (difference_any gx gy cx cy a b x y d n m X Y (by unfold Bs; omega) (by unfold Bs; omega) hn hm hnl hml hsum w0 hdx0 hdy0)
  have hA0 : decide (A ≤ 0) = false := decide_eq_false hA
  have r1 : IntKind.i64.wrap (-B) = -B := IntWalk.i64_in _ (by omega)
  have r2 : IntKind.u64.wrap (-B) = (b : Int) := by rw [hb]; exact wrapN _ (by omega)
  have r3 : IntKind.u64.wrap A = (a : Int) := by rw [ha]; exact wrapN _ (by omega)
  clear hdx hdy hdx0 hdy0 hsum hd ha hb hB hA1 hA2 hB1 hB2 hs1 hs2
  go_enter Tryz.func207, Tryz.ntmps207
  go_wp2_with fail
  refine (HD.out).mono ?_
  rintro e w1 ⟨g, c, z, rfl, h1, h2, h3, h4⟩
  go_wp2_with fail
  go_ret
  exact ⟨g, c, z, rfl, h1, h2, by omega, hbw.trans (h4.mono (by omega))⟩
theorem digs_big {b : Nat} (h : 2 ≤ (digs b).length) : ¬ b < Bs := fun hb => by
 have := digs_length_iff (n := b) (k := 1)
 rw [Nat.pow_one] at this
 have := this.2 hb; omega
theorem sgn1 {A B : Int} {X x y : Nat} (hy : 0 < y) (hX : (X : Int) = A * x + B * y) {s : Int} (hs : s = 1 ∨ s = -1) (h1 : 0 ≤ s * A) (h2 : s * B ≤ 0) : (A ≤ 0 → 0 ≤ B) ∧ (0 < A → B ≤ 0) := by
 rcases hs with e | e <;> subst e
 ·constructor
  ·intro hA
   have h0 : A = 0 := by omega
   rw [h0, Int.zero_mul, Int.zero_add] at hX
   rcases Int.lt_or_le B 0 with hB | hB
   ·have : B * (y : Int) < 0 := Int.mul_neg_of_neg_of_pos hB (by omega)
    omega
   ·exact hB
  ·intro _; omega
 ·constructor
  ·intro _; omega
  ·intro _; omega
set_option maxHeartbeats 2000000 in
set_option maxRecDepth 100000 in
theorem descend_any (gx gy cx cy x y n m : Nat) (X Y : List Nat) (hn : (digs x).length = n) (hm : (digs y).length = m) (hnl : n ≤ 1000000000000) (hm2 : 2 ≤ m) (hyx : y ≤ x) (hcy : m ≤ cy) (w : World) (hdx : DB w gx (digs x ++ X)) (hdy : DB w gy (digs y ++ Y)) :
  Calls Tryz.prog 176 #[.slice (some ⟨gx, 0, none⟩) n cx, .slice (some ⟨gy, 0, none⟩) m cy] w fun e w' =>
   ∃ (x' y' gX cX gY cY : Nat) (ZX ZY : List Nat), e = .returned (.tuple #[.slice (some ⟨gX, 0, none⟩) (digs x').length cX, .slice (some ⟨gY, 0, none⟩) (digs y').length cY]) ∧
    DB w' gX (digs x' ++ ZX) ∧ DB w' gY (digs y' ++ ZY) ∧ (digs x').length ≤ cX ∧ (digs y').length ≤ cY ∧ Nat.gcd x' y' = Nat.gcd x y ∧ y' ≤ x' ∧ y' < y ∧ x' ≤ y ∧ gX ≠ gY ∧ (gX = gy ∨ w.heap.size ≤ gX) ∧ w.heap.size ≤ gY ∧ Below w.heap.size w w' := by
 have hml : m ≤ 1000000000000 := by rw [← hm]; exact Nat.le_trans (digs_mono hyx) (by omega)
 have hyB : ¬ y < Bs := digs_big (by omega)
 have hy0 : 0 < y := by unfold Bs at hyB; omega
 have HC := Lib.hid (certain_any gx gy cx cy x y n m X Y hm hm2 hn hyx hnl w hdx hdy)
 have HDV := fun w h1 h2 => divW gx gy cx cy x y X Y hyB hyx (by omega) w h1 h2
 rw [hn, hm] at HDV
 replace HDV := Lib.hid HDV
 have HCO := fun A B d w h1 h2 h3 h4 h5 h6 h7 h8 h9 => combine_any gx gy cx cy x y d n m A B X Y hn hm hnl hml h1 h2 h3 h4 h5 h6 h7 w h8 h9
 replace HCO := Lib.hid HCO
 go_enter Tryz.func176, Tryz.ntmps176
 go_wp2_with fail
 refine (HC.out).mono ?_
 rintro e w1 ⟨A, B, C, D, p, q, p0, q0, rfl, hCS, hp0, hb1⟩
 obtain ⟨w2, hw2, hA, hB, hb2, hsz⟩ := boxes2 w1 (.int .i64 0) (.int .i64 0) (.int .i64 0) (.int .i64 0) 235
 have hp4 := put4 hA hB (.int .i64 A) (.int .i64 B) (.int .i64 C) (.int .i64 D)
 obtain ⟨a0, a1, af⟩ := id hA
 obtain ⟨b0, b1, bf⟩ := id hB
 have hb3 : Below w1.heap.size w1 ((((w2.setCell ⟨w1.heap.size, 0, none⟩ (.int .i64 A)).setCell ⟨w1.heap.size, 1, none⟩ (.int .i64 B)).setCell ⟨w1.heap.size + 1, 0, none⟩ (.int .i64 C)).setCell ⟨w1.heap.size + 1, 1, none⟩ (.int .i64 D)) :=
  (((hb2.setCell (by simp) _).setCell (by simp) _).setCell (by simp) _).setCell (by simp) _
 have hsz3 : w1.heap.size + 2 ≤ ((((w2.setCell ⟨w1.heap.size, 0, none⟩ (.int .i64 A)).setCell ⟨w1.heap.size, 1, none⟩ (.int .i64 B)).setCell ⟨w1.heap.size + 1, 0, none⟩ (.int .i64 C)).setCell ⟨w1.heap.size + 1, 1, none⟩ (.int .i64 D)).heap.size := by simpa using hsz
 generalize hw3 : ((((w2.setCell ⟨w1.heap.size, 0, none⟩ (.int .i64 A)).setCell ⟨w1.heap.size, 1, none⟩ (.int .i64 B)).setCell ⟨w1.heap.size + 1, 0, none⟩ (.int .i64 C)).setCell ⟨w1.heap.size + 1, 1, none⟩ (.int .i64 D)) = w3 at *
 obtain ⟨h3A, h3B⟩ := hp4
 obtain ⟨c0, c1, cf⟩ := id h3A
 obtain ⟨d0, d1, df⟩ := id h3B
 have hB3 := hb1.trans (hb3.mono hb1.size)
 have hdx3 := Lib.hid (hdx.below hB3 hdx.lt)
 have hdy3 := Lib.hid (hdy.below hB3 hdy.lt)
 have hbd := Lib.hid hCS.bounds
 obtain ⟨⟨s, hL⟩, ⟨X1, Y1, hT⟩, -, -⟩ := hCS
 have hs := hbd.out
 have s1 := sgn1 hy0 hT.hX hL.hs hL.hA hL.hB
 have s2 : (C ≤ 0 → 0 ≤ D) ∧ (0 < C → D ≤ 0) := sgn1 hy0 hT.hY (s := -s) (by have := hL.hs; omega) (by have := hL.hC; rw [Int.neg_mul]; omega) (by have := hL.hD; rw [Int.neg_mul]; omega)
 have HC1 := Lib.hid (fun w => HCO.out A B X1 w (by omega) (by omega) (by omega) (by omega) s1.1 s1.2 hT.hX)
 have HC2 := Lib.hid (fun w => HCO.out C D Y1 w (by omega) (by omega) (by omega) (by omega) s2.1 s2.2 hT.hY)
 have HT := Lib.hid hT
 clear hs s1 s2 hbd hL hT hp0 hA hB HC HCO
 by_cases hB0 : B = 0
 ·have hB1 : (B == 0) = true := by rw [hB0]; rfl
  clear hB0
  go_wp2_with fail
  refine (HDV.out _ hdx3.out hdy3.out).mono ?_
  rintro e w4 ⟨gq, cq, zq, gr, cr, zr, rfl, hdq, hdr, hqr, hgq, hgr, hcq, hcr, hb4⟩
  have hdy4 := Lib.hid (hdy3.out.below hb4 hdy3.out.lt)
  have hB4 := Lib.hid (hB3.trans (hb4.mono hB3.size))
  clear HDV HC1 HC2 a0 a1 af b0 b1 bf c0 c1 cf d0 d1 df h3A h3B hw2 hw3
  go_wp2_with fail
  go_ret2
  exact ⟨y, x % y, gy, cy, gr, cr, Y, List.replicate zr 0, by rw [hm]; rfl, hdy4.out, hdr, by omega, hcr, by rw [Nat.gcd_comm y, ← Nat.gcd_rec, Nat.gcd_comm], Nat.le_of_lt (Nat.mod_lt _ hy0), Nat.mod_lt _ hy0, Nat.le_refl _, by have := hdy3.out.lt; omega, .inl rfl, by have := hB3.size; omega, hB4.out⟩
 ·have hB1 : (B == 0) = false := beq_eq_false_iff_ne.2 hB0
  go_wp2_with fail
  go_region_held3 (fun w' => w'.cell? ⟨w1.heap.size, 0, none⟩ = some (.int .i64 A) ∧ w'.cell? ⟨w1.heap.size, 1, none⟩ = some (.int .i64 B) ∧ w'.cell? ⟨w1.heap.size + 1, 0, none⟩ = some (.int .i64 C) ∧ w'.cell? ⟨w1.heap.size + 1, 1, none⟩ = some (.int .i64 D))
   (first | with_reducible exact ⟨c0, c1, d0, d1⟩ | with_reducible exact ⟨c0', c1', d0', d1'⟩ | with_reducible exact ⟨c0'', c1'', d0'', d1''⟩ | exact ⟨c0, c1, d0, d1⟩)
   (first
    | (go_at_call 207; ((with_reducible refine Calls.mono (HC1.out _ (hdx3.out.keep rfl) (hdy3.out.keep rfl)) ?_); rintro e w4 ⟨g1, k1, z1, rfl, hd1, hk1, hg1, hb4⟩; have hb34 := (Below.refl w3.heap.size w3).drew.trans hb4; obtain ⟨c0', c1', cf'⟩ := h3A.below hb34 (by omega); obtain ⟨d0', d1', df'⟩ := h3B.below hb34 (by omega)))
    | (go_at_call 207; ((with_reducible refine Calls.mono (HC2.out _ (hdx3.out.below hb34 hdx3.out.lt) (hdy3.out.below hb34 hdy3.out.lt)) ?_); rintro e w5 ⟨g2, k2, z2, rfl, hd2, hk2, hg2, hb5⟩; have hb35 := hb34.trans (hb5.mono hb34.size); obtain ⟨c0'', c1'', cf''⟩ := h3A.below hb35 (by omega); obtain ⟨d0'', d1'', df''⟩ := h3B.below hb35 (by omega))))
  go_wp2_with fail
  go_ret2
  have h5 := HT.out.prog
  have h6 : B ≠ 0 ∧ X1 ≤ y ∧ Y1 < X1 := by
   rcases h5 with h5 | h5
   ·exact absurd h5.2.1 hB0
   ·exact h5
  exact ⟨X1, Y1, g1, k1, g2, k2, List.replicate z1 0, List.replicate z2 0, rfl, hd1.below hb5 hd1.lt, hd2, hk1, hk2, HT.out.gcd, HT.out.le, by omega, h6.2.1, by have := hd1.lt; omega, .inr (Nat.le_trans hB3.size hg1), Nat.le_trans (Nat.le_trans hB3.size hb34.size) hg2, hB3.trans (hb35.mono hB3.size)⟩
end Go.Proofs.YtdmoadfnogdfnaaGreatDoor
namespace Go.Proofs.YtdmoadfnogdfnaaGreatDoor
open Go.RowKit
attribute [local irreducible] lo hs sm s64 c64 d64 b64 mh ml pd pc qd qc val hiB str cmpI srD lz
set_option maxHeartbeats 2000000 in
set_option maxRecDepth 100000 in
theorem gcdDigits_any (a b : Nat) (ha : a < Bs) (hb : b < Bs) (w : World) :
  Calls Tryz.prog 175 #[.int .u64 (a : Int), .int .u64 (b : Int)] w fun e w' =>
   e = .returned (.int .u64 ((Nat.gcd a b : Nat) : Int)) ∧ Below w.heap.size w w' := by
 go_enter Tryz.func175, Tryz.ntmps175
 go_wp2
 go_loopw [0, 1] (fun z0 z1 wr => ∃ x y : Nat, z0 = .int .u64 x ∧ z1 = .int .u64 y ∧ x < Bs ∧ y < Bs ∧ Nat.gcd x y = Nat.gcd a b ∧ Below w.heap.size w wr) (fun _ z1 _ => (intOf z1).toNat)
 case atStart => exact ⟨a, b, rfl, rfl, ha, hb, rfl, Below.refl _ _⟩
 case round =>
  obtain ⟨x, y, rfl, rfl, hx, hy, hg, hbw⟩ := hrel
  by_cases hy0 : y = 0
  ·subst hy0
   rw [Nat.gcd_zero_right] at hg
   subst hg
   clear hx hy ha hb
   go_wp2
   go_ret
   exact ⟨rfl, hbw⟩
  ·have h1 : ((y : Int) != 0) = true := bne_iff_ne.2 (by omega)
   have htm : (x : Int).tmod (y : Int) = ((x % y : Nat) : Int) := by rw [Int.tmod_eq_emod_of_nonneg (by omega), Int.natCast_emod]
   have hlt : x % y < y := Nat.mod_lt _ (by omega)
   have hgc : Nat.gcd y (x % y) = Nat.gcd a b := by rw [← hg, Nat.gcd_comm y, ← Nat.gcd_rec, Nat.gcd_comm]
   generalize hm : x % y = m at *
   have hwm : IntKind.u64.wrap (m : Int) = (m : Int) := wrapN _ (by unfold Bs at hy; omega)
   have HL := Lib.hid hlt
   have HY := Lib.hid hy
   clear hlt hx hg ha hb hm hy
   go_wp2
   go_region
   all_goals go_wp2
   all_goals go_roundw
   case rel => exact ⟨y, m, rfl, rfl, HY.out, Nat.lt_trans HL.out HY.out, hgc, hbw.drew⟩
   case measure => have := HL.out; simp [intOf]; omega
/-- The number that a slice's cells hold. -/
def rdv (z : Value) (w : World) : Nat := match z with
 | .slice (some ⟨g, _, _⟩) n _ => val ((List.range n).map fun i => match w.cell? ⟨g, i, none⟩ with | some (.int _ d) => d.toNat | _ => 0)
 | _ => 0
theorem rdv_eq {w : World} {g c y : Nat} {Z : List Nat} (h : DB w g (digs y ++ Z)) : rdv (.slice (some ⟨g, 0, none⟩) (digs y).length c) w = y := by
 unfold rdv
 simp only
 rw [show (List.range (digs y).length).map (fun i => match w.cell? ⟨g, i, none⟩ with | some (.int _ d) => d.toNat | _ => 0) = digs y from ?_, val_digs]
 apply List.ext_getElem (by simp)
 intro i h1 h2
 have h3 := h.rdl i h2
 rw [Nat.zero_add] at h3
 simp [h3]
theorem boxes3 (w : World) (A1 A2 B1 B2 C1 C2 : Value) (t : TypeId) : ∃ w0, (((w.alloc (.cells #[A1, A2] t)).alloc (.cells #[B1, B2] t)).alloc (.cells #[C1, C2] t)) = w0 ∧
  Bx w0 w.heap.size A1 A2 ∧ Bx w0 (w.heap.size + 1) B1 B2 ∧ Bx w0 (w.heap.size + 2) C1 C2 ∧ Below w.heap.size w w0 ∧ w.heap.size + 3 ≤ w0.heap.size :=
 ⟨_, rfl, Bx.of _ _ _ _ _ (al3_1 w _ _ _), Bx.of _ _ _ _ _ (al3_2 w _ _ _), Bx.of _ _ _ _ _ (al3 w _ _ _), below3 w _ _ _, by simp⟩
theorem B3.swap {w : World} {k a b : Nat} (h : B3 w k a b) (h' : ((((w.setCell ⟨k, 0, none⟩ (.int .u64 ((lo b : Nat) : Int))).setCell ⟨k, 1, none⟩ (.string (hs b))).setCell ⟨k + 1, 0, none⟩ (.int .u64 ((lo a : Nat) : Int))).setCell ⟨k + 1, 1, none⟩ (.string (hs a))).heap.size = w.heap.size) :
  B3 ((((w.setCell ⟨k, 0, none⟩ (.int .u64 ((lo b : Nat) : Int))).setCell ⟨k, 1, none⟩ (.string (hs b))).setCell ⟨k + 1, 0, none⟩ (.int .u64 ((lo a : Nat) : Int))).setCell ⟨k + 1, 1, none⟩ (.string (hs a))) k b a := by
 have hp := put4 h.A h.B (.int .u64 ((lo b : Nat) : Int)) (.string (hs b)) (.int .u64 ((lo a : Nat) : Int)) (.string (hs a))
 refine ⟨hp.1, hp.2, ?_, by rw [h']; exact h.sz⟩
 obtain ⟨c0, c1, cf⟩ := h.C
 refine ⟨?_, ?_, fun j => ?_⟩ <;> simp [go_sem, c0, c1, cf]
set_option maxHeartbeats 2000000 in
set_option maxRecDepth 100000 in
theorem gcd_any (a b : Nat) (ha : (digs a).length ≤ 1000000000000) (hb : (digs b).length ≤ 1000000000000) (w : World) :
  Calls Tryz.prog 109 #[natV a, natV b] w fun e w' => e = .returned (natV (Nat.gcd a b)) ∧ Below w.heap.size w w' := by
 obtain ⟨w0, hw0, hA, hB, hC, hbw, hsz⟩ := boxes3 w (.int .u64 ((lo a : Nat) : Int)) (.string (hs a)) (.int .u64 ((lo b : Nat) : Int)) (.string (hs b)) (.int .u64 0) (.string ⟨#[]⟩) 32
 have H0 : B3 w0 w.heap.size a b := ⟨hA, hB, hC, hsz⟩
 clear hA hB hC hsz
 have HC := Lib.hid (fun w => cmp_any a b w)
 obtain ⟨⟨a0, a1, af⟩, ⟨b0, b1, bf⟩, -⟩ := id H0
 go_enter Tryz.func109, Tryz.ntmps109
 go_wp2_with fail
 refine (HC.out _).mono ?_
 rintro e w1 ⟨rfl, hb1⟩
 have H1 := H0.below hb1
 have hB1 := H0.step hbw hb1
 clear a0 a1 af b0 b1 bf HC H0 hb1 hbw hw0
 go_upto_if 10 with fail
 go_cut [] from 11 to 12 (fun wx => ∃ x y : Nat, ((x = a ∧ y = b) ∨ (x = b ∧ y = a)) ∧ y ≤ x ∧ B3 wx w.heap.size x y ∧ Below w.heap.size w wx)
 case first =>
  obtain ⟨⟨a0, a1, af⟩, ⟨b0, b1, bf⟩, -⟩ := id H1
  rcases Nat.lt_or_ge a b with hab | hab
  ·have hcm : cmpI a b < 0 := by rw [cmpI_lt hab]; decide
   go_wp2_with fail
   go_meet
   exact ⟨b, a, .inr ⟨rfl, rfl⟩, Nat.le_of_lt hab, H1.swap (by simp), (((hB1.setCell (by simp) _).setCell (by simp) _).setCell (by simp) _).setCell (by simp) _⟩
  ·have hcm : ¬ cmpI a b < 0 := of_decide_eq_false (cmpI_ge hab)
   go_wp2_with fail
   go_meet
   exact ⟨a, b, .inl ⟨rfl, rfl⟩, hab, H1, hB1⟩
 case rest =>
  clear H1 hB1
  obtain ⟨x, y, hxy, hyx, H1, hB1⟩ := hcut
  have hlx : (digs x).length ≤ 1000000000000 := by rcases hxy with ⟨rfl, rfl⟩ | ⟨rfl, rfl⟩ <;> assumption
  have hg : Nat.gcd x y = Nat.gcd a b := by
   rcases hxy with ⟨rfl, rfl⟩ | ⟨rfl, rfl⟩
   ·rfl
   ·exact Nat.gcd_comm _ _
  have HGC := Lib.hid (congrArg (fun n => Ending.returned (natV n)) hg)
  clear ha hb hg hxy
  have HS := Lib.hid (fun w => small_any x w)
  obtain ⟨⟨a0, a1, af⟩, ⟨b0, b1, bf⟩, -⟩ := id H1
  by_cases hsx : x < Bs
  ·have hs1 : sm x = true := by unfold sm; exact decide_eq_true hsx
   have hsy : y < Bs := Nat.lt_of_le_of_lt hyx hsx
   have hgB : Nat.gcd x y < Bs := by
    rcases Nat.eq_zero_or_pos y with h | h
    ·rw [h, Nat.gcd_zero_right]; exact hsx
    ·exact Nat.lt_of_le_of_lt (Nat.gcd_le_right x h) hsy
   go_wp2_with fail
   refine (HS.out _).mono ?_
   rintro e w2 ⟨rfl, hb2⟩
   have H2 := H1.below hb2
   have hB2 := H1.step hB1 hb2
   have HG := gcdDigits_any x y hsx hsy
   have HO := of_any (Nat.gcd x y) hgB
   replace HG := Lib.hid HG
   replace HO := Lib.hid HO
   clear a0 a1 af b0 b1 bf HS H1 hb2 hB1
   obtain ⟨⟨a0, a1, af⟩, ⟨b0, b1, bf⟩, -⟩ := id H2
   rw [lo_small hsx] at a0
   rw [lo_small hsy] at b0
   clear hsx hsy hgB
   go_wp2_with fail
   refine (HG.out _).mono ?_
   rintro e w3 ⟨rfl, hb3⟩
   have H3 := H2.below hb3
   have hB3 := H2.step hB2 hb3
   clear a0 a1 af b0 b1 bf HG H2 hb3 hB2
   go_wp2_with fail
   refine (HO.out _).mono ?_
   rintro e w4 ⟨rfl, hb4⟩
   have H4 := H3.below hb4
   have hB4 := H3.step hB3 hb4
   obtain ⟨-, -, ⟨c0, c1, cf⟩, hsz⟩ := id H4
   clear HO H3 hb4 hB3
   go_wp2_with fail
   exact bodyPost_ret (v := natV (Nat.gcd x y)) (by simp [results, Tryz.results109, go_sem, c0, c1]) rfl ⟨HGC.out, (hB4.setCell (by simp <;> omega) _).setCell (by simp <;> omega) _⟩
  ·have hs1 : sm x = false := by unfold sm; exact decide_eq_false hsx
   go_wp2_with fail
   refine (HS.out _).mono ?_
   rintro e w2 ⟨rfl, hb2⟩
   have H2 := H1.below hb2
   have hB2 := H1.step hB1 hb2
   clear a0 a1 af b0 b1 bf HS H1 hb2 hB1
   obtain ⟨⟨a0, a1, af⟩, ⟨b0, b1, bf⟩, -⟩ := id H2
   go_wp2_with fail
   have HDa := Lib.hid (fun w => digits_any x (by omega) w)
   have HDb := Lib.hid (fun w => digits_any y (by have := digs_mono hyx; omega) w)
   go_region_held3 (fun w' => w'.cell? ⟨w.heap.size, 0, none⟩ = some (.int .u64 ((lo x : Nat) : Int)) ∧ w'.cell? ⟨w.heap.size, 1, none⟩ = some (.string (hs x)) ∧ w'.cell? ⟨w.heap.size + 1, 0, none⟩ = some (.int .u64 ((lo y : Nat) : Int)) ∧ w'.cell? ⟨w.heap.size + 1, 1, none⟩ = some (.string (hs y)))
    (first | with_reducible exact ⟨a0, a1, b0, b1⟩ | with_reducible exact ⟨a0', a1', b0', b1'⟩ | with_reducible exact ⟨a0'', a1'', b0'', b1''⟩ | exact ⟨a0, a1, b0, b1⟩)
    (first
     | (go_at_call 129; ((with_reducible refine Calls.mono (HDa.out _) ?_); rintro e w3 ⟨gx, cx, zx, rfl, hcx, hgx, hdx, hb3⟩; have H3 := H2.below ((Below.refl w2.heap.size w2).drew.trans hb3); obtain ⟨⟨a0', a1', af'⟩, ⟨b0', b1', bf'⟩, -⟩ := id H3))
     | (go_at_call 129; ((with_reducible refine Calls.mono (HDb.out _) ?_); rintro e w4 ⟨gy, cy, zy, rfl, hcy, hgy, hdy, hb4⟩; have H4 := H3.below hb4; obtain ⟨⟨a0'', a1'', af''⟩, ⟨b0'', b1'', bf''⟩, -⟩ := id H4)))
   have hB4 := H3.step (H2.step hB2 ((Below.refl w2.heap.size w2).drew.trans hb3)) hb4
   have hdx4 := hdx.below hb4 hdx.lt
   have hne : gx ≠ gy := by have := hdx.lt; omega
   have hsz4 := H2.sz
   have hsz5 := H3.sz
   clear a0 a1 af b0 b1 bf a0' a1' af' b0' b1' bf' a0'' a1'' af'' b0'' b1'' bf'' HDa HDb H2 H3 hB2 hb3 hb4 hdx
   go_wp2_with fail
   go_loopw [5, 6] (fun z5 z6 wr => ∃ (x' y' gX cX gY cY : Nat) (ZX ZY : List Nat), z5 = .slice (some ⟨gX, 0, none⟩) (digs x').length cX ∧ z6 = .slice (some ⟨gY, 0, none⟩) (digs y').length cY ∧
    DB wr gX (digs x' ++ ZX) ∧ DB wr gY (digs y' ++ ZY) ∧ (digs x').length ≤ cX ∧ (digs y').length ≤ cY ∧ Nat.gcd x' y' = Nat.gcd x y ∧ y' ≤ x' ∧ (digs x').length ≤ 1000000000000 ∧ gX ≠ gY ∧ w.heap.size + 3 ≤ gX ∧ w.heap.size + 3 ≤ gY ∧ B3 wr w.heap.size x y ∧ Below w.heap.size w wr) (fun _ z6 wr => rdv z6 wr)
   case atStart => exact ⟨x, y, gx, cx, gy, cy, _, _, rfl, rfl, hdx4, hdy, hcx, hcy, rfl, hyx, hlx, hne, by have := hsz4; simp at hgx; omega, by omega, H4, hB4⟩
   case round =>
    obtain ⟨x', y', gX, cX, gY, cY, ZX, ZY, rfl, rfl, hX, hY, hcX, hcY, hg, hle, hl, hne', hgX, hgY, H5, hB5⟩ := hrel
    clear hdx4 hdy hcx hcy hne H4 hB4 hgx hgy hsz4 hsz5 hlx hyx
    obtain ⟨m, hm⟩ : ∃ m, (digs y').length = m := ⟨_, rfl⟩
    obtain ⟨n, hn⟩ : ∃ n, (digs x').length = n := ⟨_, rfl⟩
    have hmv := rdv_eq (c := cY) hY
    rw [hm] at hmv hcY ⊢
    rw [hn] at hcX hl ⊢
    rcases Nat.lt_or_ge 1 m with hm1 | hm1
    ·have HD := Lib.hid (descend_any gX gY cX cY x' y' n m ZX ZY hn hm hl hm1 hle hcY wr hX hY)
     go_wp2_with fail
     refine (HD.out).mono ?_
     rintro e w6 ⟨x2, y2, gX2, cX2, gY2, cY2, ZX2, ZY2, rfl, r1, r2, r3, r4, r5, r6, r7, r8, r9, r10, r11, hb6⟩
     have H6 := H5.below hb6
     have hB6 := H5.step hB5 hb6
     have hl2 : (digs x2).length ≤ 1000000000000 := Nat.le_trans (digs_mono (Nat.le_trans r8 hle)) (by omega)
     have hsz5 := H5.sz
     go_wp2_with fail
     go_roundw
     case rel => exact ⟨x2, y2, gX2, cX2, gY2, cY2, ZX2, ZY2, rfl, rfl, r1, r2, r3, r4, r5.trans hg, r6, hl2, r9, by omega, by omega, H6, hB6⟩
     case measure => rw [hmv, rdv_eq r2]; exact r7
    ·have hd1 : decide (1 < m) = false := by rw [decide_eq_false_iff_not]; omega
     rcases Nat.eq_zero_or_pos m with hm0 | hm0
     ·subst hm0
      have hy0 : y' = 0 := digs_eq_nil.1 (List.length_eq_zero_iff.1 hm)
      have HP := Lib.hid (packQ gX cX n x' (digs x') ZX hn (digs_dig x') (val_digs x') (by omega) hcX wr hX)
      have hgx : x' = Nat.gcd x y := by rw [← hg, hy0, Nat.gcd_zero_right]
      have HE := Lib.hid ((congrArg (fun n => Ending.returned (natV n)) hgx).trans HGC.out)
      clear hmv hm hn hX hY hg hgx hle hl hy0
      go_wp2_with fail
      refine (HP.out).mono ?_
      rintro e w6 ⟨rfl, hb6⟩
      have H6 := H5.below hb6
      have hB6 := H5.step hB5 hb6
      obtain ⟨-, -, ⟨c0, c1, cf⟩, hsz⟩ := id H6
      go_wp2_with fail
      exact bodyPost_ret (v := natV x') (by simp [results, Tryz.results109, go_sem, c0, c1]) rfl ⟨HE.out, (hB6.setCell (by simp <;> omega) _).setCell (by simp <;> omega) _⟩
     ·have hm2 : m = 1 := by omega
      subst hm2
      have hyB : y' < Bs := by have := digs_length_iff.1 (show (digs y').length ≤ 1 by omega); rwa [Nat.pow_one] at this
      have hy0 : 0 < y' := by
       rcases Nat.eq_zero_or_pos y' with h | h
       ·rw [h, digs_zero] at hm; simp at hm
       ·exact h
      have hdy : digs y' = [y'] := by rw [digs_pos (by omega), Nat.mod_eq_of_lt hyB, Nat.div_eq_of_lt hyB, digs_zero]
      have hcell := hY.cell 0 (by rw [hdy]; simp)
      simp only [hdy, List.cons_append, List.getElem_cons_zero] at hcell
      have HDD := fun w h => divD gX cX x' y' ZX hy0 hyB (by omega) w h
      rw [hn] at HDD
      have HGG := fun w => gcdDigits_any y' (x' % y') hyB (Nat.lt_trans (Nat.mod_lt _ hy0) hyB) w
      have hgg : Nat.gcd y' (x' % y') = Nat.gcd x y := by rw [← hg, Nat.gcd_comm y', ← Nat.gcd_rec, Nat.gcd_comm]
      have HO := fun w => of_any (Nat.gcd y' (x' % y')) (Nat.lt_of_le_of_lt (Nat.gcd_le_left _ hy0) hyB) w
      have HE := Lib.hid ((congrArg (fun n => Ending.returned (natV n)) hgg).trans HGC.out)
      generalize Nat.gcd y' (x' % y') = g at *
      generalize x' % y' = r at *
      replace HDD := Lib.hid HDD
      replace HGG := Lib.hid HGG
      replace HO := Lib.hid HO
      have hsz5 := H5.sz
      clear hmv hm hn hg hgg hle hl hyB hy0 hdy
      go_wp2_with fail
      go_region_held3 (fun w' => w'.cell? ⟨gY, 0, none⟩ = some (.int .u64 (y' : Int)))
       (first | with_reducible exact hcell | with_reducible exact hc2 | with_reducible exact hc3 | with_reducible exact hc4 | (simp [go_sem, hc4]; done) | (simp [go_sem, hcell]; done))
       (first
        | (go_at_call 131; ((with_reducible refine Calls.mono (HDD.out _ (hX.keep rfl)) ?_); rintro e w6 ⟨rfl, Q, hQ1, hQ2, hQ3, hdq, hg6⟩; have hb6 := (Below.refl (w.heap.size + 3) wr).drew.trans (grown_below hg6 hgX hsz5); have hc2 := (grown_cell (i := 0) hg6 (Ne.symm hne') hY.lt).trans hcell))
        | (go_at_call 175; ((with_reducible refine Calls.mono (HGG.out _) ?_); rintro e w7 ⟨rfl, hb7⟩; have hc3 := (hb7.cell (p := ⟨gY, 0, none⟩) (Nat.lt_of_lt_of_le hY.lt hb6.size)).trans hc2; have hb67 := hb6.trans (hb7.mono (Nat.le_trans hsz5 hb6.size))))
        | (go_at_call 81; ((with_reducible refine Calls.mono (HO.out _) ?_); rintro e w8 ⟨rfl, hb8⟩; have hc4 := (hb8.cell (p := ⟨gY, 0, none⟩) (Nat.lt_of_lt_of_le hY.lt hb67.size)).trans hc3; have hb68 := hb67.trans (hb8.mono (Nat.le_trans hsz5 hb67.size)); obtain ⟨c0, c1, cf⟩ := H5.C.below hb68 (by omega))))
      go_wp2_with fail
      have hB8 := hB5.trans (hb68.mono (by omega))
      exact bodyPost_ret (v := natV g) (by simp [results, Tryz.results109, go_sem, c0, c1]) rfl ⟨HE.out, (hB8.setCell (by simp <;> omega) _).setCell (by simp <;> omega) _⟩
end Go.Proofs.YtdmoadfnogdfnaaGreatDoor
namespace Go.Proofs.YtdmoadfnogdfnaaGreatDoor
open Go.RowKit
attribute [local irreducible] lo hs sm s64 c64 d64 b64 mh ml pd pc qd qc val hiB str cmpI srD lz
theorem nb_zero : nb 0 = 0 := rfl
theorem nb_of {n k : Nat} (h1 : 2 ^ k ≤ n) (h2 : n < 2 ^ (k + 1)) : nb n = k + 1 := by
 have h0 : n ≠ 0 := by intro h; rw [h] at h1; have := Nat.pow_pos (n := k) (show 0 < 2 by omega); omega
 unfold nb
 rw [if_neg h0, (Nat.log2_eq_iff h0).2 ⟨h1, h2⟩]
theorem nb_spec {n : Nat} (h : n ≠ 0) : ∃ k, nb n = k + 1 ∧ 2 ^ k ≤ n ∧ n < 2 ^ (k + 1) :=
 ⟨n.log2, by unfold nb; rw [if_neg h], Nat.log2_self_le h, Nat.lt_log2_self⟩
theorem nb_lt (n : Nat) : n < 2 ^ nb n := by
 by_cases h : n = 0
 ·subst h; decide
 ·obtain ⟨k, e, _, h2⟩ := nb_spec h
  rw [e]; exact h2
theorem nb_bl {x : Nat} (h : x < Bs) : Lib.bitLen x = nb x := by
 by_cases h0 : x = 0
 ·subst h0; decide
 ·obtain ⟨k, e, h1, h2⟩ := bl_spec x h0 (by rw [← Bs_pow]; exact h)
  rw [e, nb_of h1 h2]
theorem nb_top {n L t : Nat} (ht : t ≠ 0) (h1 : t * Bs ^ L ≤ n) (h2 : n < (t + 1) * Bs ^ L) : nb n = L * 64 + nb t := by
 obtain ⟨k, e, k1, k2⟩ := nb_spec ht
 have hp : Bs ^ L = 2 ^ (L * 64) := by rw [Bs_pow, ← Nat.pow_mul, Nat.mul_comm]
 rw [hp] at h1 h2
 rw [e, ← Nat.add_assoc]
 apply nb_of
 ·rw [Nat.add_comm, Nat.pow_add]; exact Nat.le_trans (Nat.mul_le_mul_right _ k1) h1
 ·rw [show L * 64 + k + 1 = (k + 1) + L * 64 by omega, Nat.pow_add]
  exact Nat.lt_of_lt_of_le h2 (Nat.mul_le_mul_right _ k2)
theorem nb_high (n L : Nat) (hL : (digs (n / Bs)).length = L + 1) : nb n = (L + 1) * 64 + nb ((digs (n / Bs))[L]'(by omega)) := by
 have hm := val_digs (n / Bs)
 rw [← List.take_of_length_le (Nat.le_of_eq hL), take_snoc _ L (by omega)] at hm
 have h0 : digs (n / Bs) ≠ [] := by intro h; rw [h] at hL; simp at hL
 have ht : (digs (n / Bs))[L]'(by omega) ≠ 0 := by
  have := top_digs (n / Bs) h0
  rw [List.getLast_eq_getElem] at this
  simpa [hL] using this
 have hv := val_lt ((digs_dig (n / Bs)).take L)
 rw [List.length_take, Nat.min_eq_left (by omega)] at hv
 generalize (digs (n / Bs))[L]'(by omega) = t at *
 generalize val ((digs (n / Bs)).take L) = v at *
 have hn := Nat.div_add_mod n Bs
 have hlt : n % Bs < Bs := Nat.mod_lt _ Bs_pos
 rw [← hm] at hn
 have e1 : Bs * (v + Bs ^ L * t) = Bs * v + t * Bs ^ (L + 1) := by rw [Nat.mul_add, Nat.pow_succ]; congr 1; rw [← Nat.mul_assoc, Nat.mul_comm, Nat.mul_comm Bs]
 have e2 : Bs * v + Bs ≤ Bs ^ (L + 1) := by
  rw [← Nat.mul_succ, Nat.pow_succ, Nat.mul_comm]; exact Nat.mul_le_mul_right _ hv
 rw [e1] at hn
 apply nb_top ht
 ·omega
 ·rw [Nat.add_mul, Nat.one_mul]; omega
theorem len64 (x : Nat) (h : x < Bs) (w : World) : Calls Tryz.prog 183 #[.int .u64 (x : Int)] w fun e w' => e = .returned (.int .i64 ((nb x : Nat) : Int)) ∧ w = w' := by
 refine (Tryz.bits_Len64 (x : Int) w (by omega) (by unfold Bs at h; omega)).mono fun e w' ⟨he, hw⟩ => ⟨?_, hw.symm⟩
 rw [he, Int.toNat_natCast, nb_bl h]
theorem lenU (x : Nat) (h : x < Bs) (w : World) : Calls Tryz.prog 185 #[.int .u64 (x : Int)] w fun e w' => e = .returned (.int .i64 ((nb x : Nat) : Int)) ∧ w = w' := by
 refine (Tryz.bits_Len (x : Int) w (by omega) (by unfold Bs at h; omega)).mono fun e w' ⟨he, hw⟩ => ⟨?_, hw.symm⟩
 rw [he, Int.toNat_natCast, nb_bl h]
theorem nb_le64 {x : Nat} (h : x < Bs) : nb x ≤ 64 := by
 rw [← nb_bl h]; exact bl_le x (by rw [← Bs_pow]; exact h)
attribute [local irreducible] nb
set_option maxHeartbeats 2000000 in
set_option maxRecDepth 100000 in
theorem bits_any (n : Nat) (hn : (digs n).length ≤ 1099511627776) (w : World) :
  Calls Tryz.prog 114 #[natV n] w fun e w' => e = .returned (.int .i64 ((nb n : Nat) : Int)) ∧ Below w.heap.size w w' := by
 obtain ⟨w0, hw0, hA, hbw, hsz⟩ := boxes1 w (.int .u64 ((lo n : Nat) : Int)) (.string (hs n)) 32
 have HS := Lib.hid (fun w => small_any n w)
 obtain ⟨a0, a1, af⟩ := id hA
 by_cases hb : n < Bs
 ·have hs1 : sm n = true := by unfold sm; exact decide_eq_true hb
  have HL := Lib.hid (fun w => len64 n hb w)
  have hlo := Lib.hid (lo_small hb)
  clear hb
  go_enter Tryz.func114, Tryz.ntmps114
  go_wp2_with fail
  refine (HS.out _).mono ?_
  rintro e w1 ⟨rfl, hb1⟩
  obtain ⟨c0, c1, cf⟩ := hA.below hb1 hsz
  rw [hlo.out] at c0
  clear hlo a0 a1 af
  go_wp2_with fail
  refine (HL.out _).mono ?_
  rintro e w2 ⟨rfl, rfl⟩
  go_wp2_with fail
  go_ret
  exact ⟨rfl, hbw.trans (hb1.mono hbw.size)⟩
 ·have hs1 : sm n = false := by unfold sm; exact decide_eq_false hb
  obtain ⟨L, hL⟩ : ∃ L, (digs (n / Bs)).length = L + 1 := by
   have : digs (n / Bs) ≠ [] := by
    intro h
    have := digs_eq_nil.1 h
    rw [Nat.div_eq_zero_iff] at this
    rcases this with h | h
    ·unfold Bs at h; omega
    ·exact hb h
   exact ⟨(digs (n / Bs)).length - 1, by have := List.length_pos_iff.2 this; omega⟩
  have hLb : L + 1 ≤ 1099511627776 := by rw [← hL]; exact Nat.le_trans (digs_mono (Nat.div_le_self n Bs)) hn
  have hnb := nb_high n L hL
  have htB : (digs (n / Bs))[L]'(by omega) < Bs := (digs_dig _).get L (by omega)
  have hsize : (hs n).size = 8 * (L + 1) := by rw [hs_size, hL]
  have HD := fun w => digitAt_any (hs n) 0 (by omega) (by rw [hsize]; unfold maxLen; omega) w
  rw [hs_piece n 0 (by omega)] at HD
  have hidx : (digs (n / Bs)).length - 1 - 0 = L := by omega
  simp only [hidx] at HD
  rw [hnb]
  generalize (digs (n / Bs))[L]'(by omega) = t at *
  have HL : Hid (∀ w, Calls Tryz.prog 183 #[.int .u64 (t : Int)] w fun e w' => e = .returned (.int .i64 ((nb t : Nat) : Int)) ∧ w' = w) := Lib.hid (fun w => (len64 t htB w).mono fun _ _ h => ⟨h.1, h.2.symm⟩)
  have ht64 := nb_le64 htB
  have HD : Hid (∀ w, Calls Tryz.prog 184 #[.string (hs n), .int .i64 0] w fun e w' => e = .returned (.int .u64 (t : Int)) ∧ ∃ n, w' = w.drewN n) := Lib.hid HD
  clear hnb htB hidx hL hb hn
  obtain ⟨K, hK⟩ : ∃ K, K = L + 1 := ⟨_, rfl⟩
  rw [← hK] at hsize hLb ⊢
  have hdv : ((8 * K : Nat) : Int) / 8 = (K : Int) := by omega
  go_enter Tryz.func114, Tryz.ntmps114
  go_wp2_with fail
  refine (HS.out _).mono ?_
  rintro e w1 ⟨rfl, hb1⟩
  obtain ⟨c0, c1, cf⟩ := hA.below hb1 hsz
  clear a0 a1 af
  go_wp2_with fail
  go_quiet (first | (go_at_call 184; exact Calls.quiet_of (HD.out _)) | (go_at_call 183; exact Calls.quiet_of_same (HL.out _)))
  go_wp2
  go_ret
  refine ⟨congrArg (fun k : Int => Ending.returned (.int .i64 k)) ?_, bdrew (hbw.trans (hb1.mono hbw.size)) nq⟩
  rw [hK]; omega
end Go.Proofs.YtdmoadfnogdfnaaGreatDoor
namespace Go.Proofs.YtdmoadfnogdfnaaGreatDoor
open Go.RowKit
attribute [local irreducible] lo hs sm s64 c64 d64 b64 mh ml pd pc qd qc val hiB str cmpI srD lz nb isq
theorem nb_len {a k : Nat} (h : (digs a).length ≤ k) : nb a ≤ 64 * k := by
 by_cases h0 : a = 0
 ·subst h0; rw [nb_zero]; omega
 ·obtain ⟨j, e, h1, h2⟩ := nb_spec h0
  rw [e]
  have h3 := digs_length_iff.1 h
  rw [Bs_pow, ← Nat.pow_mul] at h3
  have := (Nat.pow_lt_pow_iff_right (show 1 < 2 by omega)).1 (Nat.lt_of_le_of_lt h1 h3)
  omega
end Go.Proofs.YtdmoadfnogdfnaaGreatDoor
namespace Go.Proofs.YtdmoadfnogdfnaaGreatDoor
open Go.RowKit
attribute [local irreducible] lo hs sm s64 c64 d64 b64 mh ml pd pc qd qc val hiB str cmpI srD lz nb isq
theorem pow_len {a n k : Nat} (hk : k ≤ n) (hg : n = 0 ∨ nb a ≤ 262144 / n) : (digs (a ^ k)).length ≤ 4097 := by
 obtain ⟨N, hN⟩ : ∃ N, N = 4097 := ⟨_, rfl⟩
 rw [← hN]
 refine digs_length_iff.2 ?_
 rcases hg with h | h
 ·have : k = 0 := by omega
  rw [this, Nat.pow_zero]
  exact Nat.one_lt_pow (by omega) Bs_gt
 ·have h1 : k * nb a ≤ 262144 := Nat.le_trans (Nat.mul_le_mul hk h) (Nat.mul_div_le 262144 n)
  have h2 : a ^ k ≤ 2 ^ (k * nb a) := by
   rw [Nat.mul_comm, Nat.pow_mul]; exact Nat.pow_le_pow_left (Nat.le_of_lt (nb_lt a)) k
  refine Nat.lt_of_le_of_lt h2 ?_
  rw [Bs_pow, ← Nat.pow_mul]
  exact Nat.pow_lt_pow_right (by omega) (by omega)
theorem i64_and1 (n : Int) : bits .and .i64 n 1 = n % 2 := by
 have h127 : (BitVec.ofInt 64 1).toNat = 2 ^ 1 - 1 := by decide
 have key : (BitVec.ofInt 64 n &&& BitVec.ofInt 64 1).toNat = (n % ((2 ^ 64 : Nat) : Int)).toNat % 2 ^ 1 := by
  rw [BitVec.toNat_and, BitVec.toNat_ofInt, h127, Nat.and_two_pow_sub_one_eq_mod]
 show IntKind.i64.wrap ((BitVec.ofInt 64 n &&& BitVec.ofInt 64 1).toNat : Nat) = n % 2
 rw [key, IntKind.wrap_i64]
 omega
theorem pow_bit (n k : Nat) : bits .and .i64 ((n : Int) / 2 ^ k) 1 = ((n / 2 ^ k % 2 : Nat) : Int) := by
 rw [i64_and1]
 have h : ((n : Int) / 2 ^ k) = ((n / 2 ^ k : Nat) : Int) := by
  rw [Int.natCast_ediv, Int.natCast_pow]; rfl
 rw [h]
 generalize n / 2 ^ k = x
 omega
theorem pow_half (a n k : Nat) : a ^ (n / 2 ^ k) = a ^ (n / 2 ^ (k + 1)) * a ^ (n / 2 ^ (k + 1)) * a ^ (n / 2 ^ k % 2) := by
 rw [← Nat.pow_add, ← Nat.pow_add, Nat.pow_succ, ← Nat.div_div_eq_div_mul]
 congr 1
 generalize n / 2 ^ k = x
 omega
set_option maxHeartbeats 2000000 in
set_option maxRecDepth 100000 in
theorem pow_ok (a n : Nat) (h : n ≤ 4096) (hg : n = 0 ∨ nb a ≤ 262144 / n) (hla : (digs a).length ≤ 1000000000) (w : World) :
  Calls Tryz.prog 115 #[natV a, .int .i64 (n : Int)] w fun e w' => e = .returned (.tuple #[natV (a ^ n), .int .i64 0]) ∧ Below w.heap.size w w' := by
 obtain ⟨w0, hw0, hA, hB, hbw, hsz⟩ := boxes2 w (.int .u64 ((lo a : Nat) : Int)) (.string (hs a)) (.int .u64 0) (.string ⟨#[]⟩) 32
 obtain ⟨a0, a1, af⟩ := id hA
 have H0 : B2 w0 w.heap.size a := ⟨hA, hB, hsz⟩
 have h1 : decide ((4096 : Int) < (n : Int)) = false := decide_eq_false (by omega)
 have h2 : decide (4096 < n) = false := decide_eq_false (by omega)
 go_enter Tryz.func115, Tryz.ntmps115
 go_upto_region 3 with fail
 go_cut [24] from 12 to 24 (fun z wx => z = .bool false ∧ B2 wx w.heap.size a ∧ Below w.heap.size w wx)
 case first =>
  rcases Nat.eq_zero_or_pos n with h0 | h0
  ·subst h0
   have h3 : decide ((0 : Int) < ((0 : Nat) : Int)) = false := rfl
   go_quiet (fail)
   go_wp2_with fail
   go_meet
   exact ⟨rfl, H0.below (bdrew (Below.refl _ _) nq), bdrew hbw nq⟩
  ·have hq1 : nb a ≤ 262144 / n := by omega
   obtain ⟨q, hq⟩ : ∃ q, q = 262144 / n := ⟨_, rfl⟩
   have hqb : q ≤ 262144 := by rw [hq]; exact Nat.div_le_self _ _
   have htd : (262144 : Int).tdiv (n : Int) = (q : Int) := by
    rw [Int.tdiv_eq_ediv_of_nonneg (by omega), hq]; rfl
   have hed : (262144 : Int) / (n : Int) = (q : Int) := by rw [hq]; rfl
   have hnb := nb_len hla
   have HBt := Lib.hid (fun w => bits_any a (by omega) w)
   rw [← hq] at hq1
   have HG := Lib.hid hg
   clear hg
   generalize nb a = B at *
   have h3 : decide ((0 : Int) < (n : Int)) = true := decide_eq_true (by omega)
   have h4 : ¬ n = 0 := by omega
   have h5 : decide (q < B) = false := decide_eq_false (by omega)
   have h6 : decide ((q : Int) < (B : Int)) = false := decide_eq_false (by omega)
   have hwq : IntKind.i64.wrap (q : Int) = (q : Int) := IntWalk.i64_in _ (by omega)
   clear hq hnb hla
   go_region_held3 (fun w' => w'.cell? ⟨w.heap.size, 0, none⟩ = some (.int .u64 ((lo a : Nat) : Int)) ∧ w'.cell? ⟨w.heap.size, 1, none⟩ = some (.string (hs a)))
    (first | exact ⟨a0, a1⟩ | exact ⟨a0', a1'⟩)
    (first
     | (go_at_call 114; ((with_reducible refine Calls.mono (HBt.out _) ?_); rintro e w1 ⟨rfl, hb1⟩; obtain ⟨a0', a1', af'⟩ := hA.below ((Below.refl w0.heap.size w0).drew.trans hb1) (by omega))))
   have hb01 := (Below.refl w0.heap.size w0).drew.trans hb1
   go_wp2_with fail
   go_meet
   exact ⟨rfl, H0.below hb01, hbw.trans (hb01.mono (by omega))⟩
 case rest =>
  obtain ⟨rfl, H1, hB1⟩ := hcut
  have HO := Lib.hid (fun w => of_any 1 Bs_gt w)
  have HLn := Lib.hid (fun w => lenU n (by unfold Bs; omega) w)
  have hlen := nb_lt n
  have hlb : nb n ≤ 64 := nb_le64 (by unfold Bs; omega)
  have hwn : IntKind.u64.wrap (n : Int) = (n : Int) := wrapN _ (by omega)
  have HG := Lib.hid hg
  obtain ⟨L, hL⟩ : ∃ L, L = nb n := ⟨_, rfl⟩
  rw [← hL] at HLn hlen hlb
  have hlen := Lib.hid hlen
  clear hg hA hB hbw hsz a0 a1 af H0 hw0 hL
  go_wp2_with fail
  refine (HO.out _).mono ?_
  rintro e w2 ⟨rfl, hb2⟩
  have H2 := H1.below hb2
  have hB2 := H1.step hB1 hb2
  obtain ⟨w3, hw3, hP, hb3, hsz3⟩ := boxes1 w2 (.int .u64 ((lo 1 : Nat) : Int)) (.string (hs 1)) 32
  have H3 := H2.below hb3
  have hB3 := H2.step hB2 hb3
  have hK : w.heap.size + 2 ≤ w2.heap.size := H2.sz
  clear hb2 H1 hB1 HO hb3 H2 hB2
  go_wp2_with fail
  refine (HLn.out _).mono ?_
  rintro e w4 ⟨rfl, rfl⟩
  clear HLn
  go_wp2_with fail
  go_loopw [8, 31] (fun _ z wr => ∃ i : Nat, i ≤ L ∧ z = .int .i64 i ∧ Bx wr w2.heap.size (.int .u64 ((lo (a ^ (n / 2 ^ (L - i))) : Nat) : Int)) (.string (hs (a ^ (n / 2 ^ (L - i))))) ∧ w2.heap.size < wr.heap.size ∧ B2 wr w.heap.size a ∧ Below w.heap.size w wr) (fun _ z _ => L - (intOf z).toNat)
  case atStart => exact ⟨0, Nat.zero_le _, rfl, by rw [Nat.sub_zero, Nat.div_eq_of_lt hlen.out, Nat.pow_zero]; exact hP, hsz3, H3, hB3⟩
  case round =>
   obtain ⟨i, hi, rfl, hP, hs4, H4, hB4⟩ := hrel
   clear hw3 H3 hB3 hsz3
   obtain ⟨p, hp⟩ : ∃ p, p = a ^ (n / 2 ^ (L - i)) := ⟨_, rfl⟩
   rw [← hp] at hP
   rcases Nat.lt_or_eq_of_le hi with hiL | hiL
   ·have hlp : (digs p).length ≤ 4097 := by rw [hp]; exact pow_len (Nat.div_le_self _ _) HG.out
    have HM := Lib.hid (fun w => mul_any p p (by omega) (by omega) w)
    obtain ⟨k, hk⟩ : ∃ k : Nat, L = k + 1 + i := ⟨L - 1 - i, by omega⟩
    obtain ⟨f, hf⟩ : ∃ f, f = n / 2 ^ k := ⟨_, rfl⟩
    obtain ⟨s, hs⟩ : ∃ s, s = p * p := ⟨_, rfl⟩
    rw [← hs] at HM
    have HS := Lib.hid hs
    have HF := Lib.hid hf
    have HP := Lib.hid hp
    clear hs hf hp
    obtain ⟨p0, p1, pf⟩ := id hP
    go_wp2_with fail
    refine (HM.out _).mono ?_
    rintro e w5 ⟨rfl, hb5⟩
    have H5 := H4.below hb5
    have hB5 := H4.step hB4 hb5
    obtain ⟨q0, q1, qf⟩ := hP.below hb5 hs4
    clear p0 p1 pf hP HM H4 hB4
    have hkk : (L : Int) - 1 - (i : Int) = (k : Int) := by omega
    have hkL : L - i = k + 1 := by omega
    have hkL' : L - (i + 1) = k := by omega
    have hR5 := (show Bx w5 w2.heap.size _ _ from ⟨q0, q1, qf⟩)
    have hs5 : w2.heap.size < w5.heap.size := Nat.lt_of_lt_of_le hs4 hb5.size
    obtain ⟨w6, hw6⟩ : ∃ w6, (w5.setCell ⟨w2.heap.size, 0, none⟩ (.int .u64 ((lo s : Nat) : Int))).setCell ⟨w2.heap.size, 1, none⟩ (.string (hs s)) = w6 := ⟨_, rfl⟩
    have hR6 : Bx w6 w2.heap.size (.int .u64 ((lo s : Nat) : Int)) (.string (hs s)) := by rw [← hw6]; exact put2 hR5 _ _
    have hb6 : Below (w.heap.size + 2) w5 w6 := by rw [← hw6]; exact ((Below.refl _ _).setCell hK _).setCell hK _
    have H6 := H5.belowN hb6
    have hB6 := hB5.trans (hb6.mono (by omega))
    have hs6 : w2.heap.size < w6.heap.size := Nat.lt_of_lt_of_le hs5 hb6.size
    have hbt := pow_bit n k
    have hph := pow_half a n k
    rw [hkL] at HP
    have HK := Lib.hid hk
    clear hk
    rw [← HP.out, ← HS.out] at hph
    clear H5 hB5 hR5 hs5 hb5 hb6
    have hbt2 : n / 2 ^ k % 2 = 0 ∨ n / 2 ^ k % 2 = 1 := by generalize n / 2 ^ k = x; omega
    have hlf := pow_len (a := a) (k := n / 2 ^ k) (Nat.div_le_self n _) HG.out
    rcases hbt2 with hz | hz
    ·rw [hz] at hbt hph
     rw [Nat.pow_zero, Nat.mul_one] at hph
     have HH := Lib.hid hph
     have hbt' : bits BinOp.and IntKind.i64 ((n : Int) / 2 ^ k) 1 = 0 := hbt
     clear hph hz hlf hbt hkL
     go_wp2_with fail
     go_roundw
     case rel => exact ⟨i + 1, hiL, rfl, by rw [hkL', HH.out]; exact hR6, hs6, H6, hB6⟩
     case measure => simp [intOf]; omega
    ·rw [hz] at hbt hph
     rw [Nat.pow_one] at hph
     have hbt' : bits BinOp.and IntKind.i64 ((n : Int) / 2 ^ k) 1 = 1 := hbt
     have hls : (digs s).length ≤ 8200 := by
      have h1 := digs_mul_le hlp hlp
      rw [← HS.out] at h1; omega
     have HM2 := Lib.hid (fun w => mul_any s a (by omega) (by omega) w)
     rw [← hph] at HM2
     obtain ⟨q, hq⟩ : ∃ q, q = a ^ (n / 2 ^ k) := ⟨_, rfl⟩
     rw [← hq] at HM2
     have HQ := Lib.hid hq
     clear hph hz hlf hbt hkL hq hls
     obtain ⟨r0, r1, rf⟩ := id hR6
     obtain ⟨⟨a0, a1, af⟩, -⟩ := id H6
     go_wp2_with fail
     refine (HM2.out _).mono ?_
     rintro e w7 ⟨rfl, hb7⟩
     have H7 := H6.below hb7
     have hB7 := H6.step hB6 hb7
     have hR7 := hR6.below hb7 hs6
     have hs7 : w2.heap.size < w7.heap.size := Nat.lt_of_lt_of_le hs6 hb7.size
     have hR8 := put2 hR7 (.int .u64 ((lo q : Nat) : Int)) (.string (hs q))
     have hb8 : Below (w.heap.size + 2) w7 ((w7.setCell ⟨w2.heap.size, 0, none⟩ (.int .u64 ((lo q : Nat) : Int))).setCell ⟨w2.heap.size, 1, none⟩ (.string (hs q))) := ((Below.refl _ _).setCell hK _).setCell hK _
     have H8 := Lib.hid (H7.belowN hb8)
     have hB8 := Lib.hid (hB7.trans (hb8.mono (by omega)))
     have hs8 := Lib.hid (Nat.lt_of_lt_of_le hs7 hb8.size)
     obtain ⟨r0', r1', rf'⟩ := id hR7
     replace hR8 := Lib.hid hR8
     clear r0 r1 rf a0 a1 af hb8 hb7 H6 hB6 hR6 hs6 HM2 hR7 H7 hB7 hs7 hw6
     go_wp2_with fail
     go_roundw
     case rel => exact ⟨i + 1, hiL, rfl, by rw [hkL', ← HQ.out]; exact hR8.out, hs8.out, H8.out, hB8.out⟩
     case measure => simp [intOf]; omega
   ·have hpn : p = a ^ n := by rw [hp, hiL, Nat.sub_self, Nat.pow_zero, Nat.div_one]
    have HPN := Lib.hid hpn
    clear hp hpn
    obtain ⟨p0, p1, pf⟩ := id hP
    obtain ⟨-, ⟨c0, c1, cf⟩, -⟩ := id H4
    go_wp2_with fail
    exact bodyPost_ret (v := .tuple #[natV p, .int .i64 0]) (by simp [results, Tryz.results115, go_sem, c0, c1]) rfl ⟨by rw [HPN.out], (hB4.setCell (by simp <;> omega) _).setCell (by simp <;> omega) _⟩
end Go.Proofs.YtdmoadfnogdfnaaGreatDoor
namespace Go.Proofs.YtdmoadfnogdfnaaGreatDoor
open Go.Lib (decDigits nDigits)
theorem dec_ne_nil (n : Nat) : decDigits n ≠ [] := fun h => by have := dec_length_pos n; rw [h] at this; exact absurd this (by simp)
theorem dval_dec (n : Nat) : dval (decDigits n) = n := by
 induction n using Nat.strongRecOn with
 | _ n ih =>
  rcases Nat.lt_or_ge n 10 with h | h
  ·rw [dec_small h]
   show 0 * 10 + ((dch n).toNat - 48) = n
   rw [dch_toNat h]; omega
  ·rw [dec_big (by omega), dval_snoc, ih (n / 10) (by omega), dch_toNat (by omega)]; omega
theorem dec_isDig (n : Nat) : ∀ c ∈ decDigits n, isDig c := by
 induction n using Nat.strongRecOn with
 | _ n ih =>
  rcases Nat.lt_or_ge n 10 with h | h
  ·rw [dec_small h]
   intro c hc
   rw [List.mem_singleton.1 hc]
   unfold isDig; rw [dch_toNat h]; omega
  ·rw [dec_big (by omega)]
   intro c hc
   rcases List.mem_append.1 hc with hc | hc
   ·exact ih (n / 10) (by omega) c hc
   ·rw [List.mem_singleton.1 hc]
    unfold isDig; rw [dch_toNat (by omega)]; omega
theorem dec_isDec (n : Nat) : isDec (decDigits n) := by
 refine ⟨dec_isDig n, ?_⟩
 rcases Nat.eq_zero_or_pos n with h0 | h0
 ·left; rw [h0, dec_small (by omega)]; rfl
 ·right
  refine ⟨dec_ne_nil n, ?_⟩
  induction n using Nat.strongRecOn with
  | _ n ih =>
   rcases Nat.lt_or_ge n 10 with h | h
   ·rw [dec_small h]
    show some (dch n) ≠ some 48
    intro he
    have h1 := congrArg UInt8.toNat (Option.some.inj he)
    rw [dch_toNat h] at h1
    have h2 : (48 : UInt8).toNat = 48 := rfl
    omega
   ·rw [dec_big (by omega), head_snoc _ (dec_ne_nil _)]
    exact ih (n / 10) (by omega) (by omega)
end Go.Proofs.YtdmoadfnogdfnaaGreatDoor
namespace Go.Proofs.YtdmoadfnogdfnaaGreatDoor
open Go.RowKit
attribute [local irreducible] lo hs sm s64 c64 d64 b64 mh ml pd pc qd qc val hiB str cmpI srD lz nb isq decB
theorem NL.swap {w0 W : World} {L : List (Nat × Nat)} {x y : Nat × Nat} (h : NL w0 W (x :: y :: L)) : NL w0 W (y :: x :: L) := by
 refine ⟨h.bl, fun p hp => h.all p ?_, ?_⟩
 ·simp only [List.mem_cons] at hp ⊢
  rcases hp with h | h | h
  ·exact .inr (.inl h)
  ·exact .inl h
  ·exact .inr (.inr h)
 ·have := h.nd
  simp only [List.map_cons, List.nodup_cons, List.mem_cons, not_or] at this ⊢
  exact ⟨⟨fun e => this.1.1 e.symm, this.2.1⟩, this.1.2, this.2.2⟩
end Go.Proofs.YtdmoadfnogdfnaaGreatDoor
namespace Go.Proofs.YtdmoadfnogdfnaaGreatDoor
open Go.RowKit
attribute [local irreducible] lo hs sm s64 c64 d64 b64 mh ml pd pc qd qc val hiB str cmpI srD lz nb isq decB
theorem cls_callT {α : Type} {F : α → World} {w0 : World} (h1 : ∀ x, Below w0.heap.size w0 (F x)) (h2 : ∀ W, Below w0.heap.size w0 W → ∃ x, W = F x) (ht : Tab w0) {f : FuncId} {args : Array Value} {v : Value}
  (h : ∀ w, Tab w → Calls Tryz.prog f args w fun e w' => e = .returned v ∧ Below w.heap.size w w') (x : α) : Calls Tryz.prog f args (F x) fun e w'' => e = .returned v ∧ ∃ y, w'' = F y :=
 (h (F x) (ht.below (h1 x))).mono fun _ _ ⟨he, hb⟩ => ⟨he, h2 _ ((h1 x).trans (hb.mono (h1 x).size))⟩
end Go.Proofs.YtdmoadfnogdfnaaGreatDoor
namespace Go.Proofs.YtdmoadfnogdfnaaGreatDoor.Rx
open Go.RowKit
/-- What an append looks at. -/
theorem Sl.src {w : World} {v : Value} {l : List Nat} (h : Sl w v l) : (v = .slice none 0 0 ∧ l = []) ∨ ∃ ad c, v = .slice (some ad) l.length c ∧ ∀ (j : Nat) (u : Value), (l.map fun (d : Nat) => Value.int .i64 (d : Int))[j]? = some u → w.cell? (ad.add j) = some u := by
 rcases h with ⟨ao, c, rfl, rfl, hc⟩ | ⟨a, c, rfl, _, h3⟩
 ·cases ao with
  | none => exact .inl ⟨by rw [hc rfl], rfl⟩
  | some ad => exact .inr ⟨ad, c, rfl, fun j u hu => by simp at hu⟩
 ·refine .inr ⟨a, c, rfl, fun j u hu => ?_⟩
  rw [List.getElem?_map] at hu
  obtain ⟨x, hx, rfl⟩ := Option.map_eq_some_iff.1 hu
  obtain ⟨hjl, rfl⟩ := List.getElem?_eq_some_iff.1 hx
  exact h3.cell j hjl
end Go.Proofs.YtdmoadfnogdfnaaGreatDoor.Rx
namespace Go.Proofs.YtdmoadfnogdfnaaGreatDoor.Rx
open Go.RowKit
attribute [local irreducible] tv dg
end Go.Proofs.YtdmoadfnogdfnaaGreatDoor.Rx
namespace Go.Proofs.YtdmoadfnogdfnaaGreatDoor.Rx
open Go.RowKit
attribute [local irreducible] tv dg
end Go.Proofs.YtdmoadfnogdfnaaGreatDoor.Rx
namespace Go.Proofs.YtdmoadfnogdfnaaGreatDoor.Rx
open Go.RowKit
attribute [local irreducible] tv dg
end Go.Proofs.YtdmoadfnogdfnaaGreatDoor.Rx
namespace Go.Proofs.YtdmoadfnogdfnaaGreatDoor.Rx
open Go.RowKit
attribute [local irreducible] tv dg
section
variable {w w' : World} {g : Nat} {l : List Nat}
end
end Go.Proofs.YtdmoadfnogdfnaaGreatDoor.Rx
namespace Go.Proofs.YtdmoadfnogdfnaaGreatDoor
open Go.RowKit
attribute [local irreducible] lo hs sm s64 c64 d64 b64 mh ml pd pc qd qc val hiB str cmpI srD lz nb isq decB
set_option maxHeartbeats 4000000 in
set_option maxRecDepth 100000 in
theorem abs_any (s : Bool) (m : Nat) (w : World) :
  Calls Tryz.prog 40 #[zV s m] w fun e w' => e = .returned (natV m) ∧ Below w.heap.size w w' := by
 have hL0 : GL w w [] := GL.start w
 replace hL0 := ((hL0.new rfl [.int .u64 ((lo m : Nat) : Int), .string (hs m), .bool s] 39).new (K := w.heap.size + 1) (szA _ _) [.int .u64 0, .string ⟨#[]⟩] 32)
 generalize hweq : ((w.alloc (.cells #[.int .u64 ((lo m : Nat) : Int), .string (hs m), .bool s] 39)).alloc (.cells #[.int .u64 0, .string ⟨#[]⟩] 32)) = x1 at hL0
 go_enter Tryz.func40, Tryz.ntmps40
 have hA := hL0.fc
 simp only [fcG, cellsF, neK, and_true, ne_eq, Nat.zero_add, Nat.reduceAdd] at hA
 have hP := hL0.put 0 (w.heap.size + 1) _ rfl [.int .u64 ((lo m : Nat) : Int), .string (hs m)] rfl
 simp only [setAll, List.set_cons_zero, List.set_cons_succ] at hP
 generalize hput1 : ((x1.setCell ⟨w.heap.size + 1, 0, none⟩ (.int .u64 ((lo m : Nat) : Int))).setCell ⟨w.heap.size + 1, 1, none⟩ (.string (hs m))) = x2 at hP
 have hB1 := hP.fc
 simp only [fcG, cellsF, neK, and_true, ne_eq, Nat.zero_add, Nat.reduceAdd] at hB1
 replace hL0 := hP
 go_wp2_with fail
 exact bodyPost_ret (v := natV m) (by simp [results, Tryz.results40, go_sem, hB1]) rfl ⟨rfl, hL0.bl⟩
set_option maxHeartbeats 4000000 in
set_option maxRecDepth 100000 in
theorem neg_true (m : Nat) (w : World) :
  Calls Tryz.prog 34 #[zV true m] w fun e w' => e = .returned (zV false m) ∧ Below w.heap.size w w' := by
 have hL0 : GL w w [] := GL.start w
 have HF := Lib.hid (fun w => from_any false m w)
 simp only [Bool.false_and] at HF
 replace hL0 := ((hL0.new rfl [.int .u64 ((lo m : Nat) : Int), .string (hs m), .bool true] 39).new (K := w.heap.size + 1) (szA _ _) [.int .u64 0, .string ⟨#[]⟩, .bool false] 39)
 generalize hweq : ((w.alloc (.cells #[.int .u64 ((lo m : Nat) : Int), .string (hs m), .bool true] 39)).alloc (.cells #[.int .u64 0, .string ⟨#[]⟩, .bool false] 39)) = x1 at hL0
 go_enter Tryz.func34, Tryz.ntmps34
 have hA := hL0.fc
 simp only [fcG, cellsF, neK, and_true, ne_eq, Nat.zero_add, Nat.reduceAdd] at hA
 go_wp2_with fail
 clear hA
 with_reducible refine Calls.mono (HF.out _) ?_
 rintro e x2 ⟨rfl, hb⟩
 replace hL0 := hL0.call hb
 clear hb hweq
 have hA := hL0.fc
 simp only [fcG, cellsF, neK, and_true, ne_eq, Nat.zero_add, Nat.reduceAdd] at hA
 have hP := hL0.put 0 (w.heap.size + 1) _ rfl [.int .u64 ((lo m : Nat) : Int), .string (hs m), .bool false] rfl
 simp only [setAll, List.set_cons_zero, List.set_cons_succ] at hP
 generalize hput1 : (((x2.setCell ⟨w.heap.size + 1, 0, none⟩ (.int .u64 ((lo m : Nat) : Int))).setCell ⟨w.heap.size + 1, 1, none⟩ (.string (hs m))).setCell ⟨w.heap.size + 1, 2, none⟩ (.bool false)) = x3 at hP
 have hB1 := hP.fc
 simp only [fcG, cellsF, neK, and_true, ne_eq, Nat.zero_add, Nat.reduceAdd] at hB1
 replace hL0 := hP
 go_wp2_with fail
 exact bodyPost_ret (v := zV false m) (by simp [results, Tryz.results34, go_sem, hB1]) rfl ⟨rfl, hL0.bl⟩
set_option maxHeartbeats 4000000 in
set_option maxRecDepth 100000 in
theorem neg_false (m : Nat) (w : World) :
  Calls Tryz.prog 34 #[zV false m] w fun e w' => e = .returned (zV (decide (m ≠ 0)) m) ∧ Below w.heap.size w w' := by
 have hL0 : GL w w [] := GL.start w
 have HF := Lib.hid (fun w => from_any true m w)
 simp only [Bool.true_and] at HF
 obtain ⟨d, hd⟩ : ∃ d, d = decide (m ≠ 0) := ⟨_, rfl⟩
 rw [← hd] at HF ⊢
 clear hd
 replace hL0 := ((hL0.new rfl [.int .u64 ((lo m : Nat) : Int), .string (hs m), .bool false] 39).new (K := w.heap.size + 1) (szA _ _) [.int .u64 0, .string ⟨#[]⟩, .bool false] 39)
 generalize hweq : ((w.alloc (.cells #[.int .u64 ((lo m : Nat) : Int), .string (hs m), .bool false] 39)).alloc (.cells #[.int .u64 0, .string ⟨#[]⟩, .bool false] 39)) = x1 at hL0
 go_enter Tryz.func34, Tryz.ntmps34
 have hA := hL0.fc
 simp only [fcG, cellsF, neK, and_true, ne_eq, Nat.zero_add, Nat.reduceAdd] at hA
 go_wp2_with fail
 clear hA
 with_reducible refine Calls.mono (HF.out _) ?_
 rintro e x2 ⟨rfl, hb⟩
 replace hL0 := hL0.call hb
 clear hb hweq
 have hA := hL0.fc
 simp only [fcG, cellsF, neK, and_true, ne_eq, Nat.zero_add, Nat.reduceAdd] at hA
 have hP := hL0.put 0 (w.heap.size + 1) _ rfl [.int .u64 ((lo m : Nat) : Int), .string (hs m), .bool d] rfl
 simp only [setAll, List.set_cons_zero, List.set_cons_succ] at hP
 generalize hput1 : (((x2.setCell ⟨w.heap.size + 1, 0, none⟩ (.int .u64 ((lo m : Nat) : Int))).setCell ⟨w.heap.size + 1, 1, none⟩ (.string (hs m))).setCell ⟨w.heap.size + 1, 2, none⟩ (.bool d)) = x3 at hP
 have hB1 := hP.fc
 simp only [fcG, cellsF, neK, and_true, ne_eq, Nat.zero_add, Nat.reduceAdd] at hB1
 replace hL0 := hP
 go_wp2_with fail
 exact bodyPost_ret (v := zV d m) (by simp [results, Tryz.results34, go_sem, hB1]) rfl ⟨rfl, hL0.bl⟩
end Go.Proofs.YtdmoadfnogdfnaaGreatDoor
namespace Go.Proofs.YtdmoadfnogdfnaaGreatDoor
open Go.RowKit
attribute [local irreducible] lo hs sm s64 c64 d64 b64 mh ml pd pc qd qc val hiB str cmpI srD lz nb isq decB
set_option maxHeartbeats 4000000 in
set_option maxRecDepth 100000 in
theorem icmp_true_true (m n : Nat) (w : World) :
  Calls Tryz.prog 38 #[zV true m, zV true n] w fun e w' => e = .returned (.int .i64 (cmpI n m)) ∧ Below w.heap.size w w' := by
 have hL0 : GL w w [] := GL.start w
 replace hL0 := ((hL0.new rfl [.int .u64 ((lo m : Nat) : Int), .string (hs m), .bool true] 39).new (K := w.heap.size + 1) (szA _ _) [.int .u64 ((lo n : Nat) : Int), .string (hs n), .bool true] 39)
 generalize hweq : ((w.alloc (.cells #[.int .u64 ((lo m : Nat) : Int), .string (hs m), .bool true] 39)).alloc (.cells #[.int .u64 ((lo n : Nat) : Int), .string (hs n), .bool true] 39)) = x1 at hL0
 have HC := Lib.hid (fun w => cmp_any n m w)
 go_enter Tryz.func38, Tryz.ntmps38
 have hA := hL0.fc
 simp only [fcG, cellsF, neK, and_true, ne_eq, Nat.zero_add, Nat.reduceAdd] at hA
 go_wp2_with fail
 clear hA
 with_reducible refine Calls.mono (HC.out _) ?_
 rintro e x2 ⟨rfl, hb⟩
 replace hL0 := hL0.call hb
 clear hb hweq
 have hA := hL0.fc
 simp only [fcG, cellsF, neK, and_true, ne_eq, Nat.zero_add, Nat.reduceAdd] at hA
 go_wp2_with fail
 exact bodyPost_ret (v := .int .i64 (cmpI n m)) (by simp [results, Tryz.results38, go_sem, hA]) rfl ⟨rfl, hL0.bl⟩
set_option maxHeartbeats 4000000 in
set_option maxRecDepth 100000 in
theorem icmp_true_false (m n : Nat) (w : World) :
  Calls Tryz.prog 38 #[zV true m, zV false n] w fun e w' => e = .returned (.int .i64 (-1)) ∧ Below w.heap.size w w' := by
 have hL0 : GL w w [] := GL.start w
 replace hL0 := ((hL0.new rfl [.int .u64 ((lo m : Nat) : Int), .string (hs m), .bool true] 39).new (K := w.heap.size + 1) (szA _ _) [.int .u64 ((lo n : Nat) : Int), .string (hs n), .bool false] 39)
 generalize hweq : ((w.alloc (.cells #[.int .u64 ((lo m : Nat) : Int), .string (hs m), .bool true] 39)).alloc (.cells #[.int .u64 ((lo n : Nat) : Int), .string (hs n), .bool false] 39)) = x1 at hL0
 go_enter Tryz.func38, Tryz.ntmps38
 have hA := hL0.fc
 simp only [fcG, cellsF, neK, and_true, ne_eq, Nat.zero_add, Nat.reduceAdd] at hA
 go_wp2_with fail
 exact bodyPost_ret (v := .int .i64 (-1)) (by simp [results, Tryz.results38, go_sem, hA]) rfl ⟨rfl, hL0.bl⟩
set_option maxHeartbeats 4000000 in
set_option maxRecDepth 100000 in
theorem icmp_false_true (m n : Nat) (w : World) :
  Calls Tryz.prog 38 #[zV false m, zV true n] w fun e w' => e = .returned (.int .i64 (1)) ∧ Below w.heap.size w w' := by
 have hL0 : GL w w [] := GL.start w
 replace hL0 := ((hL0.new rfl [.int .u64 ((lo m : Nat) : Int), .string (hs m), .bool false] 39).new (K := w.heap.size + 1) (szA _ _) [.int .u64 ((lo n : Nat) : Int), .string (hs n), .bool true] 39)
 generalize hweq : ((w.alloc (.cells #[.int .u64 ((lo m : Nat) : Int), .string (hs m), .bool false] 39)).alloc (.cells #[.int .u64 ((lo n : Nat) : Int), .string (hs n), .bool true] 39)) = x1 at hL0
 go_enter Tryz.func38, Tryz.ntmps38
 have hA := hL0.fc
 simp only [fcG, cellsF, neK, and_true, ne_eq, Nat.zero_add, Nat.reduceAdd] at hA
 go_wp2_with fail
 exact bodyPost_ret (v := .int .i64 (1)) (by simp [results, Tryz.results38, go_sem, hA]) rfl ⟨rfl, hL0.bl⟩
set_option maxHeartbeats 4000000 in
set_option maxRecDepth 100000 in
theorem icmp_false_false (m n : Nat) (w : World) :
  Calls Tryz.prog 38 #[zV false m, zV false n] w fun e w' => e = .returned (.int .i64 (cmpI m n)) ∧ Below w.heap.size w w' := by
 have hL0 : GL w w [] := GL.start w
 replace hL0 := ((hL0.new rfl [.int .u64 ((lo m : Nat) : Int), .string (hs m), .bool false] 39).new (K := w.heap.size + 1) (szA _ _) [.int .u64 ((lo n : Nat) : Int), .string (hs n), .bool false] 39)
 generalize hweq : ((w.alloc (.cells #[.int .u64 ((lo m : Nat) : Int), .string (hs m), .bool false] 39)).alloc (.cells #[.int .u64 ((lo n : Nat) : Int), .string (hs n), .bool false] 39)) = x1 at hL0
 have HC := Lib.hid (fun w => cmp_any m n w)
 go_enter Tryz.func38, Tryz.ntmps38
 have hA := hL0.fc
 simp only [fcG, cellsF, neK, and_true, ne_eq, Nat.zero_add, Nat.reduceAdd] at hA
 go_wp2_with fail
 clear hA
 with_reducible refine Calls.mono (HC.out _) ?_
 rintro e x2 ⟨rfl, hb⟩
 replace hL0 := hL0.call hb
 clear hb hweq
 have hA := hL0.fc
 simp only [fcG, cellsF, neK, and_true, ne_eq, Nat.zero_add, Nat.reduceAdd] at hA
 go_wp2_with fail
 exact bodyPost_ret (v := .int .i64 (cmpI m n)) (by simp [results, Tryz.results38, go_sem, hA]) rfl ⟨rfl, hL0.bl⟩
end Go.Proofs.YtdmoadfnogdfnaaGreatDoor
namespace Go.Proofs.YtdmoadfnogdfnaaGreatDoor
open Go.RowKit
attribute [local irreducible] lo hs sm s64 c64 d64 b64 mh ml pd pc qd qc val hiB str cmpI srD lz nb isq decB
set_option maxHeartbeats 4000000 in
set_option maxRecDepth 100000 in
theorem byadd_true_true (m n k : Nat) (u : Bool) (H : ∀ w, Calls Tryz.prog 125 #[zV true m, natV n] w fun e w' => e = .returned (zV u k) ∧ Below w.heap.size w w') (w : World) :
  Calls Tryz.prog 124 #[zV true m, zV true n, .func (.func 125) #[] #[], .func (.func 126) #[] #[]] w fun e w' => e = .returned (zV u k) ∧ Below w.heap.size w w' := by
 have hL0 : GL w w [] := GL.start w
 replace H := Lib.hid H
 replace hL0 := (((hL0.new rfl [.int .u64 ((lo m : Nat) : Int), .string (hs m), .bool true] 39).new (K := w.heap.size + 1) (szA _ _) [.int .u64 ((lo n : Nat) : Int), .string (hs n), .bool true] 39).new (K := w.heap.size + 1 + 1) (by simp only [World.size_alloc]) [.int .u64 0, .string ⟨#[]⟩, .bool false] 39)
 generalize hweq : (((w.alloc (.cells #[.int .u64 ((lo m : Nat) : Int), .string (hs m), .bool true] 39)).alloc (.cells #[.int .u64 ((lo n : Nat) : Int), .string (hs n), .bool true] 39)).alloc (.cells #[.int .u64 0, .string ⟨#[]⟩, .bool false] 39)) = x1 at hL0
 go_enter Tryz.func124, Tryz.ntmps124
 have hA := hL0.fc
 simp only [fcG, cellsF, neK, and_true, ne_eq, Nat.zero_add, Nat.reduceAdd] at hA
 go_wp2_with fail
 clear hA
 with_reducible refine Calls.mono (H.out _) ?_
 rintro e x2 ⟨rfl, hb⟩
 replace hL0 := hL0.call hb
 clear hb hweq
 have hA := hL0.fc
 simp only [fcG, cellsF, neK, and_true, ne_eq, Nat.zero_add, Nat.reduceAdd] at hA
 have hP := hL0.put 0 (w.heap.size + 1 + 1) _ rfl [.int .u64 ((lo k : Nat) : Int), .string (hs k), .bool u] rfl
 simp only [setAll, List.set_cons_zero, List.set_cons_succ] at hP
 generalize hput1 : (((x2.setCell ⟨w.heap.size + 1 + 1, 0, none⟩ (.int .u64 ((lo k : Nat) : Int))).setCell ⟨w.heap.size + 1 + 1, 1, none⟩ (.string (hs k))).setCell ⟨w.heap.size + 1 + 1, 2, none⟩ (.bool u)) = x3 at hP
 have hB1 := hP.fc
 simp only [fcG, cellsF, neK, and_true, ne_eq, Nat.zero_add, Nat.reduceAdd] at hB1
 replace hL0 := hP
 go_wp2_with fail
 exact bodyPost_ret (v := zV u k) (by simp [results, Tryz.results124, go_sem, hB1]) rfl ⟨rfl, hL0.bl⟩
set_option maxHeartbeats 4000000 in
set_option maxRecDepth 100000 in
theorem byadd_true_false (m n k : Nat) (u : Bool) (H : ∀ w, Calls Tryz.prog 126 #[zV true m, natV n] w fun e w' => e = .returned (zV u k) ∧ Below w.heap.size w w') (w : World) :
  Calls Tryz.prog 124 #[zV true m, zV false n, .func (.func 125) #[] #[], .func (.func 126) #[] #[]] w fun e w' => e = .returned (zV u k) ∧ Below w.heap.size w w' := by
 have hL0 : GL w w [] := GL.start w
 replace H := Lib.hid H
 replace hL0 := (((hL0.new rfl [.int .u64 ((lo m : Nat) : Int), .string (hs m), .bool true] 39).new (K := w.heap.size + 1) (szA _ _) [.int .u64 ((lo n : Nat) : Int), .string (hs n), .bool false] 39).new (K := w.heap.size + 1 + 1) (by simp only [World.size_alloc]) [.int .u64 0, .string ⟨#[]⟩, .bool false] 39)
 generalize hweq : (((w.alloc (.cells #[.int .u64 ((lo m : Nat) : Int), .string (hs m), .bool true] 39)).alloc (.cells #[.int .u64 ((lo n : Nat) : Int), .string (hs n), .bool false] 39)).alloc (.cells #[.int .u64 0, .string ⟨#[]⟩, .bool false] 39)) = x1 at hL0
 go_enter Tryz.func124, Tryz.ntmps124
 have hA := hL0.fc
 simp only [fcG, cellsF, neK, and_true, ne_eq, Nat.zero_add, Nat.reduceAdd] at hA
 go_wp2_with fail
 clear hA
 with_reducible refine Calls.mono (H.out _) ?_
 rintro e x2 ⟨rfl, hb⟩
 replace hL0 := hL0.call hb
 clear hb hweq
 have hA := hL0.fc
 simp only [fcG, cellsF, neK, and_true, ne_eq, Nat.zero_add, Nat.reduceAdd] at hA
 have hP := hL0.put 0 (w.heap.size + 1 + 1) _ rfl [.int .u64 ((lo k : Nat) : Int), .string (hs k), .bool u] rfl
 simp only [setAll, List.set_cons_zero, List.set_cons_succ] at hP
 generalize hput1 : (((x2.setCell ⟨w.heap.size + 1 + 1, 0, none⟩ (.int .u64 ((lo k : Nat) : Int))).setCell ⟨w.heap.size + 1 + 1, 1, none⟩ (.string (hs k))).setCell ⟨w.heap.size + 1 + 1, 2, none⟩ (.bool u)) = x3 at hP
 have hB1 := hP.fc
 simp only [fcG, cellsF, neK, and_true, ne_eq, Nat.zero_add, Nat.reduceAdd] at hB1
 replace hL0 := hP
 go_wp2_with fail
 exact bodyPost_ret (v := zV u k) (by simp [results, Tryz.results124, go_sem, hB1]) rfl ⟨rfl, hL0.bl⟩
set_option maxHeartbeats 4000000 in
set_option maxRecDepth 100000 in
theorem byadd_false_true (m n k : Nat) (u : Bool) (H : ∀ w, Calls Tryz.prog 126 #[zV false m, natV n] w fun e w' => e = .returned (zV u k) ∧ Below w.heap.size w w') (w : World) :
  Calls Tryz.prog 124 #[zV false m, zV true n, .func (.func 125) #[] #[], .func (.func 126) #[] #[]] w fun e w' => e = .returned (zV u k) ∧ Below w.heap.size w w' := by
 have hL0 : GL w w [] := GL.start w
 replace H := Lib.hid H
 replace hL0 := (((hL0.new rfl [.int .u64 ((lo m : Nat) : Int), .string (hs m), .bool false] 39).new (K := w.heap.size + 1) (szA _ _) [.int .u64 ((lo n : Nat) : Int), .string (hs n), .bool true] 39).new (K := w.heap.size + 1 + 1) (by simp only [World.size_alloc]) [.int .u64 0, .string ⟨#[]⟩, .bool false] 39)
 generalize hweq : (((w.alloc (.cells #[.int .u64 ((lo m : Nat) : Int), .string (hs m), .bool false] 39)).alloc (.cells #[.int .u64 ((lo n : Nat) : Int), .string (hs n), .bool true] 39)).alloc (.cells #[.int .u64 0, .string ⟨#[]⟩, .bool false] 39)) = x1 at hL0
 go_enter Tryz.func124, Tryz.ntmps124
 have hA := hL0.fc
 simp only [fcG, cellsF, neK, and_true, ne_eq, Nat.zero_add, Nat.reduceAdd] at hA
 go_wp2_with fail
 clear hA
 with_reducible refine Calls.mono (H.out _) ?_
 rintro e x2 ⟨rfl, hb⟩
 replace hL0 := hL0.call hb
 clear hb hweq
 have hA := hL0.fc
 simp only [fcG, cellsF, neK, and_true, ne_eq, Nat.zero_add, Nat.reduceAdd] at hA
 have hP := hL0.put 0 (w.heap.size + 1 + 1) _ rfl [.int .u64 ((lo k : Nat) : Int), .string (hs k), .bool u] rfl
 simp only [setAll, List.set_cons_zero, List.set_cons_succ] at hP
 generalize hput1 : (((x2.setCell ⟨w.heap.size + 1 + 1, 0, none⟩ (.int .u64 ((lo k : Nat) : Int))).setCell ⟨w.heap.size + 1 + 1, 1, none⟩ (.string (hs k))).setCell ⟨w.heap.size + 1 + 1, 2, none⟩ (.bool u)) = x3 at hP
 have hB1 := hP.fc
 simp only [fcG, cellsF, neK, and_true, ne_eq, Nat.zero_add, Nat.reduceAdd] at hB1
 replace hL0 := hP
 go_wp2_with fail
 exact bodyPost_ret (v := zV u k) (by simp [results, Tryz.results124, go_sem, hB1]) rfl ⟨rfl, hL0.bl⟩
set_option maxHeartbeats 4000000 in
set_option maxRecDepth 100000 in
theorem byadd_false_false (m n k : Nat) (u : Bool) (H : ∀ w, Calls Tryz.prog 125 #[zV false m, natV n] w fun e w' => e = .returned (zV u k) ∧ Below w.heap.size w w') (w : World) :
  Calls Tryz.prog 124 #[zV false m, zV false n, .func (.func 125) #[] #[], .func (.func 126) #[] #[]] w fun e w' => e = .returned (zV u k) ∧ Below w.heap.size w w' := by
 have hL0 : GL w w [] := GL.start w
 replace H := Lib.hid H
 replace hL0 := (((hL0.new rfl [.int .u64 ((lo m : Nat) : Int), .string (hs m), .bool false] 39).new (K := w.heap.size + 1) (szA _ _) [.int .u64 ((lo n : Nat) : Int), .string (hs n), .bool false] 39).new (K := w.heap.size + 1 + 1) (by simp only [World.size_alloc]) [.int .u64 0, .string ⟨#[]⟩, .bool false] 39)
 generalize hweq : (((w.alloc (.cells #[.int .u64 ((lo m : Nat) : Int), .string (hs m), .bool false] 39)).alloc (.cells #[.int .u64 ((lo n : Nat) : Int), .string (hs n), .bool false] 39)).alloc (.cells #[.int .u64 0, .string ⟨#[]⟩, .bool false] 39)) = x1 at hL0
 go_enter Tryz.func124, Tryz.ntmps124
 have hA := hL0.fc
 simp only [fcG, cellsF, neK, and_true, ne_eq, Nat.zero_add, Nat.reduceAdd] at hA
 go_wp2_with fail
 clear hA
 with_reducible refine Calls.mono (H.out _) ?_
 rintro e x2 ⟨rfl, hb⟩
 replace hL0 := hL0.call hb
 clear hb hweq
 have hA := hL0.fc
 simp only [fcG, cellsF, neK, and_true, ne_eq, Nat.zero_add, Nat.reduceAdd] at hA
 have hP := hL0.put 0 (w.heap.size + 1 + 1) _ rfl [.int .u64 ((lo k : Nat) : Int), .string (hs k), .bool u] rfl
 simp only [setAll, List.set_cons_zero, List.set_cons_succ] at hP
 generalize hput1 : (((x2.setCell ⟨w.heap.size + 1 + 1, 0, none⟩ (.int .u64 ((lo k : Nat) : Int))).setCell ⟨w.heap.size + 1 + 1, 1, none⟩ (.string (hs k))).setCell ⟨w.heap.size + 1 + 1, 2, none⟩ (.bool u)) = x3 at hP
 have hB1 := hP.fc
 simp only [fcG, cellsF, neK, and_true, ne_eq, Nat.zero_add, Nat.reduceAdd] at hB1
 replace hL0 := hP
 go_wp2_with fail
 exact bodyPost_ret (v := zV u k) (by simp [results, Tryz.results124, go_sem, hB1]) rfl ⟨rfl, hL0.bl⟩
set_option maxHeartbeats 4000000 in
set_option maxRecDepth 100000 in
theorem iadd (s t u : Bool) (m n k : Nat) (H : ∀ w, Calls Tryz.prog 124 #[zV s m, zV t n, .func (.func 125) #[] #[], .func (.func 126) #[] #[]] w fun e w' => e = .returned (zV u k) ∧ Below w.heap.size w w') (w : World) :
  Calls Tryz.prog 28 #[zV s m, zV t n] w fun e w' => e = .returned (zV u k) ∧ Below w.heap.size w w' := by
 have hL0 : GL w w [] := GL.start w
 replace H := Lib.hid H
 replace hL0 := (((hL0.new rfl [.int .u64 ((lo m : Nat) : Int), .string (hs m), .bool s] 39).new (K := w.heap.size + 1) (szA _ _) [.int .u64 ((lo n : Nat) : Int), .string (hs n), .bool t] 39).new (K := w.heap.size + 1 + 1) (by simp only [World.size_alloc]) [.int .u64 0, .string ⟨#[]⟩, .bool false] 39)
 generalize hweq : (((w.alloc (.cells #[.int .u64 ((lo m : Nat) : Int), .string (hs m), .bool s] 39)).alloc (.cells #[.int .u64 ((lo n : Nat) : Int), .string (hs n), .bool t] 39)).alloc (.cells #[.int .u64 0, .string ⟨#[]⟩, .bool false] 39)) = x1 at hL0
 go_enter Tryz.func28, Tryz.ntmps28
 have hA := hL0.fc
 simp only [fcG, cellsF, neK, and_true, ne_eq, Nat.zero_add, Nat.reduceAdd] at hA
 go_wp2_with fail
 clear hA
 with_reducible refine Calls.mono (H.out _) ?_
 rintro e x2 ⟨rfl, hb⟩
 replace hL0 := hL0.call hb
 clear hb hweq
 have hA := hL0.fc
 simp only [fcG, cellsF, neK, and_true, ne_eq, Nat.zero_add, Nat.reduceAdd] at hA
 have hP := hL0.put 0 (w.heap.size + 1 + 1) _ rfl [.int .u64 ((lo k : Nat) : Int), .string (hs k), .bool u] rfl
 simp only [setAll, List.set_cons_zero, List.set_cons_succ] at hP
 generalize hput1 : (((x2.setCell ⟨w.heap.size + 1 + 1, 0, none⟩ (.int .u64 ((lo k : Nat) : Int))).setCell ⟨w.heap.size + 1 + 1, 1, none⟩ (.string (hs k))).setCell ⟨w.heap.size + 1 + 1, 2, none⟩ (.bool u)) = x3 at hP
 have hB1 := hP.fc
 simp only [fcG, cellsF, neK, and_true, ne_eq, Nat.zero_add, Nat.reduceAdd] at hB1
 replace hL0 := hP
 go_wp2_with fail
 exact bodyPost_ret (v := zV u k) (by simp [results, Tryz.results28, go_sem, hB1]) rfl ⟨rfl, hL0.bl⟩
end Go.Proofs.YtdmoadfnogdfnaaGreatDoor
namespace Go.Proofs.YtdmoadfnogdfnaaGreatDoor
open Go.RowKit
attribute [local irreducible] lo hs sm s64 c64 d64 b64 mh ml pd pc qd qc val hiB str cmpI srD lz nb isq decB
end Go.Proofs.YtdmoadfnogdfnaaGreatDoor
namespace Go.Proofs.YtdmoadfnogdfnaaGreatDoor
open Go.RowKit
attribute [local irreducible] lo hs
theorem absI (z : Int) (w : World) : Calls Tryz.prog 40 #[intV z] w fun e w' => e = .returned (natV z.natAbs) ∧ Below w.heap.size w w' := abs_any _ _ w
theorem negI (z : Int) (w : World) : Calls Tryz.prog 34 #[intV z] w fun e w' => e = .returned (intV (-z)) ∧ Below w.heap.size w w' := by
 rcases int_cases z with ⟨m, rfl, h⟩ | ⟨m, h0, rfl, h⟩ <;> rw [h]
 ·rw [res_m (z := -(m : Int)) rfl]; exact neg_false m w
 ·rw [res_f (z := -(-(m : Int))) (k := m) (by omega)]; exact neg_true m w
def cmpZ (x y : Int) : Int := if x < y then -1 else if x = y then 0 else 1
theorem cmpII (x y : Int) (w : World) : Calls Tryz.prog 38 #[intV x, intV y] w fun e w' => e = .returned (.int .i64 (cmpZ x y)) ∧ Below w.heap.size w w' := by
 rcases int_cases x with ⟨m, rfl, hx⟩ | ⟨m, hm, rfl, hx⟩ <;> rcases int_cases y with ⟨n, rfl, hy⟩ | ⟨n, hn, rfl, hy⟩ <;> rw [hx, hy]
 ·rw [show cmpZ (m : Int) (n : Int) = cmpI m n by unfold cmpZ cmpI; split <;> split <;> (try split) <;> (try split) <;> omega]; exact icmp_false_false m n w
 ·rw [show cmpZ (m : Int) (-(n : Int)) = 1 by unfold cmpZ; rw [if_neg (by omega), if_neg (by omega)]]; exact icmp_false_true m n w
 ·rw [show cmpZ (-(m : Int)) (n : Int) = -1 by unfold cmpZ; rw [if_pos (by omega)]]; exact icmp_true_false m n w
 ·rw [show cmpZ (-(m : Int)) (-(n : Int)) = cmpI n m by unfold cmpZ cmpI; split <;> split <;> (try split) <;> (try split) <;> omega]; exact icmp_true_true m n w
theorem addI (x y : Int) (hx : dI x ≤ 1000000000) (hy : dI y ≤ 1000000000) (w : World) : Calls Tryz.prog 28 #[intV x, intV y] w fun e w' => e = .returned (intV (x + y)) ∧ Below w.heap.size w w' := by
 rcases int_cases x with ⟨m, rfl, ex⟩ | ⟨m, hm, rfl, ex⟩ <;> rcases int_cases y with ⟨n, rfl, ey⟩ | ⟨n, hn, rfl, ey⟩ <;> rw [ex, ey] <;> simp only [dI_neg, dI_nat] at hx hy
 ·rw [res_f (k := m + n) (by omega)]; exact iadd _ _ _ m n _ (byadd_false_false m n _ _ (out_false m n hx hy)) w
 ·rcases Nat.lt_or_ge m n with h | h
  ·rw [res_m (k := n - m) (by omega)]; exact iadd _ _ _ m n _ (byadd_false_true m n _ _ (in_false_lt m n h hx hy)) w
  ·rw [res_f (k := m - n) (by omega)]; exact iadd _ _ _ m n _ (byadd_false_true m n _ _ (in_false_ge m n h hx hy)) w
 ·rcases Nat.lt_or_ge m n with h | h
  ·rw [res_f (k := n - m) (by omega)]; exact iadd _ _ _ m n _ (byadd_true_false m n _ _ (in_true_lt m n h hx hy)) w
  ·rw [res_m (k := m - n) (by omega)]; exact iadd _ _ _ m n _ (byadd_true_false m n _ _ (in_true_ge m n h hx hy)) w
 ·rw [res_m (k := m + n) (by omega)]; exact iadd _ _ _ m n _ (byadd_true_true m n _ _ (out_true m n hx hy)) w
end Go.Proofs.YtdmoadfnogdfnaaGreatDoor
namespace Go.Proofs.YtdmoadfnogdfnaaGreatDoor
open Go.RowKit
attribute [local irreducible] lo hs
end Go.Proofs.YtdmoadfnogdfnaaGreatDoor
namespace Go.Proofs.YtdmoadfnogdfnaaGreatDoor
open Go.RowKit
theorem rmul_parts (a b : Rat) : (a * b).num = a.num.tdiv (Nat.gcd a.num.natAbs b.den : Nat) * b.num.tdiv (Nat.gcd b.num.natAbs a.den : Nat) ∧
  (a * b).den = b.den / Nat.gcd a.num.natAbs b.den * (a.den / Nat.gcd b.num.natAbs a.den) := by
 have h : a * b = Rat.mul a b := rfl
 rw [h]; unfold Rat.mul
 simp only [Int.divExact_eq_tdiv]
 exact ⟨trivial, Nat.mul_comm _ _⟩
theorem rinv_parts {a : Rat} (h : a ≠ 0) : (a⁻¹).num = (if a.num < 0 then -(a.den : Int) else (a.den : Int)) ∧ (a⁻¹).den = a.num.natAbs := by
 have h0 : a.num ≠ 0 := fun e => h (Rat.num_eq_zero.1 e)
 rw [Rat.num_inv, Rat.den_inv, if_neg h0]
 refine ⟨?_, rfl⟩
 split
 ·rename_i h1; rw [Int.sign_eq_neg_one_of_neg h1]; omega
 ·rw [Int.sign_eq_one_of_pos (by omega)]; omega
theorem radd_parts (a b : Rat) :
  (a + b).num = (a.num * ((b.den / Nat.gcd a.den b.den : Nat) : Int) + b.num * ((a.den / Nat.gcd a.den b.den : Nat) : Int)).tdiv (Nat.gcd (a.num * ((b.den / Nat.gcd a.den b.den : Nat) : Int) + b.num * ((a.den / Nat.gcd a.den b.den : Nat) : Int)).natAbs (Nat.gcd a.den b.den) : Nat) ∧
  (a + b).den = a.den / Nat.gcd a.den b.den * (b.den / Nat.gcd a.den b.den) * (Nat.gcd a.den b.den / Nat.gcd (a.num * ((b.den / Nat.gcd a.den b.den : Nat) : Int) + b.num * ((a.den / Nat.gcd a.den b.den : Nat) : Int)).natAbs (Nat.gcd a.den b.den)) := by
 have h : a + b = Rat.add a b := rfl
 rw [h]; unfold Rat.add
 by_cases hg : a.den.gcd b.den = 1
 ·simp only [hg, dif_pos]
  simp
 ·simp only [hg, dif_neg, not_false_eq_true, Rat.maybeNormalize_eq]
  refine ⟨Int.divExact_eq_tdiv .., ?_⟩
  generalize hx : a.num * ((b.den / Nat.gcd a.den b.den : Nat) : Int) + b.num * ((a.den / Nat.gcd a.den b.den : Nat) : Int) = x
  have e1 : b.den = b.den / Nat.gcd a.den b.den * Nat.gcd a.den b.den := (Nat.div_mul_cancel (Nat.gcd_dvd_right _ _)).symm
  generalize hg' : Nat.gcd a.den b.den = g at *
  generalize hq : b.den / g = q at *
  rw [e1, ← Nat.mul_assoc, Nat.mul_div_assoc _ (Nat.gcd_dvd_right _ _)]
def cmpQ (a b : Rat) : Int := if a < b then -1 else if a = b then 0 else 1
theorem cmpQ_parts (a b : Rat) : cmpQ a b = if a.num * b.den < b.num * a.den then -1 else if a.num * b.den = b.num * a.den then 0 else 1 := by
 unfold cmpQ
 have h1 := Rat.lt_iff a b
 have h2 := @Rat.eq_iff_mul_eq_mul a b
 by_cases h : a < b
 ·rw [if_pos h, if_pos (h1.1 h)]
 ·rw [if_neg h, if_neg (fun e => h (h1.2 e))]
  by_cases h' : a = b
  ·rw [if_pos h', if_pos (h2.1 h')]
  ·rw [if_neg h', if_neg (fun e => h' (h2.2 e))]
theorem rfloor (a : Rat) : a.floor = a.num / (a.den : Int) := Rat.floor_def a
def rceil (a : Rat) : Int := -(-a).floor
def sgnQ (a : Rat) : Int := if a < 0 then -1 else if a = 0 then 0 else 1
theorem sgnQ_num (a : Rat) : sgnQ a = if a.num < 0 then -1 else if a.num = 0 then 0 else 1 := by
 unfold sgnQ
 have h1 : a < 0 ↔ a.num < 0 := by rw [← Rat.not_le, ← Rat.num_nonneg]; omega
 have h2 : a = 0 ↔ a.num = 0 := Rat.num_eq_zero.symm
 simp only [h1, h2]
theorem num_le_mul (a b : Rat) : (a * b).num.natAbs ≤ (a.num * b.num).natAbs := by
 rw [Rat.num_mul]; exact Int.natAbs_ediv_le_natAbs _ _
theorem den_le_mul (a b : Rat) : (a * b).den ≤ a.den * b.den := by
 rw [Rat.den_mul]; exact Nat.div_le_self _ _
theorem fe_one {q : Rat} (h : q.den = 1) : fe q = 0 := if_pos h
theorem fe_ne {q : Rat} (h : q.den ≠ 1) : fe q = q.den := if_neg h
/-- A fraction: its numerator, and its denominator as it is kept. -/
abbrev frV (n : Int) (e : Nat) : Value := .agg #[.int .u64 ((zl n : Nat) : Int), .string (zh n), .bool (zs n), .int .u64 ((lo e : Nat) : Int), .string (hs e)]
abbrev fracV (q : Rat) : Value := frV q.num (fe q)
/-- What == sees of two naturals that differ. -/
theorem ne_nat {a b : Nat} (h : a ≠ b) : (((lo a : Nat) : Int) == ((lo b : Nat) : Int)) = false ∨ ((((lo a : Nat) : Int) == ((lo b : Nat) : Int)) = true ∧ ((hs a).toList == (hs b).toList) = false) := by
 by_cases h1 : lo a = lo b
 ·right
  refine ⟨by rw [h1]; exact beq_self_eq_true _, beq_eq_false_iff_ne.2 fun h3 => h ?_⟩
  rw [hs_toList, hs_toList] at h3
  have h4 := hiB_inj h3
  have h5 := divmod a
  have h6 := divmod b
  rw [h4, h1, ← h6] at h5
  exact h5
 ·left
  exact beq_eq_false_iff_ne.2 fun h2 => h1 (by omega)
theorem Sz.mul {p q : Rat} {k m : Nat} (hp : Sz p k) (hq : Sz q m) : Sz (p * q) (k + m) :=
 ⟨Nat.le_trans (dI_mono (num_le_mul p q)) (dI_mul hp.1 hq.1), Nat.le_trans (digs_mono (den_le_mul p q)) (digs_mul_le hp.2 hq.2)⟩
theorem Sz.inv {q : Rat} {k : Nat} (h : Sz q k) (h0 : q ≠ 0) : Sz q⁻¹ k := by
 obtain ⟨h1, h2⟩ := rinv_parts h0
 refine ⟨?_, by rw [h2]; exact h.1⟩
 rw [h1]
 split
 ·rw [dI_neg, dI_nat]; exact h.2
 ·rw [dI_nat]; exact h.2
theorem new_natc (w : World) : (Instr.alloc 32 true (.tuple #[])).run Tryz.prog w = .ok (.pointer (some ⟨w.heap.size, 0, none⟩)) (w.alloc (.cells #[.int .u64 0, .string ⟨#[]⟩] 32)) := by
 simp [go_sem, Instr.alloc]
theorem put_natc (i0 i : Int) (s0 s : ByteArray) (w : World) (k : Nat) (h : Hd w k [.int .u64 i0, .string s0]) :
  ∃ w', (Instr.storeAt 32 (.pointer (some ⟨k, 0, none⟩)) (.agg #[.int .u64 i, .string s])).run Tryz.prog w = .ok () w' ∧ Hd w' k [.int .u64 i, .string s] ∧ Upd k w w' := by
 have h0 : w.cell? ⟨k, 0, none⟩ = some (.int .u64 i0) := h.cell 0 (by simp)
 have h1 : w.cell? ⟨k, 1, none⟩ = some (.string s0) := h.cell 1 (by simp)
 have hf := h.frz
 refine ⟨_, ?_, setAll_hd [.int .u64 i, .string s] 0 w k [] [.int .u64 i0, .string s0] rfl rfl h, (((Upd.refl k w).setCell 0 _).setCell 1 _)⟩
 simp [go_sem, Instr.storeAt, Instr.sureAddr, h0, h1, hf, setAll]
theorem new_frac (w : World) : (Instr.alloc 79 true (.tuple #[])).run Tryz.prog w = .ok (.pointer (some ⟨w.heap.size, 0, none⟩)) (w.alloc (.cells #[.int .u64 0, .string ⟨#[]⟩, .bool false, .int .u64 0, .string ⟨#[]⟩] 79)) := by
 simp [go_sem, Instr.alloc]
theorem put_frac (i0 i : Int) (s0 s : ByteArray) (b0 b : Bool) (j0 j : Int) (t0 t : ByteArray) (w : World) (k : Nat) (h : Hd w k [.int .u64 i0, .string s0, .bool b0, .int .u64 j0, .string t0]) :
  ∃ w', (Instr.storeAt 79 (.pointer (some ⟨k, 0, none⟩)) (.agg #[.int .u64 i, .string s, .bool b, .int .u64 j, .string t])).run Tryz.prog w = .ok () w' ∧ Hd w' k [.int .u64 i, .string s, .bool b, .int .u64 j, .string t] ∧ Upd k w w' := by
 have h0 : w.cell? ⟨k, 0, none⟩ = some (.int .u64 i0) := h.cell 0 (by simp)
 have h1 : w.cell? ⟨k, 1, none⟩ = some (.string s0) := h.cell 1 (by simp)
 have h2 : w.cell? ⟨k, 2, none⟩ = some (.bool b0) := h.cell 2 (by simp)
 have h3 : w.cell? ⟨k, 3, none⟩ = some (.int .u64 j0) := h.cell 3 (by simp)
 have h4 : w.cell? ⟨k, 4, none⟩ = some (.string t0) := h.cell 4 (by simp)
 have hf := h.frz
 refine ⟨_, ?_, setAll_hd [.int .u64 i, .string s, .bool b, .int .u64 j, .string t] 0 w k [] [.int .u64 i0, .string s0, .bool b0, .int .u64 j0, .string t0] rfl rfl h, ((((((Upd.refl k w).setCell 0 _).setCell 1 _).setCell 2 _).setCell 3 _).setCell 4 _)⟩
 simp [go_sem, Instr.storeAt, Instr.sureAddr, h0, h1, h2, h3, h4, hf, setAll]
end Go.Proofs.YtdmoadfnogdfnaaGreatDoor
namespace Go.Proofs.YtdmoadfnogdfnaaGreatDoor
open Go.RowKit Go.Proofs.YtdmoadfnogdfnaaGreatDoor.Rx
attribute [local irreducible] lo hs sm s64 c64 d64 b64 mh ml pd pc qd qc val hiB str cmpI srD lz nb isq decB zl zh zs dval tln fd
theorem rf_form {w : World} {v : Value} {q : Rat} (h : RF w v q) : ∃ a c b d, v = .agg #[.bool (zs q.num), .slice a (tln q.num.natAbs) c, .slice b (tln (fd q)) d] := by
 obtain ⟨s, t, rfl, h2, h3⟩ := h
 obtain ⟨a, c, rfl⟩ := rn_form h2
 obtain ⟨b, d, rfl⟩ := rn_form h3
 exact ⟨a, c, b, d, rfl⟩
theorem rf_rn1 {w : World} {x s t : Value} {q : Rat} (h : RF w (.agg #[x, s, t]) q) : Rn w s q.num.natAbs := by
 obtain ⟨a, b, e, h2, h3⟩ := h
 simp only [Value.agg.injEq, Array.mk.injEq, List.cons.injEq, and_true] at e
 rw [e.2.1]; exact h2
theorem rf_rn2 {w : World} {x s t : Value} {q : Rat} (h : RF w (.agg #[x, s, t]) q) : Rn w t (fd q) := by
 obtain ⟨a, b, e, h2, h3⟩ := h
 simp only [Value.agg.injEq, Array.mk.injEq, List.cons.injEq, and_true] at e
 rw [e.2.2]; exact h3
theorem rf_of {w : World} {s t : Value} {q : Rat} (h1 : Rn w s q.num.natAbs) (h2 : Rn w t (fd q)) : RF w (.agg #[.bool (zs q.num), s, t]) q := ⟨s, t, rfl, h1, h2⟩
set_option maxHeartbeats 4000000 in
set_option maxRecDepth 100000 in
theorem rone_w  (HO : ∀ (w : World), Calls Tryz.prog 152 #[.int .u64 1] w fun e w' => ∃ pv, e = .returned pv ∧ Rn w' pv 1 ∧ Below w.heap.size w w') (w : World) :
  Calls Tryz.prog 153 #[] w fun e w' => ∃ pv, e = .returned pv ∧ Rn w' pv 1 ∧ Below w.heap.size w w' := by
 replace HO := Lib.hid HO
 have hL0 : GL w w [] := GL.start w
 have hS : SS w [] := SS.nil w
 go_enter Tryz.func153, Tryz.ntmps153
 go_wp2_with fail
 with_reducible refine Calls.mono (HO.out _) ?_
 rintro e x1 ⟨v0, rfl, q0, hb⟩
 replace hL0 := hL0.call hb
 replace hS := hS.call hb
 clear hb
 obtain ⟨g1, d1, rfl⟩ := rn_form q0
 replace hS := hS.cons q0
 clear q0
 go_wp2_with fail
 exact bodyPost_ret (v := .slice g1 (tln 1) d1) (by simp [results, Tryz.results153, go_sem]) rfl ⟨_, rfl, (hS.get List.mem_cons_self), hL0.bl⟩
set_option maxHeartbeats 4000000 in
set_option maxRecDepth 100000 in
theorem rfden_w (q : Rat) (m : Nat) (H1 : ∀ (w : World), Calls Tryz.prog 153 #[] w fun e w' => ∃ pv, e = .returned pv ∧ Rn w' pv 1 ∧ Below w.heap.size w w') (HA : ∀ (p0 p1 : Value) (w : World), Rn w p0 (fd q) → Rn w p1 1 → Calls Tryz.prog 103 #[p0, p1] w fun e w' => ∃ pv, e = .returned pv ∧ Rn w' pv m ∧ Below w.heap.size w w') (p0 : Value) (w : World) (r0 : RF w p0 q) :
  Calls Tryz.prog 85 #[p0] w fun e w' => ∃ pv, e = .returned pv ∧ Rn w' pv m ∧ Below w.heap.size w w' := by
 obtain ⟨xa0, xc0, xb0, xd0, rfl⟩ := rf_form r0
 have xf0 := Lib.hid (rf_rn1 r0)
 have xk0 := Lib.hid (rf_rn2 r0)
 clear r0
 replace H1 := Lib.hid H1
 replace HA := Lib.hid HA
 have hL0 : GL w w [] := GL.start w
 have hS : SS w [] := SS.nil w
 replace hS := (hS.new (.cells #[.bool (zs q.num), .slice xa0 (tln q.num.natAbs) xc0, .slice xb0 (tln (fd q)) xd0] 82))
 replace hL0 := (hL0.new rfl [.bool (zs q.num), .slice xa0 (tln q.num.natAbs) xc0, .slice xb0 (tln (fd q)) xd0] 82)
 generalize hweq : (w.alloc (.cells #[.bool (zs q.num), .slice xa0 (tln q.num.natAbs) xc0, .slice xb0 (tln (fd q)) xd0] 82)) = x1 at hL0 hS
 go_enter Tryz.func85, Tryz.ntmps85
 go_upto_region 1 with fail
 clear hweq
 refine region_tl 5 [EV (.pointer (some ⟨w.heap.size, 2, none⟩)), EV (.slice xb0 (tln (fd q)) xd0), PN 1, PN m, PN m] (by kernel_rfl) (by kernel_rfl) ?_ ?_ ?_
 ·exact stays_cons (stays_eq _) (stays_cons (stays_eq _) (stays_cons (stays_rn _) (stays_cons (stays_rn _) (stays_cons (stays_rn _) (stays_nil)))))
 ·simp only [List.take_succ_cons, List.take_zero, hopsR, and_true]
  refine ⟨?_, ?_, ?_, ?_, ?_⟩ <;> intro fv w1 hb1 hp
  all_goals (simp only [putsV, Act.put, List.setIfInBounds_toArray, List.set_cons_succ, List.set_cons_zero, Nat.zero_add, Nat.reduceAdd])
  ·refine tyAt_none rfl ?_
   simp [tyUpon, execOp, go_sem, Act.eval, Below.refl]
  ·have h0 : EV _ (fv 0) w1 := hp 0 (LC (by kernel_rfl))
   refine tyAt_none rfl ?_
   have hc := (hL0.call (below_drew hb1)).fc
   simp only [fcG, cellsF, neK, and_true, ne_eq, Nat.zero_add, Nat.reduceAdd] at hc
   simp [tyUpon, execOp, go_sem, Act.eval, hc, h0, Below.refl]
  ·refine tyAt_none rfl ?_
   refine ty_call (f := 153) (args := #[]) (by simp [execOp, go_sem, Act.eval]) ?_
   exact (H1.out w1).mono fun e w2 ⟨pv, h1, h2, h3⟩ => ⟨pv, h1, h2, h3⟩
  ·have h1 : EV _ (fv 1) w1 := hp 1 (LC (by kernel_rfl))
   have h2 : PN _ (fv 2) w1 := hp 2 (LC (by kernel_rfl))
   refine tyAt_none rfl ?_
   refine ty_call (f := 103) (args := #[.slice xb0 (tln (fd q)) xd0, fv 2]) (by simp [execOp, go_sem, Act.eval, h1]) ?_
   exact (HA.out (.slice xb0 (tln (fd q)) xd0) (fv 2) w1 (Sl.below (Sl.below xk0.out hL0.bl) (below_drew hb1)) h2).mono fun e w2 ⟨pv, h1, h2, h3⟩ => ⟨pv, h1, h2, h3⟩
  ·have h3 : PN _ (fv 3) w1 := hp 3 (LC (by kernel_rfl))
   refine tyAt_none rfl ?_
   simp [tyUpon, execOp, go_sem, Act.eval, Below.refl]
   exact h3
 ·intro fv x2 hb1 hv
  have e0 : fv 0 = _ := hv 0 (by omega)
  have e1 : fv 1 = _ := hv 1 (by omega)
  have q2 : Rn x2 (fv 2) 1 := hv 2 (by omega)
  obtain ⟨g1, d1, e2⟩ := rn_form q2
  rw [e2] at q2
  have q3 : Rn x2 (fv 3) m := hv 3 (by omega)
  obtain ⟨g2, d2, e3⟩ := rn_form q3
  rw [e3] at q3
  have q4 : Rn x2 (fv 4) m := hv 4 (by omega)
  obtain ⟨g3, d3, e4⟩ := rn_form q4
  rw [e4] at q4
  simp only [List.take_succ_cons, List.take_zero, putsV, Act.put, List.setIfInBounds_toArray, List.set_cons_succ, List.set_cons_zero, List.drop_succ_cons, List.drop_zero, Nat.zero_add, Nat.reduceAdd, e0, e1, e2, e3, e4]
  replace hL0 := hL0.call (below_drew hb1)
  replace hS := hS.call (below_drew hb1)
  replace hS := hS.cons q2
  replace hS := hS.cons q3
  replace hS := hS.cons q4
  clear e0 e1 e2 e3 e4 hb1 hv q2 q3 q4 fv
  go_wp2_with fail
  exact bodyPost_ret (v := .slice g3 (tln m) d3) (by simp [results, Tryz.results85, go_sem]) rfl ⟨_, rfl, (hS.get List.mem_cons_self), hL0.bl⟩
set_option maxHeartbeats 4000000 in
set_option maxRecDepth 100000 in
theorem rffrom_w (z : Int) (d g k r m t : Nat) (q : Rat) (HG : ∀ (p0 p1 : Value) (w : World), Rn w p0 z.natAbs → Rn w p1 d → Calls Tryz.prog 110 #[p0, p1] w fun e w' => ∃ pv, e = .returned pv ∧ Rn w' pv g ∧ Below w.heap.size w w') (HD : ∀ (p0 p1 : Value) (w : World), Rn w p0 z.natAbs → Rn w p1 g → Calls Tryz.prog 111 #[p0, p1] w fun e w' => ∃ v0 v1, e = .returned (.tuple #[v0, v1]) ∧ Rn w' v0 k ∧ Rn w' v1 r ∧ Below w.heap.size w w') (HE : ∀ (p0 p1 : Value) (w : World), Rn w p0 d → Rn w p1 g → Calls Tryz.prog 111 #[p0, p1] w fun e w' => ∃ v0 v1, e = .returned (.tuple #[v0, v1]) ∧ Rn w' v0 m ∧ Rn w' v1 t ∧ Below w.heap.size w w') (HF : ∀ (p1 : Value) (w : World), Rn w p1 k → Calls Tryz.prog 123 #[.bool (zs z), p1] w fun e w' => ∃ pv, e = .returned pv ∧ RZ w' pv q.num ∧ Below w.heap.size w w') (H1 : ∀ (w : World), Calls Tryz.prog 153 #[] w fun e w' => ∃ pv, e = .returned pv ∧ Rn w' pv 1 ∧ Below w.heap.size w w') (HB : ∀ (p0 p1 : Value) (w : World), Rn w p0 m → Rn w p1 1 → Calls Tryz.prog 105 #[p0, p1] w fun e w' => ∃ pv, e = .returned pv ∧ Rn w' pv (fd q) ∧ Below w.heap.size w w') (p0 : Value) (p1 : Value) (w : World) (r0 : RZ w p0 z) (r1 : Rn w p1 d) :
  Calls Tryz.prog 141 #[p0, p1] w fun e w' => ∃ pv, e = .returned pv ∧ RF w' pv q ∧ Below w.heap.size w w' := by
 obtain ⟨a0, c0, rfl⟩ := rz_form r0
 have f0 := Lib.hid (rz_rn r0)
 clear r0
 obtain ⟨a1, c1, rfl⟩ := rn_form r1
 have f1 := Lib.hid r1
 clear r1
 replace HG := Lib.hid HG
 replace HD := Lib.hid HD
 replace HE := Lib.hid HE
 replace HF := Lib.hid HF
 replace H1 := Lib.hid H1
 replace HB := Lib.hid HB
 have hL0 : GL w w [] := GL.start w
 have hS : SS w [] := SS.nil w
 replace hS := ((hS.new (.cells #[.bool (zs z), .slice a0 (tln z.natAbs) c0] 44)).new (.cells #[.bool false, .slice none 0 0, .slice none 0 0] 82))
 replace hL0 := ((hL0.new rfl [.bool (zs z), .slice a0 (tln z.natAbs) c0] 44).new (K := w.heap.size + 1) (szA _ _) [.bool false, .slice none 0 0, .slice none 0 0] 82)
 generalize hweq : ((w.alloc (.cells #[.bool (zs z), .slice a0 (tln z.natAbs) c0] 44)).alloc (.cells #[.bool false, .slice none 0 0, .slice none 0 0] 82)) = x1 at hL0 hS
 go_enter Tryz.func141, Tryz.ntmps141
 have hN0 := cells_of _ 0 [] rfl (hL0.get _ _ (List.mem_cons_of_mem _ List.mem_cons_self))
 simp only [cellsF, and_true, Nat.zero_add, Nat.reduceAdd] at hN0
 go_wp2_with fail
 clear hN0
 with_reducible refine Calls.mono (HG.out (.slice a0 (tln z.natAbs) c0) (.slice a1 (tln d) c1) _ (Sl.below f0.out hL0.bl) (Sl.below f1.out hL0.bl)) ?_
 rintro e x2 ⟨v0, rfl, q0, hb⟩
 replace hL0 := hL0.call hb
 replace hS := hS.call hb
 clear hb hweq
 obtain ⟨g1, d1, rfl⟩ := rn_form q0
 replace hS := hS.cons q0
 clear q0
 have hN0 := cells_of _ 0 [] rfl (hL0.get _ _ (List.mem_cons_of_mem _ List.mem_cons_self))
 simp only [cellsF, and_true, Nat.zero_add, Nat.reduceAdd] at hN0
 go_wp2_with fail
 clear hN0
 with_reducible refine Calls.mono (HD.out (.slice a0 (tln z.natAbs) c0) (.slice g1 (tln g) d1) _ (Sl.below f0.out hL0.bl) (hS.get List.mem_cons_self)) ?_
 rintro e x3 ⟨v0, v1, rfl, q0, q1, hb⟩
 replace hL0 := hL0.call hb
 replace hS := hS.call hb
 clear hb
 obtain ⟨g2, d2, rfl⟩ := rn_form q0
 replace hS := hS.cons q0
 clear q0
 obtain ⟨g3, d3, rfl⟩ := rn_form q1
 replace hS := hS.cons q1
 clear q1
 go_wp2_with fail
 with_reducible refine Calls.mono (HE.out (.slice a1 (tln d) c1) (.slice g1 (tln g) d1) _ (Sl.below f1.out hL0.bl) (hS.get (List.mem_cons_of_mem _ (List.mem_cons_of_mem _ List.mem_cons_self)))) ?_
 rintro e x4 ⟨v0, v1, rfl, q0, q1, hb⟩
 replace hL0 := hL0.call hb
 replace hS := hS.call hb
 clear hb
 obtain ⟨g4, d4, rfl⟩ := rn_form q0
 replace hS := hS.cons q0
 clear q0
 obtain ⟨g5, d5, rfl⟩ := rn_form q1
 replace hS := hS.cons q1
 clear q1
 have hN0 := cells_of _ 0 [] rfl (hL0.get _ _ (List.mem_cons_of_mem _ List.mem_cons_self))
 simp only [cellsF, and_true, Nat.zero_add, Nat.reduceAdd] at hN0
 go_wp2_with fail
 clear hN0
 with_reducible refine Calls.mono (HF.out (.slice g2 (tln k) d2) _ (hS.get (List.mem_cons_of_mem _ (List.mem_cons_of_mem _ (List.mem_cons_of_mem _ List.mem_cons_self))))) ?_
 rintro e x5 ⟨v0, rfl, q0, hb⟩
 replace hL0 := hL0.call hb
 replace hS := hS.call hb
 clear hb
 obtain ⟨g6, d6, rfl⟩ := rz_form q0
 replace hS := hS.cons (rz_rn q0)
 clear q0
 go_wp2_with fail
 with_reducible refine Calls.mono (H1.out _) ?_
 rintro e x6 ⟨v0, rfl, q0, hb⟩
 replace hL0 := hL0.call hb
 replace hS := hS.call hb
 clear hb
 obtain ⟨g7, d7, rfl⟩ := rn_form q0
 replace hS := hS.cons q0
 clear q0
 go_wp2_with fail
 with_reducible refine Calls.mono (HB.out (.slice g4 (tln m) d4) (.slice g7 (tln 1) d7) _ (hS.get (List.mem_cons_of_mem _ (List.mem_cons_of_mem _ (List.mem_cons_of_mem _ List.mem_cons_self)))) (hS.get List.mem_cons_self)) ?_
 rintro e x7 ⟨v0, rfl, q0, hb⟩
 replace hL0 := hL0.call hb
 replace hS := hS.call hb
 clear hb
 obtain ⟨g8, d8, rfl⟩ := rn_form q0
 replace hS := hS.cons q0
 clear q0
 have hS1 := hS.put ((((Upd.refl (w.heap.size + 1) x7).setCell 0 (.bool (zs q.num))).setCell 1 (.slice g6 (tln q.num.natAbs) d6)).setCell 2 (.slice g8 (tln (fd q)) d8)) (hL0.get _ _ List.mem_cons_self) (by intro v hv n; simp only [List.mem_cons, List.not_mem_nil, or_false] at hv; rcases hv with rfl | rfl | rfl <;> simp)
 have hA := hL0.fc
 simp only [fcG, cellsF, neK, and_true, ne_eq, Nat.zero_add, Nat.reduceAdd] at hA
 have hP := hL0.put 0 (w.heap.size + 1) _ rfl [.bool (zs q.num), .slice g6 (tln q.num.natAbs) d6, .slice g8 (tln (fd q)) d8] rfl
 simp only [setAll, List.set_cons_zero, List.set_cons_succ] at hP
 generalize hput1 : (((x7.setCell ⟨w.heap.size + 1, 0, none⟩ (.bool (zs q.num))).setCell ⟨w.heap.size + 1, 1, none⟩ (.slice g6 (tln q.num.natAbs) d6)).setCell ⟨w.heap.size + 1, 2, none⟩ (.slice g8 (tln (fd q)) d8)) = x8 at hP hS1
 have hB1 := hP.fc
 simp only [fcG, cellsF, neK, and_true, ne_eq, Nat.zero_add, Nat.reduceAdd] at hB1
 replace hL0 := hP
 replace hS := hS1
 clear hS1
 go_wp2_with fail
 exact bodyPost_ret (v := .agg #[.bool (zs q.num), .slice g6 (tln q.num.natAbs) d6, .slice g8 (tln (fd q)) d8]) (by simp [results, Tryz.results141, go_sem, hB1]) rfl ⟨_, rfl, (rf_of (hS.get (List.mem_cons_of_mem _ (List.mem_cons_of_mem _ List.mem_cons_self))) (hS.get List.mem_cons_self)), hL0.bl⟩
end Go.Proofs.YtdmoadfnogdfnaaGreatDoor
namespace Go.Proofs.YtdmoadfnogdfnaaGreatDoor
open Go.RowKit
attribute [local irreducible] lo hs sm s64 c64 d64 b64 mh ml pd pc qd qc val hiB str cmpI srD lz nb isq decB zl zh zs dval
set_option maxHeartbeats 4000000 in
set_option maxRecDepth 100000 in
theorem iparse_p_ok (l : List UInt8) (h : l.length ≤ 4096) (hd : isDec l) (hh : l.head? ≠ some 45) (w : World) :
  Calls Tryz.prog 121 #[.string (st l)] w fun e w' => e = .returned (.tuple #[intV (((dval l : Nat) : Int)), .int .i64 0]) ∧ Below w.heap.size w w' := by
 have hL0 : GL w w [] := GL.start w
 have HC := Lib.hid (fun w => cut_no l hh w)
 have HP := Lib.hid (fun w => parse_ok l h hd w)
 have HF := Lib.hid (fun w => fromI false (dval l) ((dval l : Nat) : Int) rfl w)
 generalize hzz : ((dval l : Nat) : Int) = z at *
 replace hzz := Lib.hid hzz
 generalize dval l = n at *
 clear h hd hh
 generalize st l = s at *
 replace hL0 := (hL0.new rfl [.int .u64 0, .string ⟨#[]⟩, .bool false] 39)
 generalize hweq : (w.alloc (.cells #[.int .u64 0, .string ⟨#[]⟩, .bool false] 39)) = x1 at hL0
 go_enter Tryz.func121, Tryz.ntmps121
 have hA := hL0.fc
 simp only [fcG, cellsF, neK, and_true, ne_eq, Nat.zero_add, Nat.reduceAdd] at hA
 go_wp2_with fail
 with_reducible refine Calls.mono (HC.out _) ?_
 rintro e x2 ⟨rfl, rfl⟩
 clear hweq
 go_wp2_with fail
 clear hA
 with_reducible refine Calls.mono (HP.out _) ?_
 rintro e x3 ⟨rfl, hb⟩
 replace hL0 := hL0.call hb
 clear hb
 replace hL0 := (hL0.new rfl [.int .u64 ((lo n : Nat) : Int), .string (hs n)] 32)
 generalize hweq : (x3.alloc (.cells #[.int .u64 ((lo n : Nat) : Int), .string (hs n)] 32)) = x4 at hL0
 have hA := hL0.fc
 simp only [fcG, cellsF, neK, and_true, ne_eq, Nat.zero_add, Nat.reduceAdd] at hA
 go_wp2_with fail
 clear hA
 with_reducible refine Calls.mono (HF.out _) ?_
 rintro e x5 ⟨rfl, hb⟩
 replace hL0 := hL0.call hb
 clear hb hweq
 have hA := hL0.fc
 simp only [fcG, cellsF, neK, and_true, ne_eq, Nat.zero_add, Nat.reduceAdd] at hA
 have hP := hL0.put 1 (w.heap.size) _ rfl [.int .u64 ((zl z : Nat) : Int), .string (zh z), .bool (zs z)] rfl
 simp only [setAll, List.set_cons_zero, List.set_cons_succ] at hP
 generalize hput1 : (((x5.setCell ⟨w.heap.size, 0, none⟩ (.int .u64 ((zl z : Nat) : Int))).setCell ⟨w.heap.size, 1, none⟩ (.string (zh z))).setCell ⟨w.heap.size, 2, none⟩ (.bool (zs z))) = x6 at hP
 have hB1 := hP.fc
 simp only [fcG, cellsF, neK, and_true, ne_eq, Nat.zero_add, Nat.reduceAdd] at hB1
 replace hL0 := hP
 go_wp2_with fail
 exact bodyPost_ret (v := .tuple #[intV z, .int .i64 0]) (by simp [results, Tryz.results121, go_sem, hB1]) rfl ⟨rfl, hL0.bl⟩
end Go.Proofs.YtdmoadfnogdfnaaGreatDoor
namespace Go.Proofs.YtdmoadfnogdfnaaGreatDoor
open Go.RowKit
attribute [local irreducible] lo hs sm s64 c64 d64 b64 mh ml pd pc qd qc val hiB str cmpI srD lz nb isq decB zl zh zs
theorem cls_box {α : Type} {F : α → World} {z : World} (h1 : ∀ x, Below z.heap.size z (F x)) {w : World} {L : List (Nat × List Value)} (hL : GL w z L) (k : Nat) (c : List Value) (hm : (k, c) ∈ L) : cellsC F k 0 c :=
 cellsC_of c 0 fun x => cells_of c 0 [] rfl ((hL.get k c hm).below (h1 x))
end Go.Proofs.YtdmoadfnogdfnaaGreatDoor
namespace Go.Proofs.YtdmoadfnogdfnaaGreatDoor
open Go.RowKit
attribute [local irreducible] lo hs sm s64 c64 d64 b64 mh ml pd pc qd qc val hiB str cmpI srD lz nb isq decB zl zh zs dval
end Go.Proofs.YtdmoadfnogdfnaaGreatDoor
namespace Go.Proofs.YtdmoadfnogdfnaaGreatDoor
open Go.RowKit
attribute [local irreducible] lo hs zl zh zs
theorem ztxt_st (z : Int) : ztxt z = st (if z < 0 then 45 :: Lib.decDigits z.natAbs else Lib.decDigits z.natAbs) := by
 unfold ztxt txt st
 split
 ·apply ByteArray.ext; rw [ByteArray.data_append]; simp
 ·rfl
theorem dec_len {z : Int} {k : Nat} (hk : 0 < k) (hz : dI z ≤ k) : (Lib.decDigits z.natAbs).length ≤ 20 * k := dec_size hk hz
theorem dec_head (n : Nat) : (Lib.decDigits n).head? ≠ some 45 := by
 have h := dec_isDig n
 have h0 := dec_ne_nil n
 cases hd : Lib.decDigits n with
 | nil => exact absurd hd h0
 | cons c r =>
  intro e
  simp only [List.head?_cons, Option.some.injEq] at e
  have := h c (by rw [hd]; exact List.mem_cons_self)
  subst e
  unfold isDig at this
  simp at this
theorem parse_ztxt (z : Int) (hz : dI z ≤ 200) (w : World) : Calls Tryz.prog 121 #[.string (ztxt z)] w fun e w' => e = .returned (.tuple #[intV z, .int .i64 0]) ∧ Below w.heap.size w w' := by
 have hl := dec_len (k := 200) (by omega) hz
 have hd := dec_isDec z.natAbs
 have hv := dval_dec z.natAbs
 rw [ztxt_st]
 by_cases h : z < 0
 ·rw [if_pos h]
  have := iparse_n_ok (Lib.decDigits z.natAbs) (by omega) hd (by rw [hv]; omega) w
  rw [hv, show -((z.natAbs : Nat) : Int) = z by omega] at this
  exact this
 ·rw [if_neg h]
  have := iparse_p_ok (Lib.decDigits z.natAbs) (by omega) hd (dec_head _) w
  rw [hv, show ((z.natAbs : Nat) : Int) = z by omega] at this
  exact this
end Go.Proofs.YtdmoadfnogdfnaaGreatDoor
namespace Go.Proofs.YtdmoadfnogdfnaaGreatDoor
open Go.RowKit
attribute [local irreducible] lo hs sm s64 c64 d64 b64 mh ml pd pc qd qc val hiB str cmpI srD lz nb isq decB zl zh zs
set_option maxHeartbeats 4000000 in
set_option maxRecDepth 100000 in
theorem whole_yes (n : Int) (w : World) :
  Calls Tryz.prog 83 #[frV n 0] w fun xe w' => xe = .returned (.bool true) ∧ Below w.heap.size w w' := by
 have hL0 : GL w w [] := GL.start w
 have e0 : (((lo 0 : Nat) : Int) == 0) = true := by rw [lo_small Bs_pos]; rfl
 have e1 : ((hs 0).toList == []) = true := by rw [hs_small Bs_pos, ByteArray.toList_eq]; rfl
 replace hL0 := (hL0.new rfl [.int .u64 ((zl n : Nat) : Int), .string (zh n), .bool (zs n), .int .u64 ((lo 0 : Nat) : Int), .string (hs 0)] 79)
 generalize hweq : (w.alloc (.cells #[.int .u64 ((zl n : Nat) : Int), .string (zh n), .bool (zs n), .int .u64 ((lo 0 : Nat) : Int), .string (hs 0)] 79)) = x1 at hL0
 go_enter Tryz.func83, Tryz.ntmps83
 have hN0 := cells_of _ 0 [] rfl (hL0.get _ _ List.mem_cons_self)
 simp only [cellsF, and_true, Nat.zero_add, Nat.reduceAdd] at hN0
 go_wp2_with fail
 exact bodyPost_ret (v := .bool true) (by simp [results, Tryz.results83, go_sem, hN0]) rfl ⟨rfl, hL0.bl⟩
set_option maxHeartbeats 4000000 in
set_option maxRecDepth 100000 in
theorem whole_no (n : Int) (e : Nat) (he : e ≠ 0) (w : World) :
  Calls Tryz.prog 83 #[frV n e] w fun xe w' => xe = .returned (.bool false) ∧ Below w.heap.size w w' := by
 have hL0 : GL w w [] := GL.start w
 have hz := ne0 he
 clear he
 rcases hz with e0 | ⟨e0, e1⟩
 all_goals (
  replace hL0 := (hL0.new rfl [.int .u64 ((zl n : Nat) : Int), .string (zh n), .bool (zs n), .int .u64 ((lo e : Nat) : Int), .string (hs e)] 79)
  generalize hweq : (w.alloc (.cells #[.int .u64 ((zl n : Nat) : Int), .string (zh n), .bool (zs n), .int .u64 ((lo e : Nat) : Int), .string (hs e)] 79)) = x1 at hL0
  go_enter Tryz.func83, Tryz.ntmps83
  have hN0 := cells_of _ 0 [] rfl (hL0.get _ _ List.mem_cons_self)
  simp only [cellsF, and_true, Nat.zero_add, Nat.reduceAdd] at hN0
  go_wp2_with fail
  exact bodyPost_ret (v := .bool false) (by simp [results, Tryz.results83, go_sem, hN0]) rfl ⟨rfl, hL0.bl⟩)
set_option maxHeartbeats 4000000 in
set_option maxRecDepth 100000 in
theorem den_one_w (n : Int) (HW : RT 83 #[frV n 0] (.bool true)) (HO : RT 81 #[.int .u64 1] (natV 1)) (w : World) :
  Calls Tryz.prog 148 #[frV n 0] w fun xe w' => xe = .returned (natV 1) ∧ Below w.heap.size w w' := by
 have hL0 : GL w w [] := GL.start w
 replace HW := Lib.hid HW
 replace HO := Lib.hid HO
 replace hL0 := ((hL0.new rfl [.int .u64 ((zl n : Nat) : Int), .string (zh n), .bool (zs n), .int .u64 ((lo 0 : Nat) : Int), .string (hs 0)] 79).new (K := w.heap.size + 1) (szA _ _) [.int .u64 0, .string ⟨#[]⟩] 32)
 generalize hweq : ((w.alloc (.cells #[.int .u64 ((zl n : Nat) : Int), .string (zh n), .bool (zs n), .int .u64 ((lo 0 : Nat) : Int), .string (hs 0)] 79)).alloc (.cells #[.int .u64 0, .string ⟨#[]⟩] 32)) = x1 at hL0
 go_enter Tryz.func148, Tryz.ntmps148
 have hN0 := cells_of _ 0 [] rfl (hL0.get _ _ (List.mem_cons_of_mem _ List.mem_cons_self))
 simp only [cellsF, and_true, Nat.zero_add, Nat.reduceAdd] at hN0
 go_wp2_with fail
 clear hN0
 with_reducible refine Calls.mono (HW.out _) ?_
 rintro e x2 ⟨rfl, hb⟩
 replace hL0 := hL0.call hb
 clear hb hweq
 go_wp2_with fail
 with_reducible refine Calls.mono (HO.out _) ?_
 rintro e x3 ⟨rfl, hb⟩
 replace hL0 := hL0.call hb
 clear hb
 have hA := hL0.fc
 simp only [fcG, cellsF, neK, and_true, ne_eq, Nat.zero_add, Nat.reduceAdd] at hA
 have hP := hL0.put 0 (w.heap.size + 1) _ rfl [.int .u64 ((lo 1 : Nat) : Int), .string (hs 1)] rfl
 simp only [setAll, List.set_cons_zero, List.set_cons_succ] at hP
 generalize hput1 : ((x3.setCell ⟨w.heap.size + 1, 0, none⟩ (.int .u64 ((lo 1 : Nat) : Int))).setCell ⟨w.heap.size + 1, 1, none⟩ (.string (hs 1))) = x4 at hP
 have hB1 := hP.fc
 simp only [fcG, cellsF, neK, and_true, ne_eq, Nat.zero_add, Nat.reduceAdd] at hB1
 replace hL0 := hP
 go_wp2_with fail
 exact bodyPost_ret (v := natV 1) (by simp [results, Tryz.results148, go_sem, hB1]) rfl ⟨rfl, hL0.bl⟩
set_option maxHeartbeats 4000000 in
set_option maxRecDepth 100000 in
theorem den_part_w (n : Int) (e : Nat) (HW : RT 83 #[frV n e] (.bool false)) (w : World) :
  Calls Tryz.prog 148 #[frV n e] w fun xe w' => xe = .returned (natV e) ∧ Below w.heap.size w w' := by
 have hL0 : GL w w [] := GL.start w
 replace HW := Lib.hid HW
 replace hL0 := ((hL0.new rfl [.int .u64 ((zl n : Nat) : Int), .string (zh n), .bool (zs n), .int .u64 ((lo e : Nat) : Int), .string (hs e)] 79).new (K := w.heap.size + 1) (szA _ _) [.int .u64 0, .string ⟨#[]⟩] 32)
 generalize hweq : ((w.alloc (.cells #[.int .u64 ((zl n : Nat) : Int), .string (zh n), .bool (zs n), .int .u64 ((lo e : Nat) : Int), .string (hs e)] 79)).alloc (.cells #[.int .u64 0, .string ⟨#[]⟩] 32)) = x1 at hL0
 go_enter Tryz.func148, Tryz.ntmps148
 have hN0 := cells_of _ 0 [] rfl (hL0.get _ _ (List.mem_cons_of_mem _ List.mem_cons_self))
 simp only [cellsF, and_true, Nat.zero_add, Nat.reduceAdd] at hN0
 go_wp2_with fail
 clear hN0
 with_reducible refine Calls.mono (HW.out _) ?_
 rintro e x2 ⟨rfl, hb⟩
 replace hL0 := hL0.call hb
 clear hb hweq
 have hA := hL0.fc
 simp only [fcG, cellsF, neK, and_true, ne_eq, Nat.zero_add, Nat.reduceAdd] at hA
 have hP := hL0.put 0 (w.heap.size + 1) _ rfl [.int .u64 ((lo e : Nat) : Int), .string (hs e)] rfl
 simp only [setAll, List.set_cons_zero, List.set_cons_succ] at hP
 generalize hput1 : ((x2.setCell ⟨w.heap.size + 1, 0, none⟩ (.int .u64 ((lo e : Nat) : Int))).setCell ⟨w.heap.size + 1, 1, none⟩ (.string (hs e))) = x3 at hP
 have hB1 := hP.fc
 simp only [fcG, cellsF, neK, and_true, ne_eq, Nat.zero_add, Nat.reduceAdd] at hB1
 replace hL0 := hP
 go_wp2_with fail
 exact bodyPost_ret (v := natV e) (by simp [results, Tryz.results148, go_sem, hB1]) rfl ⟨rfl, hL0.bl⟩
set_option maxHeartbeats 4000000 in
set_option maxRecDepth 100000 in
theorem lowest_one (n : Int) (HO : RT 81 #[.int .u64 1] (natV 1)) (w : World) :
  Calls Tryz.prog 149 #[intV n, natV 1] w fun xe w' => xe = .returned (.agg #[.int .u64 ((zl n : Nat) : Int), .string (zh n), .bool (zs n), .int .u64 0, .string ⟨#[]⟩]) ∧ Below w.heap.size w w' := by
 have hL0 : GL w w [] := GL.start w
 replace HO := Lib.hid HO
 replace hL0 := (((hL0.new rfl [.int .u64 ((zl n : Nat) : Int), .string (zh n), .bool (zs n)] 39).new (K := w.heap.size + 1) (szA _ _) [.int .u64 ((lo 1 : Nat) : Int), .string (hs 1)] 32).new (K := w.heap.size + 1 + 1) (by simp only [World.size_alloc]) [.int .u64 0, .string ⟨#[]⟩, .bool false, .int .u64 0, .string ⟨#[]⟩] 79)
 generalize hweq : (((w.alloc (.cells #[.int .u64 ((zl n : Nat) : Int), .string (zh n), .bool (zs n)] 39)).alloc (.cells #[.int .u64 ((lo 1 : Nat) : Int), .string (hs 1)] 32)).alloc (.cells #[.int .u64 0, .string ⟨#[]⟩, .bool false, .int .u64 0, .string ⟨#[]⟩] 79)) = x1 at hL0
 go_enter Tryz.func149, Tryz.ntmps149
 go_upto_region 1 with fail
 clear hweq
 obtain ⟨α, iα, F, hF1, hF2⟩ := cls x1
 have hq0 := cls_box hF1 hL0 _ _ (List.mem_cons_of_mem _ List.mem_cons_self)
 simp only [cellsC, and_true, Nat.zero_add, Nat.reduceAdd] at hq0
 refine region_qs 3 (C := fun w' => ∃ x, w' = F x) (by kernel_rfl) (by kernel_rfl) (cls_drew hF2) ?_
 simp only [List.take_succ_cons, List.take_zero, List.drop_succ_cons, List.drop_zero, List.take_nil, List.drop_nil]
 repeat (go_big_quiet_step (first | fail | (go_at_call 81; with_reducible exact cls_call hF1 hF2 HO.out _)))
 refine wpQuiet_nil ?_
 rintro wq ⟨xq, rfl⟩
 replace hL0 := hL0.call (hF1 xq)
 clear  hq0 hF2
 generalize F xq = x2 at hL0 ⊢
 clear hF1 xq iα F α
 have hA := hL0.fc
 simp only [fcG, cellsF, neK, and_true, ne_eq, Nat.zero_add, Nat.reduceAdd] at hA
 have hP := hL0.put 0 (w.heap.size + 1 + 1) _ rfl [.int .u64 ((zl n : Nat) : Int), .string (zh n), .bool (zs n), .int .u64 0, .string ⟨#[]⟩] rfl
 simp only [setAll, List.set_cons_zero, List.set_cons_succ] at hP
 generalize hput1 : (((((x2.setCell ⟨w.heap.size + 1 + 1, 0, none⟩ (.int .u64 ((zl n : Nat) : Int))).setCell ⟨w.heap.size + 1 + 1, 1, none⟩ (.string (zh n))).setCell ⟨w.heap.size + 1 + 1, 2, none⟩ (.bool (zs n))).setCell ⟨w.heap.size + 1 + 1, 3, none⟩ (.int .u64 0)).setCell ⟨w.heap.size + 1 + 1, 4, none⟩ (.string ⟨#[]⟩)) = x3 at hP
 have hB1 := hP.fc
 simp only [fcG, cellsF, neK, and_true, ne_eq, Nat.zero_add, Nat.reduceAdd] at hB1
 replace hL0 := hP
 go_wp2_with fail
 exact bodyPost_ret (v := .agg #[.int .u64 ((zl n : Nat) : Int), .string (zh n), .bool (zs n), .int .u64 0, .string ⟨#[]⟩]) (by simp [results, Tryz.results149, go_sem, hB1]) rfl ⟨rfl, hL0.bl⟩
set_option maxHeartbeats 4000000 in
set_option maxRecDepth 100000 in
theorem lowest_part (n : Int) (d : Nat) (HO : RT 81 #[.int .u64 1] (natV 1)) (hd : d ≠ 1) (w : World) :
  Calls Tryz.prog 149 #[intV n, natV d] w fun xe w' => xe = .returned (frV n d) ∧ Below w.heap.size w w' := by
 have hL0 : GL w w [] := GL.start w
 replace HO := Lib.hid HO
 have hz := ne_nat hd
 clear hd
 rcases hz with e0 | ⟨e0, e1⟩
 all_goals (
  replace hL0 := (((hL0.new rfl [.int .u64 ((zl n : Nat) : Int), .string (zh n), .bool (zs n)] 39).new (K := w.heap.size + 1) (szA _ _) [.int .u64 ((lo d : Nat) : Int), .string (hs d)] 32).new (K := w.heap.size + 1 + 1) (by simp only [World.size_alloc]) [.int .u64 0, .string ⟨#[]⟩, .bool false, .int .u64 0, .string ⟨#[]⟩] 79)
  generalize hweq : (((w.alloc (.cells #[.int .u64 ((zl n : Nat) : Int), .string (zh n), .bool (zs n)] 39)).alloc (.cells #[.int .u64 ((lo d : Nat) : Int), .string (hs d)] 32)).alloc (.cells #[.int .u64 0, .string ⟨#[]⟩, .bool false, .int .u64 0, .string ⟨#[]⟩] 79)) = x1 at hL0
  go_enter Tryz.func149, Tryz.ntmps149
  go_upto_region 1 with fail
  clear hweq
  obtain ⟨α, iα, F, hF1, hF2⟩ := cls x1
  have hq0 := cls_box hF1 hL0 _ _ (List.mem_cons_of_mem _ List.mem_cons_self)
  simp only [cellsC, and_true, Nat.zero_add, Nat.reduceAdd] at hq0
  refine region_qs 3 (C := fun w' => ∃ x, w' = F x) (by kernel_rfl) (by kernel_rfl) (cls_drew hF2) ?_
  simp only [List.take_succ_cons, List.take_zero, List.drop_succ_cons, List.drop_zero, List.take_nil, List.drop_nil]
  repeat (go_big_quiet_step (first | fail | (go_at_call 81; with_reducible exact cls_call hF1 hF2 HO.out _)))
  refine wpQuiet_nil ?_
  rintro wq ⟨xq, rfl⟩
  replace hL0 := hL0.call (hF1 xq)
  clear  hq0 hF2
  generalize F xq = x2 at hL0 ⊢
  clear hF1 xq iα F α
  have hA := hL0.fc
  simp only [fcG, cellsF, neK, and_true, ne_eq, Nat.zero_add, Nat.reduceAdd] at hA
  have hP := hL0.put 0 (w.heap.size + 1 + 1) _ rfl [.int .u64 ((zl n : Nat) : Int), .string (zh n), .bool (zs n), .int .u64 ((lo d : Nat) : Int), .string (hs d)] rfl
  simp only [setAll, List.set_cons_zero, List.set_cons_succ] at hP
  generalize hput1 : (((((x2.setCell ⟨w.heap.size + 1 + 1, 0, none⟩ (.int .u64 ((zl n : Nat) : Int))).setCell ⟨w.heap.size + 1 + 1, 1, none⟩ (.string (zh n))).setCell ⟨w.heap.size + 1 + 1, 2, none⟩ (.bool (zs n))).setCell ⟨w.heap.size + 1 + 1, 3, none⟩ (.int .u64 ((lo d : Nat) : Int))).setCell ⟨w.heap.size + 1 + 1, 4, none⟩ (.string (hs d))) = x3 at hP
  have hB1 := hP.fc
  simp only [fcG, cellsF, neK, and_true, ne_eq, Nat.zero_add, Nat.reduceAdd] at hB1
  replace hL0 := hP
  go_wp2_with fail
  exact bodyPost_ret (v := frV n d) (by simp [results, Tryz.results149, go_sem, hB1]) rfl ⟨rfl, hL0.bl⟩)
set_option maxHeartbeats 4000000 in
set_option maxRecDepth 100000 in
theorem pon_one (n : Nat) (HO : RT 81 #[.int .u64 1] (natV 1)) (w : World) :
  Calls Tryz.prog 194 #[natV n, natV 1] w fun xe w' => xe = .returned (natV n) ∧ Below w.heap.size w w' := by
 have hL0 : GL w w [] := GL.start w
 replace HO := Lib.hid HO
 replace hL0 := (((hL0.new rfl [.int .u64 ((lo n : Nat) : Int), .string (hs n)] 32).new (K := w.heap.size + 1) (szA _ _) [.int .u64 ((lo 1 : Nat) : Int), .string (hs 1)] 32).new (K := w.heap.size + 1 + 1) (by simp only [World.size_alloc]) [.int .u64 0, .string ⟨#[]⟩] 32)
 generalize hweq : (((w.alloc (.cells #[.int .u64 ((lo n : Nat) : Int), .string (hs n)] 32)).alloc (.cells #[.int .u64 ((lo 1 : Nat) : Int), .string (hs 1)] 32)).alloc (.cells #[.int .u64 0, .string ⟨#[]⟩] 32)) = x1 at hL0
 go_enter Tryz.func194, Tryz.ntmps194
 go_upto_region 1 with fail
 clear hweq
 obtain ⟨α, iα, F, hF1, hF2⟩ := cls x1
 have hq0 := cls_box hF1 hL0 _ _ (List.mem_cons_of_mem _ List.mem_cons_self)
 simp only [cellsC, and_true, Nat.zero_add, Nat.reduceAdd] at hq0
 refine region_qs 3 (C := fun w' => ∃ x, w' = F x) (by kernel_rfl) (by kernel_rfl) (cls_drew hF2) ?_
 simp only [List.take_succ_cons, List.take_zero, List.drop_succ_cons, List.drop_zero, List.take_nil, List.drop_nil]
 repeat (go_big_quiet_step (first | fail | (go_at_call 81; with_reducible exact cls_call hF1 hF2 HO.out _)))
 refine wpQuiet_nil ?_
 rintro wq ⟨xq, rfl⟩
 replace hL0 := hL0.call (hF1 xq)
 clear  hq0 hF2
 generalize F xq = x2 at hL0 ⊢
 clear hF1 xq iα F α
 have hA := hL0.fc
 simp only [fcG, cellsF, neK, and_true, ne_eq, Nat.zero_add, Nat.reduceAdd] at hA
 have hP := hL0.put 0 (w.heap.size + 1 + 1) _ rfl [.int .u64 ((lo n : Nat) : Int), .string (hs n)] rfl
 simp only [setAll, List.set_cons_zero, List.set_cons_succ] at hP
 generalize hput1 : ((x2.setCell ⟨w.heap.size + 1 + 1, 0, none⟩ (.int .u64 ((lo n : Nat) : Int))).setCell ⟨w.heap.size + 1 + 1, 1, none⟩ (.string (hs n))) = x3 at hP
 have hB1 := hP.fc
 simp only [fcG, cellsF, neK, and_true, ne_eq, Nat.zero_add, Nat.reduceAdd] at hB1
 replace hL0 := hP
 go_wp2_with fail
 exact bodyPost_ret (v := natV n) (by simp [results, Tryz.results194, go_sem, hB1]) rfl ⟨rfl, hL0.bl⟩
set_option maxHeartbeats 4000000 in
set_option maxRecDepth 100000 in
theorem pon_div (n d q r : Nat) (HO : RT 81 #[.int .u64 1] (natV 1)) (HD : RT 106 #[natV n, natV d] (.tuple #[natV q, natV r, .bool true])) (hd : d ≠ 1) (w : World) :
  Calls Tryz.prog 194 #[natV n, natV d] w fun xe w' => xe = .returned (natV q) ∧ Below w.heap.size w w' := by
 have hL0 : GL w w [] := GL.start w
 replace HO := Lib.hid HO
 replace HD := Lib.hid HD
 have hz := ne_nat hd
 clear hd
 rcases hz with e0 | ⟨e0, e1⟩
 all_goals (
  replace hL0 := (((hL0.new rfl [.int .u64 ((lo n : Nat) : Int), .string (hs n)] 32).new (K := w.heap.size + 1) (szA _ _) [.int .u64 ((lo d : Nat) : Int), .string (hs d)] 32).new (K := w.heap.size + 1 + 1) (by simp only [World.size_alloc]) [.int .u64 0, .string ⟨#[]⟩] 32)
  generalize hweq : (((w.alloc (.cells #[.int .u64 ((lo n : Nat) : Int), .string (hs n)] 32)).alloc (.cells #[.int .u64 ((lo d : Nat) : Int), .string (hs d)] 32)).alloc (.cells #[.int .u64 0, .string ⟨#[]⟩] 32)) = x1 at hL0
  go_enter Tryz.func194, Tryz.ntmps194
  go_upto_region 1 with fail
  clear hweq
  obtain ⟨α, iα, F, hF1, hF2⟩ := cls x1
  have hq0 := cls_box hF1 hL0 _ _ (List.mem_cons_of_mem _ List.mem_cons_self)
  simp only [cellsC, and_true, Nat.zero_add, Nat.reduceAdd] at hq0
  refine region_qs 3 (C := fun w' => ∃ x, w' = F x) (by kernel_rfl) (by kernel_rfl) (cls_drew hF2) ?_
  simp only [List.take_succ_cons, List.take_zero, List.drop_succ_cons, List.drop_zero, List.take_nil, List.drop_nil]
  repeat (go_big_quiet_step (first | fail | (go_at_call 81; with_reducible exact cls_call hF1 hF2 HO.out _)))
  refine wpQuiet_nil ?_
  rintro wq ⟨xq, rfl⟩
  replace hL0 := hL0.call (hF1 xq)
  clear  hq0 hF2
  generalize F xq = x2 at hL0 ⊢
  clear hF1 xq iα F α
  have hN0 := cells_of _ 0 [] rfl (hL0.get _ _ (List.mem_cons_of_mem _ List.mem_cons_self))
  simp only [cellsF, and_true, Nat.zero_add, Nat.reduceAdd] at hN0
  have hN1 := cells_of _ 0 [] rfl (hL0.get _ _ (List.mem_cons_of_mem _ (List.mem_cons_of_mem _ List.mem_cons_self)))
  simp only [cellsF, and_true, Nat.zero_add, Nat.reduceAdd] at hN1
  go_wp2_with fail
  clear hN0 hN1
  with_reducible refine Calls.mono (HD.out _) ?_
  rintro e x3 ⟨rfl, hb⟩
  replace hL0 := hL0.call hb
  clear hb
  replace hL0 := ((hL0.new rfl [.int .u64 ((lo q : Nat) : Int), .string (hs q)] 32).new (K := x3.heap.size + 1) (szA _ _) [.int .u64 ((lo r : Nat) : Int), .string (hs r)] 32)
  generalize hweq : ((x3.alloc (.cells #[.int .u64 ((lo q : Nat) : Int), .string (hs q)] 32)).alloc (.cells #[.int .u64 ((lo r : Nat) : Int), .string (hs r)] 32)) = x4 at hL0
  have hA := hL0.fc
  simp only [fcG, cellsF, neK, and_true, ne_eq, Nat.zero_add, Nat.reduceAdd] at hA
  have hP := hL0.put 2 (w.heap.size + 1 + 1) _ rfl [.int .u64 ((lo q : Nat) : Int), .string (hs q)] rfl
  simp only [setAll, List.set_cons_zero, List.set_cons_succ] at hP
  generalize hput1 : ((x4.setCell ⟨w.heap.size + 1 + 1, 0, none⟩ (.int .u64 ((lo q : Nat) : Int))).setCell ⟨w.heap.size + 1 + 1, 1, none⟩ (.string (hs q))) = x5 at hP
  have hB1 := hP.fc
  simp only [fcG, cellsF, neK, and_true, ne_eq, Nat.zero_add, Nat.reduceAdd] at hB1
  replace hL0 := hP
  go_wp2_with fail
  exact bodyPost_ret (v := natV q) (by simp [results, Tryz.results194, go_sem, hB1]) rfl ⟨rfl, hL0.bl⟩)
set_option maxHeartbeats 4000000 in
set_option maxRecDepth 100000 in
theorem part_true (z s u : Int) (a g q : Nat) (HS : RT 36 #[intV z] (.int .i64 s)) (HA : RT 40 #[intV z] (natV a)) (HP : RT 194 #[natV a, natV g] (natV q)) (HF : RT 122 #[.bool true, natV q] (intV u)) (hsg : decide (s < 0) = true) (w : World) :
  Calls Tryz.prog 195 #[intV z, natV g] w fun xe w' => xe = .returned (intV u) ∧ Below w.heap.size w w' := by
 have hL0 : GL w w [] := GL.start w
 replace HS := Lib.hid HS
 replace HA := Lib.hid HA
 replace HP := Lib.hid HP
 replace HF := Lib.hid HF
 replace hL0 := (((hL0.new rfl [.int .u64 ((zl z : Nat) : Int), .string (zh z), .bool (zs z)] 39).new (K := w.heap.size + 1) (szA _ _) [.int .u64 ((lo g : Nat) : Int), .string (hs g)] 32).new (K := w.heap.size + 1 + 1) (by simp only [World.size_alloc]) [.int .u64 0, .string ⟨#[]⟩, .bool false] 39)
 generalize hweq : (((w.alloc (.cells #[.int .u64 ((zl z : Nat) : Int), .string (zh z), .bool (zs z)] 39)).alloc (.cells #[.int .u64 ((lo g : Nat) : Int), .string (hs g)] 32)).alloc (.cells #[.int .u64 0, .string ⟨#[]⟩, .bool false] 39)) = x1 at hL0
 go_enter Tryz.func195, Tryz.ntmps195
 go_upto_region 1 with fail
 clear hweq
 obtain ⟨α, iα, F, hF1, hF2⟩ := cls x1
 have hq0 := cls_box hF1 hL0 _ _ (List.mem_cons_of_mem _ List.mem_cons_self)
 simp only [cellsC, and_true, Nat.zero_add, Nat.reduceAdd] at hq0
 have hq1 := cls_box hF1 hL0 _ _ (List.mem_cons_of_mem _ (List.mem_cons_of_mem _ List.mem_cons_self))
 simp only [cellsC, and_true, Nat.zero_add, Nat.reduceAdd] at hq1
 refine region_qs 8 (C := fun w' => ∃ x, w' = F x) (by kernel_rfl) (by kernel_rfl) (cls_drew hF2) ?_
 simp only [List.take_succ_cons, List.take_zero, List.drop_succ_cons, List.drop_zero, List.take_nil, List.drop_nil]
 repeat (go_big_quiet_step (first | fail | (go_at_call 36; with_reducible exact cls_call hF1 hF2 HS.out _) | (go_at_call 40; with_reducible exact cls_call hF1 hF2 HA.out _) | (go_at_call 194; with_reducible exact cls_call hF1 hF2 HP.out _) | (go_at_call 122; with_reducible exact cls_call hF1 hF2 HF.out _)))
 refine wpQuiet_nil ?_
 rintro wq ⟨xq, rfl⟩
 replace hL0 := hL0.call (hF1 xq)
 clear  hq0 hq1 hF2
 generalize F xq = x2 at hL0 ⊢
 clear hF1 xq iα F α
 have hA := hL0.fc
 simp only [fcG, cellsF, neK, and_true, ne_eq, Nat.zero_add, Nat.reduceAdd] at hA
 have hP := hL0.put 0 (w.heap.size + 1 + 1) _ rfl [.int .u64 ((zl u : Nat) : Int), .string (zh u), .bool (zs u)] rfl
 simp only [setAll, List.set_cons_zero, List.set_cons_succ] at hP
 generalize hput1 : (((x2.setCell ⟨w.heap.size + 1 + 1, 0, none⟩ (.int .u64 ((zl u : Nat) : Int))).setCell ⟨w.heap.size + 1 + 1, 1, none⟩ (.string (zh u))).setCell ⟨w.heap.size + 1 + 1, 2, none⟩ (.bool (zs u))) = x3 at hP
 have hB1 := hP.fc
 simp only [fcG, cellsF, neK, and_true, ne_eq, Nat.zero_add, Nat.reduceAdd] at hB1
 replace hL0 := hP
 go_wp2_with fail
 exact bodyPost_ret (v := intV u) (by simp [results, Tryz.results195, go_sem, hB1]) rfl ⟨rfl, hL0.bl⟩
set_option maxHeartbeats 4000000 in
set_option maxRecDepth 100000 in
theorem part_false (z s u : Int) (a g q : Nat) (HS : RT 36 #[intV z] (.int .i64 s)) (HA : RT 40 #[intV z] (natV a)) (HP : RT 194 #[natV a, natV g] (natV q)) (HF : RT 122 #[.bool false, natV q] (intV u)) (hsg : decide (s < 0) = false) (w : World) :
  Calls Tryz.prog 195 #[intV z, natV g] w fun xe w' => xe = .returned (intV u) ∧ Below w.heap.size w w' := by
 have hL0 : GL w w [] := GL.start w
 replace HS := Lib.hid HS
 replace HA := Lib.hid HA
 replace HP := Lib.hid HP
 replace HF := Lib.hid HF
 replace hL0 := (((hL0.new rfl [.int .u64 ((zl z : Nat) : Int), .string (zh z), .bool (zs z)] 39).new (K := w.heap.size + 1) (szA _ _) [.int .u64 ((lo g : Nat) : Int), .string (hs g)] 32).new (K := w.heap.size + 1 + 1) (by simp only [World.size_alloc]) [.int .u64 0, .string ⟨#[]⟩, .bool false] 39)
 generalize hweq : (((w.alloc (.cells #[.int .u64 ((zl z : Nat) : Int), .string (zh z), .bool (zs z)] 39)).alloc (.cells #[.int .u64 ((lo g : Nat) : Int), .string (hs g)] 32)).alloc (.cells #[.int .u64 0, .string ⟨#[]⟩, .bool false] 39)) = x1 at hL0
 go_enter Tryz.func195, Tryz.ntmps195
 go_upto_region 1 with fail
 clear hweq
 obtain ⟨α, iα, F, hF1, hF2⟩ := cls x1
 have hq0 := cls_box hF1 hL0 _ _ (List.mem_cons_of_mem _ List.mem_cons_self)
 simp only [cellsC, and_true, Nat.zero_add, Nat.reduceAdd] at hq0
 have hq1 := cls_box hF1 hL0 _ _ (List.mem_cons_of_mem _ (List.mem_cons_of_mem _ List.mem_cons_self))
 simp only [cellsC, and_true, Nat.zero_add, Nat.reduceAdd] at hq1
 refine region_qs 8 (C := fun w' => ∃ x, w' = F x) (by kernel_rfl) (by kernel_rfl) (cls_drew hF2) ?_
 simp only [List.take_succ_cons, List.take_zero, List.drop_succ_cons, List.drop_zero, List.take_nil, List.drop_nil]
 repeat (go_big_quiet_step (first | fail | (go_at_call 36; with_reducible exact cls_call hF1 hF2 HS.out _) | (go_at_call 40; with_reducible exact cls_call hF1 hF2 HA.out _) | (go_at_call 194; with_reducible exact cls_call hF1 hF2 HP.out _) | (go_at_call 122; with_reducible exact cls_call hF1 hF2 HF.out _)))
 refine wpQuiet_nil ?_
 rintro wq ⟨xq, rfl⟩
 replace hL0 := hL0.call (hF1 xq)
 clear  hq0 hq1 hF2
 generalize F xq = x2 at hL0 ⊢
 clear hF1 xq iα F α
 have hA := hL0.fc
 simp only [fcG, cellsF, neK, and_true, ne_eq, Nat.zero_add, Nat.reduceAdd] at hA
 have hP := hL0.put 0 (w.heap.size + 1 + 1) _ rfl [.int .u64 ((zl u : Nat) : Int), .string (zh u), .bool (zs u)] rfl
 simp only [setAll, List.set_cons_zero, List.set_cons_succ] at hP
 generalize hput1 : (((x2.setCell ⟨w.heap.size + 1 + 1, 0, none⟩ (.int .u64 ((zl u : Nat) : Int))).setCell ⟨w.heap.size + 1 + 1, 1, none⟩ (.string (zh u))).setCell ⟨w.heap.size + 1 + 1, 2, none⟩ (.bool (zs u))) = x3 at hP
 have hB1 := hP.fc
 simp only [fcG, cellsF, neK, and_true, ne_eq, Nat.zero_add, Nat.reduceAdd] at hB1
 replace hL0 := hP
 go_wp2_with fail
 exact bodyPost_ret (v := intV u) (by simp [results, Tryz.results195, go_sem, hB1]) rfl ⟨rfl, hL0.bl⟩
set_option maxHeartbeats 4000000 in
set_option maxRecDepth 100000 in
theorem cancel_w (z u : Int) (a d g v : Nat) (HA : RT 40 #[intV z] (natV a)) (HG : RT 109 #[natV a, natV d] (natV g)) (HP : RT 195 #[intV z, natV g] (intV u)) (HQ : RT 194 #[natV d, natV g] (natV v)) (w : World) :
  Calls Tryz.prog 147 #[intV z, natV d] w fun xe w' => xe = .returned (.tuple #[intV u, natV v]) ∧ Below w.heap.size w w' := by
 have hL0 : GL w w [] := GL.start w
 replace HA := Lib.hid HA
 replace HG := Lib.hid HG
 replace HP := Lib.hid HP
 replace HQ := Lib.hid HQ
 replace hL0 := ((((hL0.new rfl [.int .u64 ((zl z : Nat) : Int), .string (zh z), .bool (zs z)] 39).new (K := w.heap.size + 1) (szA _ _) [.int .u64 ((lo d : Nat) : Int), .string (hs d)] 32).new (K := w.heap.size + 1 + 1) (by simp only [World.size_alloc]) [.int .u64 0, .string ⟨#[]⟩, .bool false] 39).new (K := w.heap.size + 1 + 1 + 1) (by simp only [World.size_alloc]) [.int .u64 0, .string ⟨#[]⟩] 32)
 generalize hweq : ((((w.alloc (.cells #[.int .u64 ((zl z : Nat) : Int), .string (zh z), .bool (zs z)] 39)).alloc (.cells #[.int .u64 ((lo d : Nat) : Int), .string (hs d)] 32)).alloc (.cells #[.int .u64 0, .string ⟨#[]⟩, .bool false] 39)).alloc (.cells #[.int .u64 0, .string ⟨#[]⟩] 32)) = x1 at hL0
 go_enter Tryz.func147, Tryz.ntmps147
 go_upto_region 1 with fail
 clear hweq
 refine region_gh (by kernel_rfl) (by kernel_rfl) ?_
 refine lex_seg (gl := []) 4 (by kernel_rfl) ?_
 intro α iα F hF1 hF2
 have hq := GL.seg hF1 hL0
 simp only [fcC, cellsC, and_true, Nat.zero_add, Nat.reduceAdd] at hq
 simp only [List.take_succ_cons, List.take_zero, List.drop_succ_cons, List.drop_zero, List.take_nil, List.drop_nil]
 repeat (go_big_quiet_step (first | fail | (go_at_call 40; with_reducible exact seg_call hF2 HA.out _) | (go_at_call 109; with_reducible exact seg_call hF2 HG.out _)))
 refine wpQuiet_nil ?_
 clear hq hF1 hF2 iα F α
 refine lex_new [.int .u64 0, .string ⟨#[]⟩] 6 32 32 rfl rfl (of_decide_eq_true (by kernel_rfl)) (by kernel_rfl) rfl new_natc ?_
 simp only [Act.put, List.setIfInBounds_toArray, List.set_cons_succ, List.set_cons_zero]
 refine lex_put [.int .u64 ((lo g : Nat) : Int), .string (hs g)] [.int .u64 0, .string ⟨#[]⟩] 6 32 (.tmp 10) rfl (by kernel_rfl) (by simp [toG, upd]) rfl (fun w k h => put_natc _ _ _ _ w k h) ?_
 simp only [Act.put]
 refine lexG_nil ?_
 intro κ x2 hS
 replace hL0 := hL0.ghs hS [(6, [.int .u64 ((lo g : Nat) : Int), .string (hs g)])] (by simp) (by intro p hp; simp only [List.mem_cons, List.not_mem_nil, or_false] at hp; rcases hp with rfl <;> exact ⟨_, by simp only [toG, upd]; rfl⟩)
 simp only [List.map_cons, List.map_nil, List.cons_append, List.nil_append] at hL0
 simp only [over_toG, over_nil, Act.put, List.setIfInBounds_toArray, List.set_cons_succ, List.set_cons_zero]
 clear hS
 generalize κ 6 = k2_6 at *
 go_upto_region 2 with fail
 obtain ⟨α, iα, F, hF1, hF2⟩ := cls x2
 have hq0 := cls_box hF1 hL0 _ _ List.mem_cons_self
 simp only [cellsC, and_true, Nat.zero_add, Nat.reduceAdd] at hq0
 have hq1 := cls_box hF1 hL0 _ _ (List.mem_cons_of_mem _ (List.mem_cons_of_mem _ (List.mem_cons_of_mem _ List.mem_cons_self)))
 simp only [cellsC, and_true, Nat.zero_add, Nat.reduceAdd] at hq1
 have hq2 := cls_box hF1 hL0 _ _ (List.mem_cons_of_mem _ (List.mem_cons_of_mem _ (List.mem_cons_of_mem _ (List.mem_cons_of_mem _ List.mem_cons_self))))
 simp only [cellsC, and_true, Nat.zero_add, Nat.reduceAdd] at hq2
 refine region_qs 6 (C := fun w' => ∃ x, w' = F x) (by kernel_rfl) (by kernel_rfl) (cls_drew hF2) ?_
 simp only [List.take_succ_cons, List.take_zero, List.drop_succ_cons, List.drop_zero, List.take_nil, List.drop_nil]
 repeat (go_big_quiet_step (first | fail | (go_at_call 195; with_reducible exact cls_call hF1 hF2 HP.out _) | (go_at_call 194; with_reducible exact cls_call hF1 hF2 HQ.out _)))
 refine wpQuiet_nil ?_
 rintro wq ⟨xq, rfl⟩
 replace hL0 := hL0.call (hF1 xq)
 clear  hq0 hq1 hq2 hF2
 generalize F xq = x3 at hL0 ⊢
 clear hF1 xq iα F α
 have hA := hL0.fc
 simp only [fcG, cellsF, neK, and_true, ne_eq, Nat.zero_add, Nat.reduceAdd] at hA
 have hP := hL0.put 2 (w.heap.size + 1 + 1) _ rfl [.int .u64 ((zl u : Nat) : Int), .string (zh u), .bool (zs u)] rfl
 simp only [setAll, List.set_cons_zero, List.set_cons_succ] at hP
 generalize hput1 : (((x3.setCell ⟨w.heap.size + 1 + 1, 0, none⟩ (.int .u64 ((zl u : Nat) : Int))).setCell ⟨w.heap.size + 1 + 1, 1, none⟩ (.string (zh u))).setCell ⟨w.heap.size + 1 + 1, 2, none⟩ (.bool (zs u))) = x4 at hP
 have hB1 := hP.fc
 simp only [fcG, cellsF, neK, and_true, ne_eq, Nat.zero_add, Nat.reduceAdd] at hB1
 replace hL0 := hP
 have hP := hL0.put 1 (w.heap.size + 1 + 1 + 1) _ rfl [.int .u64 ((lo v : Nat) : Int), .string (hs v)] rfl
 simp only [setAll, List.set_cons_zero, List.set_cons_succ] at hP
 generalize hput2 : ((x4.setCell ⟨w.heap.size + 1 + 1 + 1, 0, none⟩ (.int .u64 ((lo v : Nat) : Int))).setCell ⟨w.heap.size + 1 + 1 + 1, 1, none⟩ (.string (hs v))) = x5 at hP
 have hB2 := hP.fc
 simp only [fcG, cellsF, neK, and_true, ne_eq, Nat.zero_add, Nat.reduceAdd] at hB2
 replace hL0 := hP
 go_wp2_with fail
 exact bodyPost_ret (v := .tuple #[intV u, natV v]) (by simp [results, Tryz.results147, go_sem, hB2]) rfl ⟨rfl, hL0.bl⟩
set_option maxHeartbeats 4000000 in
set_option maxRecDepth 100000 in
theorem times_one (z : Int) (HO : RT 81 #[.int .u64 1] (natV 1)) (w : World) :
  Calls Tryz.prog 150 #[intV z, natV 1] w fun xe w' => xe = .returned (intV z) ∧ Below w.heap.size w w' := by
 have hL0 : GL w w [] := GL.start w
 replace HO := Lib.hid HO
 replace hL0 := (((hL0.new rfl [.int .u64 ((zl z : Nat) : Int), .string (zh z), .bool (zs z)] 39).new (K := w.heap.size + 1) (szA _ _) [.int .u64 ((lo 1 : Nat) : Int), .string (hs 1)] 32).new (K := w.heap.size + 1 + 1) (by simp only [World.size_alloc]) [.int .u64 0, .string ⟨#[]⟩, .bool false] 39)
 generalize hweq : (((w.alloc (.cells #[.int .u64 ((zl z : Nat) : Int), .string (zh z), .bool (zs z)] 39)).alloc (.cells #[.int .u64 ((lo 1 : Nat) : Int), .string (hs 1)] 32)).alloc (.cells #[.int .u64 0, .string ⟨#[]⟩, .bool false] 39)) = x1 at hL0
 go_enter Tryz.func150, Tryz.ntmps150
 go_upto_region 1 with fail
 clear hweq
 obtain ⟨α, iα, F, hF1, hF2⟩ := cls x1
 have hq0 := cls_box hF1 hL0 _ _ (List.mem_cons_of_mem _ List.mem_cons_self)
 simp only [cellsC, and_true, Nat.zero_add, Nat.reduceAdd] at hq0
 refine region_qs 3 (C := fun w' => ∃ x, w' = F x) (by kernel_rfl) (by kernel_rfl) (cls_drew hF2) ?_
 simp only [List.take_succ_cons, List.take_zero, List.drop_succ_cons, List.drop_zero, List.take_nil, List.drop_nil]
 repeat (go_big_quiet_step (first | fail | (go_at_call 81; with_reducible exact cls_call hF1 hF2 HO.out _)))
 refine wpQuiet_nil ?_
 rintro wq ⟨xq, rfl⟩
 replace hL0 := hL0.call (hF1 xq)
 clear  hq0 hF2
 generalize F xq = x2 at hL0 ⊢
 clear hF1 xq iα F α
 have hA := hL0.fc
 simp only [fcG, cellsF, neK, and_true, ne_eq, Nat.zero_add, Nat.reduceAdd] at hA
 have hP := hL0.put 0 (w.heap.size + 1 + 1) _ rfl [.int .u64 ((zl z : Nat) : Int), .string (zh z), .bool (zs z)] rfl
 simp only [setAll, List.set_cons_zero, List.set_cons_succ] at hP
 generalize hput1 : (((x2.setCell ⟨w.heap.size + 1 + 1, 0, none⟩ (.int .u64 ((zl z : Nat) : Int))).setCell ⟨w.heap.size + 1 + 1, 1, none⟩ (.string (zh z))).setCell ⟨w.heap.size + 1 + 1, 2, none⟩ (.bool (zs z))) = x3 at hP
 have hB1 := hP.fc
 simp only [fcG, cellsF, neK, and_true, ne_eq, Nat.zero_add, Nat.reduceAdd] at hB1
 replace hL0 := hP
 go_wp2_with fail
 exact bodyPost_ret (v := intV z) (by simp [results, Tryz.results150, go_sem, hB1]) rfl ⟨rfl, hL0.bl⟩
set_option maxHeartbeats 4000000 in
set_option maxRecDepth 100000 in
theorem times_mul (z f p : Int) (d : Nat) (HO : RT 81 #[.int .u64 1] (natV 1)) (HF : RT 122 #[.bool false, natV d] (intV f)) (HM : RT 32 #[intV z, intV f] (intV p)) (hd : d ≠ 1) (w : World) :
  Calls Tryz.prog 150 #[intV z, natV d] w fun xe w' => xe = .returned (intV p) ∧ Below w.heap.size w w' := by
 have hL0 : GL w w [] := GL.start w
 replace HO := Lib.hid HO
 replace HF := Lib.hid HF
 replace HM := Lib.hid HM
 have hz := ne_nat hd
 clear hd
 rcases hz with e0 | ⟨e0, e1⟩
 all_goals (
  replace hL0 := (((hL0.new rfl [.int .u64 ((zl z : Nat) : Int), .string (zh z), .bool (zs z)] 39).new (K := w.heap.size + 1) (szA _ _) [.int .u64 ((lo d : Nat) : Int), .string (hs d)] 32).new (K := w.heap.size + 1 + 1) (by simp only [World.size_alloc]) [.int .u64 0, .string ⟨#[]⟩, .bool false] 39)
  generalize hweq : (((w.alloc (.cells #[.int .u64 ((zl z : Nat) : Int), .string (zh z), .bool (zs z)] 39)).alloc (.cells #[.int .u64 ((lo d : Nat) : Int), .string (hs d)] 32)).alloc (.cells #[.int .u64 0, .string ⟨#[]⟩, .bool false] 39)) = x1 at hL0
  go_enter Tryz.func150, Tryz.ntmps150
  go_upto_region 1 with fail
  clear hweq
  obtain ⟨α, iα, F, hF1, hF2⟩ := cls x1
  have hq0 := cls_box hF1 hL0 _ _ (List.mem_cons_of_mem _ List.mem_cons_self)
  simp only [cellsC, and_true, Nat.zero_add, Nat.reduceAdd] at hq0
  refine region_qs 3 (C := fun w' => ∃ x, w' = F x) (by kernel_rfl) (by kernel_rfl) (cls_drew hF2) ?_
  simp only [List.take_succ_cons, List.take_zero, List.drop_succ_cons, List.drop_zero, List.take_nil, List.drop_nil]
  repeat (go_big_quiet_step (first | fail | (go_at_call 81; with_reducible exact cls_call hF1 hF2 HO.out _)))
  refine wpQuiet_nil ?_
  rintro wq ⟨xq, rfl⟩
  replace hL0 := hL0.call (hF1 xq)
  clear  hq0 hF2
  generalize F xq = x2 at hL0 ⊢
  clear hF1 xq iα F α
  go_upto_region 3 with fail
  obtain ⟨α, iα, F, hF1, hF2⟩ := cls x2
  have hq0 := cls_box hF1 hL0 _ _ (List.mem_cons_of_mem _ List.mem_cons_self)
  simp only [cellsC, and_true, Nat.zero_add, Nat.reduceAdd] at hq0
  have hq1 := cls_box hF1 hL0 _ _ (List.mem_cons_of_mem _ (List.mem_cons_of_mem _ List.mem_cons_self))
  simp only [cellsC, and_true, Nat.zero_add, Nat.reduceAdd] at hq1
  refine region_qs 4 (C := fun w' => ∃ x, w' = F x) (by kernel_rfl) (by kernel_rfl) (cls_drew hF2) ?_
  simp only [List.take_succ_cons, List.take_zero, List.drop_succ_cons, List.drop_zero, List.take_nil, List.drop_nil]
  repeat (go_big_quiet_step (first | fail | (go_at_call 122; with_reducible exact cls_call hF1 hF2 HF.out _) | (go_at_call 32; with_reducible exact cls_call hF1 hF2 HM.out _)))
  refine wpQuiet_nil ?_
  rintro wq ⟨xq, rfl⟩
  replace hL0 := hL0.call (hF1 xq)
  clear  hq0 hq1 hF2
  generalize F xq = x3 at hL0 ⊢
  clear hF1 xq iα F α
  have hA := hL0.fc
  simp only [fcG, cellsF, neK, and_true, ne_eq, Nat.zero_add, Nat.reduceAdd] at hA
  have hP := hL0.put 0 (w.heap.size + 1 + 1) _ rfl [.int .u64 ((zl p : Nat) : Int), .string (zh p), .bool (zs p)] rfl
  simp only [setAll, List.set_cons_zero, List.set_cons_succ] at hP
  generalize hput1 : (((x3.setCell ⟨w.heap.size + 1 + 1, 0, none⟩ (.int .u64 ((zl p : Nat) : Int))).setCell ⟨w.heap.size + 1 + 1, 1, none⟩ (.string (zh p))).setCell ⟨w.heap.size + 1 + 1, 2, none⟩ (.bool (zs p))) = x4 at hP
  have hB1 := hP.fc
  simp only [fcG, cellsF, neK, and_true, ne_eq, Nat.zero_add, Nat.reduceAdd] at hB1
  replace hL0 := hP
  go_wp2_with fail
  exact bodyPost_ret (v := intV p) (by simp [results, Tryz.results150, go_sem, hB1]) rfl ⟨rfl, hL0.bl⟩)
set_option maxHeartbeats 4000000 in
set_option maxRecDepth 100000 in
theorem int_w (k z : Int) (HO : RT 120 #[.int .i64 k] (intV z)) (w : World) :
  Calls Tryz.prog 87 #[.int .i64 k] w fun xe w' => xe = .returned (.agg #[.int .u64 ((zl z : Nat) : Int), .string (zh z), .bool (zs z), .int .u64 0, .string ⟨#[]⟩]) ∧ Below w.heap.size w w' := by
 have hL0 : GL w w [] := GL.start w
 replace HO := Lib.hid HO
 replace hL0 := (hL0.new rfl [.int .u64 0, .string ⟨#[]⟩, .bool false, .int .u64 0, .string ⟨#[]⟩] 79)
 generalize hweq : (w.alloc (.cells #[.int .u64 0, .string ⟨#[]⟩, .bool false, .int .u64 0, .string ⟨#[]⟩] 79)) = x1 at hL0
 go_enter Tryz.func87, Tryz.ntmps87
 go_wp2_with fail
 with_reducible refine Calls.mono (HO.out _) ?_
 rintro e x2 ⟨rfl, hb⟩
 replace hL0 := hL0.call hb
 clear hb hweq
 have hA := hL0.fc
 simp only [fcG, cellsF, neK, and_true, ne_eq, Nat.zero_add, Nat.reduceAdd] at hA
 have hP := hL0.put 0 (w.heap.size) _ rfl [.int .u64 ((zl z : Nat) : Int), .string (zh z), .bool (zs z), .int .u64 0, .string ⟨#[]⟩] rfl
 simp only [setAll, List.set_cons_zero, List.set_cons_succ] at hP
 generalize hput1 : (((((x2.setCell ⟨w.heap.size, 0, none⟩ (.int .u64 ((zl z : Nat) : Int))).setCell ⟨w.heap.size, 1, none⟩ (.string (zh z))).setCell ⟨w.heap.size, 2, none⟩ (.bool (zs z))).setCell ⟨w.heap.size, 3, none⟩ (.int .u64 0)).setCell ⟨w.heap.size, 4, none⟩ (.string ⟨#[]⟩)) = x3 at hP
 have hB1 := hP.fc
 simp only [fcG, cellsF, neK, and_true, ne_eq, Nat.zero_add, Nat.reduceAdd] at hB1
 replace hL0 := hP
 go_wp2_with fail
 exact bodyPost_ret (v := .agg #[.int .u64 ((zl z : Nat) : Int), .string (zh z), .bool (zs z), .int .u64 0, .string ⟨#[]⟩]) (by simp [results, Tryz.results87, go_sem, hB1]) rfl ⟨rfl, hL0.bl⟩
set_option maxHeartbeats 4000000 in
set_option maxRecDepth 100000 in
theorem fof_true (x y s z p : Int) (a b : Int) (d e : Nat) (c : Int) (HO : RT 120 #[.int .i64 a] (intV x)) (HQ : RT 120 #[.int .i64 b] (intV y)) (HS : RT 36 #[intV y] (.int .i64 s)) (HN : RT 34 #[intV x] (intV z)) (HA : RT 40 #[intV y] (natV d)) (HF : RT 80 #[intV z, natV d] (.tuple #[frV p e, .int .i64 c])) (hsg : decide (s < 0) = true) (w : World) :
  Calls Tryz.prog 138 #[.int .i64 a, .int .i64 b] w fun xe w' => xe = .returned (.tuple #[frV p e, .int .i64 c]) ∧ Below w.heap.size w w' := by
 have hL0 : GL w w [] := GL.start w
 replace HO := Lib.hid HO
 replace HQ := Lib.hid HQ
 replace HS := Lib.hid HS
 replace HN := Lib.hid HN
 replace HA := Lib.hid HA
 replace HF := Lib.hid HF
 replace hL0 := (hL0.new rfl [.int .u64 0, .string ⟨#[]⟩, .bool false, .int .u64 0, .string ⟨#[]⟩] 79)
 generalize hweq : (w.alloc (.cells #[.int .u64 0, .string ⟨#[]⟩, .bool false, .int .u64 0, .string ⟨#[]⟩] 79)) = x1 at hL0
 go_enter Tryz.func138, Tryz.ntmps138
 go_wp2_with fail
 with_reducible refine Calls.mono (HO.out _) ?_
 rintro e x2 ⟨rfl, hb⟩
 replace hL0 := hL0.call hb
 clear hb hweq
 go_wp2_with fail
 with_reducible refine Calls.mono (HQ.out _) ?_
 rintro e x3 ⟨rfl, hb⟩
 replace hL0 := hL0.call hb
 clear hb
 replace hL0 := ((hL0.new rfl [.int .u64 ((zl x : Nat) : Int), .string (zh x), .bool (zs x)] 39).new (K := x3.heap.size + 1) (szA _ _) [.int .u64 ((zl y : Nat) : Int), .string (zh y), .bool (zs y)] 39)
 generalize hweq : ((x3.alloc (.cells #[.int .u64 ((zl x : Nat) : Int), .string (zh x), .bool (zs x)] 39)).alloc (.cells #[.int .u64 ((zl y : Nat) : Int), .string (zh y), .bool (zs y)] 39)) = x4 at hL0
 have hN0 := cells_of _ 0 [] rfl (hL0.get _ _ List.mem_cons_self)
 simp only [cellsF, and_true, Nat.zero_add, Nat.reduceAdd] at hN0
 go_wp2_with fail
 clear hN0
 with_reducible refine Calls.mono (HS.out _) ?_
 rintro e x5 ⟨rfl, hb⟩
 replace hL0 := hL0.call hb
 clear hb hweq
 have hN0 := cells_of _ 0 [] rfl (hL0.get _ _ (List.mem_cons_of_mem _ List.mem_cons_self))
 simp only [cellsF, and_true, Nat.zero_add, Nat.reduceAdd] at hN0
 go_wp2_with fail
 clear hN0
 with_reducible refine Calls.mono (HN.out _) ?_
 rintro e x6 ⟨rfl, hb⟩
 replace hL0 := hL0.call hb
 clear hb
 have hA := hL0.fc
 simp only [fcG, cellsF, neK, and_true, ne_eq, Nat.zero_add, Nat.reduceAdd] at hA
 have hP := hL0.put 1 (x3.heap.size) _ rfl [.int .u64 ((zl z : Nat) : Int), .string (zh z), .bool (zs z)] rfl
 simp only [setAll, List.set_cons_zero, List.set_cons_succ] at hP
 generalize hput1 : (((x6.setCell ⟨x3.heap.size, 0, none⟩ (.int .u64 ((zl z : Nat) : Int))).setCell ⟨x3.heap.size, 1, none⟩ (.string (zh z))).setCell ⟨x3.heap.size, 2, none⟩ (.bool (zs z))) = x7 at hP
 have hB1 := hP.fc
 simp only [fcG, cellsF, neK, and_true, ne_eq, Nat.zero_add, Nat.reduceAdd] at hB1
 replace hL0 := hP
 go_upto_region 4 with fail
 clear hA
 clear hput1 hB1
 obtain ⟨α, iα, F, hF1, hF2⟩ := cls x7
 have hq0 := cls_box hF1 hL0 _ _ List.mem_cons_self
 simp only [cellsC, and_true, Nat.zero_add, Nat.reduceAdd] at hq0
 have hq1 := cls_box hF1 hL0 _ _ (List.mem_cons_of_mem _ List.mem_cons_self)
 simp only [cellsC, and_true, Nat.zero_add, Nat.reduceAdd] at hq1
 refine region_qs 6 (C := fun w' => ∃ x, w' = F x) (by kernel_rfl) (by kernel_rfl) (cls_drew hF2) ?_
 simp only [List.take_succ_cons, List.take_zero, List.drop_succ_cons, List.drop_zero, List.take_nil, List.drop_nil]
 repeat (go_big_quiet_step (first | fail | (go_at_call 40; with_reducible exact cls_call hF1 hF2 HA.out _) | (go_at_call 80; with_reducible exact cls_call hF1 hF2 HF.out _)))
 refine wpQuiet_nil ?_
 rintro wq ⟨xq, rfl⟩
 replace hL0 := hL0.call (hF1 xq)
 clear  hq0 hq1 hF2
 generalize F xq = x8 at hL0 ⊢
 clear hF1 xq iα F α
 have hA := hL0.fc
 simp only [fcG, cellsF, neK, and_true, ne_eq, Nat.zero_add, Nat.reduceAdd] at hA
 have hP := hL0.put 2 (w.heap.size) _ rfl [.int .u64 ((zl p : Nat) : Int), .string (zh p), .bool (zs p), .int .u64 ((lo e : Nat) : Int), .string (hs e)] rfl
 simp only [setAll, List.set_cons_zero, List.set_cons_succ] at hP
 generalize hput2 : (((((x8.setCell ⟨w.heap.size, 0, none⟩ (.int .u64 ((zl p : Nat) : Int))).setCell ⟨w.heap.size, 1, none⟩ (.string (zh p))).setCell ⟨w.heap.size, 2, none⟩ (.bool (zs p))).setCell ⟨w.heap.size, 3, none⟩ (.int .u64 ((lo e : Nat) : Int))).setCell ⟨w.heap.size, 4, none⟩ (.string (hs e))) = x9 at hP
 have hB2 := hP.fc
 simp only [fcG, cellsF, neK, and_true, ne_eq, Nat.zero_add, Nat.reduceAdd] at hB2
 replace hL0 := hP
 go_wp2_with fail
 exact bodyPost_ret (v := .tuple #[frV p e, .int .i64 c]) (by simp [results, Tryz.results138, go_sem, hB2]) rfl ⟨rfl, hL0.bl⟩
set_option maxHeartbeats 4000000 in
set_option maxRecDepth 100000 in
theorem fof_false (x y s z p : Int) (a b : Int) (d e : Nat) (c : Int) (HO : RT 120 #[.int .i64 a] (intV x)) (HQ : RT 120 #[.int .i64 b] (intV y)) (HS : RT 36 #[intV y] (.int .i64 s)) (HA : RT 40 #[intV y] (natV d)) (HF : RT 80 #[intV x, natV d] (.tuple #[frV p e, .int .i64 c])) (hsg : decide (s < 0) = false) (w : World) :
  Calls Tryz.prog 138 #[.int .i64 a, .int .i64 b] w fun xe w' => xe = .returned (.tuple #[frV p e, .int .i64 c]) ∧ Below w.heap.size w w' := by
 have hL0 : GL w w [] := GL.start w
 replace HO := Lib.hid HO
 replace HQ := Lib.hid HQ
 replace HS := Lib.hid HS
 replace HA := Lib.hid HA
 replace HF := Lib.hid HF
 replace hL0 := (hL0.new rfl [.int .u64 0, .string ⟨#[]⟩, .bool false, .int .u64 0, .string ⟨#[]⟩] 79)
 generalize hweq : (w.alloc (.cells #[.int .u64 0, .string ⟨#[]⟩, .bool false, .int .u64 0, .string ⟨#[]⟩] 79)) = x1 at hL0
 go_enter Tryz.func138, Tryz.ntmps138
 go_wp2_with fail
 with_reducible refine Calls.mono (HO.out _) ?_
 rintro e x2 ⟨rfl, hb⟩
 replace hL0 := hL0.call hb
 clear hb hweq
 go_wp2_with fail
 with_reducible refine Calls.mono (HQ.out _) ?_
 rintro e x3 ⟨rfl, hb⟩
 replace hL0 := hL0.call hb
 clear hb
 replace hL0 := ((hL0.new rfl [.int .u64 ((zl x : Nat) : Int), .string (zh x), .bool (zs x)] 39).new (K := x3.heap.size + 1) (szA _ _) [.int .u64 ((zl y : Nat) : Int), .string (zh y), .bool (zs y)] 39)
 generalize hweq : ((x3.alloc (.cells #[.int .u64 ((zl x : Nat) : Int), .string (zh x), .bool (zs x)] 39)).alloc (.cells #[.int .u64 ((zl y : Nat) : Int), .string (zh y), .bool (zs y)] 39)) = x4 at hL0
 have hN0 := cells_of _ 0 [] rfl (hL0.get _ _ List.mem_cons_self)
 simp only [cellsF, and_true, Nat.zero_add, Nat.reduceAdd] at hN0
 go_wp2_with fail
 clear hN0
 with_reducible refine Calls.mono (HS.out _) ?_
 rintro e x5 ⟨rfl, hb⟩
 replace hL0 := hL0.call hb
 clear hb hweq
 go_upto_region 4 with fail
 obtain ⟨α, iα, F, hF1, hF2⟩ := cls x5
 have hq0 := cls_box hF1 hL0 _ _ List.mem_cons_self
 simp only [cellsC, and_true, Nat.zero_add, Nat.reduceAdd] at hq0
 have hq1 := cls_box hF1 hL0 _ _ (List.mem_cons_of_mem _ List.mem_cons_self)
 simp only [cellsC, and_true, Nat.zero_add, Nat.reduceAdd] at hq1
 refine region_qs 6 (C := fun w' => ∃ x, w' = F x) (by kernel_rfl) (by kernel_rfl) (cls_drew hF2) ?_
 simp only [List.take_succ_cons, List.take_zero, List.drop_succ_cons, List.drop_zero, List.take_nil, List.drop_nil]
 repeat (go_big_quiet_step (first | fail | (go_at_call 40; with_reducible exact cls_call hF1 hF2 HA.out _) | (go_at_call 80; with_reducible exact cls_call hF1 hF2 HF.out _)))
 refine wpQuiet_nil ?_
 rintro wq ⟨xq, rfl⟩
 replace hL0 := hL0.call (hF1 xq)
 clear  hq0 hq1 hF2
 generalize F xq = x6 at hL0 ⊢
 clear hF1 xq iα F α
 have hA := hL0.fc
 simp only [fcG, cellsF, neK, and_true, ne_eq, Nat.zero_add, Nat.reduceAdd] at hA
 have hP := hL0.put 2 (w.heap.size) _ rfl [.int .u64 ((zl p : Nat) : Int), .string (zh p), .bool (zs p), .int .u64 ((lo e : Nat) : Int), .string (hs e)] rfl
 simp only [setAll, List.set_cons_zero, List.set_cons_succ] at hP
 generalize hput1 : (((((x6.setCell ⟨w.heap.size, 0, none⟩ (.int .u64 ((zl p : Nat) : Int))).setCell ⟨w.heap.size, 1, none⟩ (.string (zh p))).setCell ⟨w.heap.size, 2, none⟩ (.bool (zs p))).setCell ⟨w.heap.size, 3, none⟩ (.int .u64 ((lo e : Nat) : Int))).setCell ⟨w.heap.size, 4, none⟩ (.string (hs e))) = x7 at hP
 have hB1 := hP.fc
 simp only [fcG, cellsF, neK, and_true, ne_eq, Nat.zero_add, Nat.reduceAdd] at hB1
 replace hL0 := hP
 go_wp2_with fail
 exact bodyPost_ret (v := .tuple #[frV p e, .int .i64 c]) (by simp [results, Tryz.results138, go_sem, hB1]) rfl ⟨rfl, hL0.bl⟩
set_option maxHeartbeats 4000000 in
set_option maxRecDepth 100000 in
theorem floor_w (n y q r : Int) (e d : Nat) (HD : RT 148 #[frV n e] (natV d)) (HF : RT 122 #[.bool false, natV d] (intV y)) (HV : RT 44 #[intV n, intV y] (.tuple #[intV q, intV r, .bool true])) (w : World) :
  Calls Tryz.prog 75 #[frV n e] w fun xe w' => xe = .returned (intV q) ∧ Below w.heap.size w w' := by
 have hL0 : GL w w [] := GL.start w
 replace HD := Lib.hid HD
 replace HF := Lib.hid HF
 replace HV := Lib.hid HV
 replace hL0 := ((hL0.new rfl [.int .u64 ((zl n : Nat) : Int), .string (zh n), .bool (zs n), .int .u64 ((lo e : Nat) : Int), .string (hs e)] 79).new (K := w.heap.size + 1) (szA _ _) [.int .u64 0, .string ⟨#[]⟩, .bool false] 39)
 generalize hweq : ((w.alloc (.cells #[.int .u64 ((zl n : Nat) : Int), .string (zh n), .bool (zs n), .int .u64 ((lo e : Nat) : Int), .string (hs e)] 79)).alloc (.cells #[.int .u64 0, .string ⟨#[]⟩, .bool false] 39)) = x1 at hL0
 go_enter Tryz.func75, Tryz.ntmps75
 go_upto_region 1 with fail
 clear hweq
 refine region_gh (by kernel_rfl) (by kernel_rfl) ?_
 refine lex_seg (gl := []) 10 (by kernel_rfl) ?_
 intro α iα F hF1 hF2
 have hq := GL.seg hF1 hL0
 simp only [fcC, cellsC, and_true, Nat.zero_add, Nat.reduceAdd] at hq
 simp only [List.take_succ_cons, List.take_zero, List.drop_succ_cons, List.drop_zero, List.take_nil, List.drop_nil]
 repeat (go_big_quiet_step (first | fail | (go_at_call 148; with_reducible exact seg_call hF2 HD.out _) | (go_at_call 122; with_reducible exact seg_call hF2 HF.out _) | (go_at_call 44; with_reducible exact seg_call hF2 HV.out _)))
 refine wpQuiet_nil ?_
 clear hq hF1 hF2 iα F α
 refine lex_new [.int .u64 0, .string ⟨#[]⟩, .bool false] 3 39 39 rfl rfl (of_decide_eq_true (by kernel_rfl)) (by kernel_rfl) rfl new_int ?_
 simp only [Act.put, List.setIfInBounds_toArray, List.set_cons_succ, List.set_cons_zero]
 refine lex_new [.int .u64 0, .string ⟨#[]⟩, .bool false] 4 39 39 rfl rfl (of_decide_eq_true (by kernel_rfl)) (by kernel_rfl) rfl new_int ?_
 simp only [Act.put, List.setIfInBounds_toArray, List.set_cons_succ, List.set_cons_zero]
 refine lex_put [.int .u64 ((zl q : Nat) : Int), .string (zh q), .bool (zs q)] [.int .u64 0, .string ⟨#[]⟩, .bool false] 3 39 (.tmp 13) rfl (by kernel_rfl) (by simp [toG, upd]) rfl (fun w k h => put_int _ _ _ _ _ _ w k h) ?_
 simp only [Act.put]
 refine lex_put [.int .u64 ((zl r : Nat) : Int), .string (zh r), .bool (zs r)] [.int .u64 0, .string ⟨#[]⟩, .bool false] 4 39 (.tmp 14) rfl (by kernel_rfl) (by simp [toG, upd]) rfl (fun w k h => put_int _ _ _ _ _ _ w k h) ?_
 simp only [Act.put]
 refine lex_seg (gl := [(4, [.int .u64 ((zl r : Nat) : Int), .string (zh r), .bool (zs r)], true), (3, [.int .u64 ((zl q : Nat) : Int), .string (zh q), .bool (zs q)], true), (4, [.int .u64 0, .string ⟨#[]⟩, .bool false], false), (3, [.int .u64 0, .string ⟨#[]⟩, .bool false], false)]) 1 (by kernel_rfl) ?_
 intro α iα F hF1 hF2
 have hq := GL.seg hF1 hL0
 simp only [fcC, cellsC, and_true, Nat.zero_add, Nat.reduceAdd] at hq
 simp only [List.take_succ_cons, List.take_zero, List.drop_succ_cons, List.drop_zero, List.take_nil, List.drop_nil]
 repeat (go_big_quiet_step (first | fail | (go_at_call 148; with_reducible exact seg_call hF2 HD.out _) | (go_at_call 122; with_reducible exact seg_call hF2 HF.out _) | (go_at_call 44; with_reducible exact seg_call hF2 HV.out _)))
 refine wpQuiet_nil ?_
 clear hq hF1 hF2 iα F α
 refine lexG_nil ?_
 intro κ x2 hS
 replace hL0 := hL0.ghs hS [(4, [.int .u64 ((zl r : Nat) : Int), .string (zh r), .bool (zs r)]), (3, [.int .u64 ((zl q : Nat) : Int), .string (zh q), .bool (zs q)])] (by simp) (by intro p hp; simp only [List.mem_cons, List.not_mem_nil, or_false] at hp; rcases hp with rfl | rfl <;> exact ⟨_, by simp only [toG, upd]; rfl⟩)
 simp only [List.map_cons, List.map_nil, List.cons_append, List.nil_append] at hL0
 simp only [over_toG, over_nil, Act.put, List.setIfInBounds_toArray, List.set_cons_succ, List.set_cons_zero]
 clear hS
 generalize κ 4 = k2_4 at *
 generalize κ 3 = k2_3 at *
 have hA := hL0.fc
 simp only [fcG, cellsF, neK, and_true, ne_eq, Nat.zero_add, Nat.reduceAdd] at hA
 have hP := hL0.put 2 (w.heap.size + 1) _ rfl [.int .u64 ((zl q : Nat) : Int), .string (zh q), .bool (zs q)] rfl
 simp only [setAll, List.set_cons_zero, List.set_cons_succ] at hP
 generalize hput1 : (((x2.setCell ⟨w.heap.size + 1, 0, none⟩ (.int .u64 ((zl q : Nat) : Int))).setCell ⟨w.heap.size + 1, 1, none⟩ (.string (zh q))).setCell ⟨w.heap.size + 1, 2, none⟩ (.bool (zs q))) = x3 at hP
 have hB1 := hP.fc
 simp only [fcG, cellsF, neK, and_true, ne_eq, Nat.zero_add, Nat.reduceAdd] at hB1
 replace hL0 := hP
 go_wp2_with fail
 exact bodyPost_ret (v := intV q) (by simp [results, Tryz.results75, go_sem, hB1]) rfl ⟨rfl, hL0.bl⟩
set_option maxHeartbeats 4000000 in
set_option maxRecDepth 100000 in
theorem ceil_w (n m q p : Int) (e : Nat) (HN : RT 68 #[frV n e] (frV m e)) (HF : RT 75 #[frV m e] (intV q)) (HG : RT 34 #[intV q] (intV p)) (w : World) :
  Calls Tryz.prog 82 #[frV n e] w fun xe w' => xe = .returned (intV p) ∧ Below w.heap.size w w' := by
 have hL0 : GL w w [] := GL.start w
 replace HN := Lib.hid HN
 replace HF := Lib.hid HF
 replace HG := Lib.hid HG
 replace hL0 := ((hL0.new rfl [.int .u64 ((zl n : Nat) : Int), .string (zh n), .bool (zs n), .int .u64 ((lo e : Nat) : Int), .string (hs e)] 79).new (K := w.heap.size + 1) (szA _ _) [.int .u64 0, .string ⟨#[]⟩, .bool false] 39)
 generalize hweq : ((w.alloc (.cells #[.int .u64 ((zl n : Nat) : Int), .string (zh n), .bool (zs n), .int .u64 ((lo e : Nat) : Int), .string (hs e)] 79)).alloc (.cells #[.int .u64 0, .string ⟨#[]⟩, .bool false] 39)) = x1 at hL0
 go_enter Tryz.func82, Tryz.ntmps82
 have hN0 := cells_of _ 0 [] rfl (hL0.get _ _ (List.mem_cons_of_mem _ List.mem_cons_self))
 simp only [cellsF, and_true, Nat.zero_add, Nat.reduceAdd] at hN0
 go_wp2_with fail
 clear hN0
 with_reducible refine Calls.mono (HN.out _) ?_
 rintro e x2 ⟨rfl, hb⟩
 replace hL0 := hL0.call hb
 clear hb hweq
 go_wp2_with fail
 with_reducible refine Calls.mono (HF.out _) ?_
 rintro e x3 ⟨rfl, hb⟩
 replace hL0 := hL0.call hb
 clear hb
 go_wp2_with fail
 with_reducible refine Calls.mono (HG.out _) ?_
 rintro e x4 ⟨rfl, hb⟩
 replace hL0 := hL0.call hb
 clear hb
 have hA := hL0.fc
 simp only [fcG, cellsF, neK, and_true, ne_eq, Nat.zero_add, Nat.reduceAdd] at hA
 have hP := hL0.put 0 (w.heap.size + 1) _ rfl [.int .u64 ((zl p : Nat) : Int), .string (zh p), .bool (zs p)] rfl
 simp only [setAll, List.set_cons_zero, List.set_cons_succ] at hP
 generalize hput1 : (((x4.setCell ⟨w.heap.size + 1, 0, none⟩ (.int .u64 ((zl p : Nat) : Int))).setCell ⟨w.heap.size + 1, 1, none⟩ (.string (zh p))).setCell ⟨w.heap.size + 1, 2, none⟩ (.bool (zs p))) = x5 at hP
 have hB1 := hP.fc
 simp only [fcG, cellsF, neK, and_true, ne_eq, Nat.zero_add, Nat.reduceAdd] at hB1
 replace hL0 := hP
 go_wp2_with fail
 exact bodyPost_ret (v := intV p) (by simp [results, Tryz.results82, go_sem, hB1]) rfl ⟨rfl, hL0.bl⟩
set_option maxHeartbeats 4000000 in
set_option maxRecDepth 100000 in
theorem fneg_w (n m : Int) (e : Nat) (HN : RT 34 #[intV n] (intV m)) (w : World) :
  Calls Tryz.prog 68 #[frV n e] w fun xe w' => xe = .returned (frV m e) ∧ Below w.heap.size w w' := by
 have hL0 : GL w w [] := GL.start w
 replace HN := Lib.hid HN
 replace hL0 := ((hL0.new rfl [.int .u64 ((zl n : Nat) : Int), .string (zh n), .bool (zs n), .int .u64 ((lo e : Nat) : Int), .string (hs e)] 79).new (K := w.heap.size + 1) (szA _ _) [.int .u64 0, .string ⟨#[]⟩, .bool false, .int .u64 0, .string ⟨#[]⟩] 79)
 generalize hweq : ((w.alloc (.cells #[.int .u64 ((zl n : Nat) : Int), .string (zh n), .bool (zs n), .int .u64 ((lo e : Nat) : Int), .string (hs e)] 79)).alloc (.cells #[.int .u64 0, .string ⟨#[]⟩, .bool false, .int .u64 0, .string ⟨#[]⟩] 79)) = x1 at hL0
 go_enter Tryz.func68, Tryz.ntmps68
 go_upto_region 1 with fail
 clear hweq
 obtain ⟨α, iα, F, hF1, hF2⟩ := cls x1
 have hq0 := cls_box hF1 hL0 _ _ (List.mem_cons_of_mem _ List.mem_cons_self)
 simp only [cellsC, and_true, Nat.zero_add, Nat.reduceAdd] at hq0
 refine region_qs 6 (C := fun w' => ∃ x, w' = F x) (by kernel_rfl) (by kernel_rfl) (cls_drew hF2) ?_
 simp only [List.take_succ_cons, List.take_zero, List.drop_succ_cons, List.drop_zero, List.take_nil, List.drop_nil]
 repeat (go_big_quiet_step (first | fail | (go_at_call 34; with_reducible exact cls_call hF1 hF2 HN.out _)))
 refine wpQuiet_nil ?_
 rintro wq ⟨xq, rfl⟩
 replace hL0 := hL0.call (hF1 xq)
 clear  hq0 hF2
 generalize F xq = x2 at hL0 ⊢
 clear hF1 xq iα F α
 have hA := hL0.fc
 simp only [fcG, cellsF, neK, and_true, ne_eq, Nat.zero_add, Nat.reduceAdd] at hA
 have hP := hL0.put 0 (w.heap.size + 1) _ rfl [.int .u64 ((zl m : Nat) : Int), .string (zh m), .bool (zs m), .int .u64 ((lo e : Nat) : Int), .string (hs e)] rfl
 simp only [setAll, List.set_cons_zero, List.set_cons_succ] at hP
 generalize hput1 : (((((x2.setCell ⟨w.heap.size + 1, 0, none⟩ (.int .u64 ((zl m : Nat) : Int))).setCell ⟨w.heap.size + 1, 1, none⟩ (.string (zh m))).setCell ⟨w.heap.size + 1, 2, none⟩ (.bool (zs m))).setCell ⟨w.heap.size + 1, 3, none⟩ (.int .u64 ((lo e : Nat) : Int))).setCell ⟨w.heap.size + 1, 4, none⟩ (.string (hs e))) = x3 at hP
 have hB1 := hP.fc
 simp only [fcG, cellsF, neK, and_true, ne_eq, Nat.zero_add, Nat.reduceAdd] at hB1
 replace hL0 := hP
 go_wp2_with fail
 exact bodyPost_ret (v := frV m e) (by simp [results, Tryz.results68, go_sem, hB1]) rfl ⟨rfl, hL0.bl⟩
set_option maxHeartbeats 4000000 in
set_option maxRecDepth 100000 in
theorem fsign_w (n s : Int) (e : Nat) (HS : RT 36 #[intV n] (.int .i64 s)) (w : World) :
  Calls Tryz.prog 72 #[frV n e] w fun xe w' => xe = .returned (.int .i64 s) ∧ Below w.heap.size w w' := by
 have hL0 : GL w w [] := GL.start w
 replace HS := Lib.hid HS
 replace hL0 := (hL0.new rfl [.int .u64 ((zl n : Nat) : Int), .string (zh n), .bool (zs n), .int .u64 ((lo e : Nat) : Int), .string (hs e)] 79)
 generalize hweq : (w.alloc (.cells #[.int .u64 ((zl n : Nat) : Int), .string (zh n), .bool (zs n), .int .u64 ((lo e : Nat) : Int), .string (hs e)] 79)) = x1 at hL0
 go_enter Tryz.func72, Tryz.ntmps72
 have hN0 := cells_of _ 0 [] rfl (hL0.get _ _ List.mem_cons_self)
 simp only [cellsF, and_true, Nat.zero_add, Nat.reduceAdd] at hN0
 go_wp2_with fail
 clear hN0
 with_reducible refine Calls.mono (HS.out _) ?_
 rintro e x2 ⟨rfl, hb⟩
 replace hL0 := hL0.call hb
 clear hb hweq
 go_wp2_with fail
 exact bodyPost_ret (v := .int .i64 s) (by simp [results, Tryz.results72, go_sem]) rfl ⟨rfl, hL0.bl⟩
end Go.Proofs.YtdmoadfnogdfnaaGreatDoor
namespace Go.Proofs.YtdmoadfnogdfnaaGreatDoor
open Go.RowKit
attribute [local irreducible] lo hs sm s64 c64 d64 b64 mh ml pd pc qd qc val hiB str cmpI srD lz nb isq decB zl zh zs
set_option maxHeartbeats 4000000 in
set_option maxRecDepth 100000 in
theorem fcmp_w (m n x y c : Int) (d e p q : Nat) (HD : RT 148 #[frV m d] (natV p)) (HE : RT 148 #[frV n e] (natV q)) (HS : RT 150 #[intV m, natV q] (intV x)) (HT : RT 150 #[intV n, natV p] (intV y)) (HC : RT 38 #[intV x, intV y] (.int .i64 c)) (w : World) :
  Calls Tryz.prog 73 #[frV m d, frV n e] w fun xe w' => xe = .returned (.int .i64 c) ∧ Below w.heap.size w w' := by
 have hL0 : GL w w [] := GL.start w
 replace HD := Lib.hid HD
 replace HE := Lib.hid HE
 replace HS := Lib.hid HS
 replace HT := Lib.hid HT
 replace HC := Lib.hid HC
 replace hL0 := ((hL0.new rfl [.int .u64 ((zl m : Nat) : Int), .string (zh m), .bool (zs m), .int .u64 ((lo d : Nat) : Int), .string (hs d)] 79).new (K := w.heap.size + 1) (szA _ _) [.int .u64 ((zl n : Nat) : Int), .string (zh n), .bool (zs n), .int .u64 ((lo e : Nat) : Int), .string (hs e)] 79)
 generalize hweq : ((w.alloc (.cells #[.int .u64 ((zl m : Nat) : Int), .string (zh m), .bool (zs m), .int .u64 ((lo d : Nat) : Int), .string (hs d)] 79)).alloc (.cells #[.int .u64 ((zl n : Nat) : Int), .string (zh n), .bool (zs n), .int .u64 ((lo e : Nat) : Int), .string (hs e)] 79)) = x1 at hL0
 go_enter Tryz.func73, Tryz.ntmps73
 go_upto_region 1 with fail
 clear hweq
 obtain ⟨α, iα, F, hF1, hF2⟩ := cls x1
 have hq0 := cls_box hF1 hL0 _ _ List.mem_cons_self
 simp only [cellsC, and_true, Nat.zero_add, Nat.reduceAdd] at hq0
 have hq1 := cls_box hF1 hL0 _ _ (List.mem_cons_of_mem _ List.mem_cons_self)
 simp only [cellsC, and_true, Nat.zero_add, Nat.reduceAdd] at hq1
 refine region_qs 12 (C := fun w' => ∃ x, w' = F x) (by kernel_rfl) (by kernel_rfl) (cls_drew hF2) ?_
 simp only [List.take_succ_cons, List.take_zero, List.drop_succ_cons, List.drop_zero, List.take_nil, List.drop_nil]
 repeat (go_big_quiet_step (first | fail | (go_at_call 148; with_reducible exact cls_call hF1 hF2 HE.out _) | (go_at_call 150; with_reducible exact cls_call hF1 hF2 HS.out _) | (go_at_call 148; with_reducible exact cls_call hF1 hF2 HD.out _) | (go_at_call 150; with_reducible exact cls_call hF1 hF2 HT.out _) | (go_at_call 38; with_reducible exact cls_call hF1 hF2 HC.out _)))
 refine wpQuiet_nil ?_
 rintro wq ⟨xq, rfl⟩
 replace hL0 := hL0.call (hF1 xq)
 clear  hq0 hq1 hF2
 generalize F xq = x2 at hL0 ⊢
 clear hF1 xq iα F α
 go_wp2_with fail
 exact bodyPost_ret (v := .int .i64 c) (by simp [results, Tryz.results73, go_sem]) rfl ⟨rfl, hL0.bl⟩
set_option maxHeartbeats 4000000 in
set_option maxRecDepth 100000 in
theorem finv_true (n s m x : Int) (e d a f : Nat) (HS : RT 72 #[frV n e] (.int .i64 s)) (HD : RT 148 #[frV n e] (natV d)) (HF : RT 122 #[.bool true, natV d] (intV m)) (HA : RT 40 #[intV n] (natV a)) (HL : RT 149 #[intV m, natV a] (frV x f)) (hsg : decide (s < 0) = true) (w : World) :
  Calls Tryz.prog 142 #[frV n e] w fun xe w' => xe = .returned (frV x f) ∧ Below w.heap.size w w' := by
 have hL0 : GL w w [] := GL.start w
 replace HS := Lib.hid HS
 replace HD := Lib.hid HD
 replace HF := Lib.hid HF
 replace HA := Lib.hid HA
 replace HL := Lib.hid HL
 replace hL0 := ((hL0.new rfl [.int .u64 ((zl n : Nat) : Int), .string (zh n), .bool (zs n), .int .u64 ((lo e : Nat) : Int), .string (hs e)] 79).new (K := w.heap.size + 1) (szA _ _) [.int .u64 0, .string ⟨#[]⟩, .bool false, .int .u64 0, .string ⟨#[]⟩] 79)
 generalize hweq : ((w.alloc (.cells #[.int .u64 ((zl n : Nat) : Int), .string (zh n), .bool (zs n), .int .u64 ((lo e : Nat) : Int), .string (hs e)] 79)).alloc (.cells #[.int .u64 0, .string ⟨#[]⟩, .bool false, .int .u64 0, .string ⟨#[]⟩] 79)) = x1 at hL0
 go_enter Tryz.func142, Tryz.ntmps142
 go_upto_region 1 with fail
 clear hweq
 obtain ⟨α, iα, F, hF1, hF2⟩ := cls x1
 have hq0 := cls_box hF1 hL0 _ _ (List.mem_cons_of_mem _ List.mem_cons_self)
 simp only [cellsC, and_true, Nat.zero_add, Nat.reduceAdd] at hq0
 refine region_qs 10 (C := fun w' => ∃ x, w' = F x) (by kernel_rfl) (by kernel_rfl) (cls_drew hF2) ?_
 simp only [List.take_succ_cons, List.take_zero, List.drop_succ_cons, List.drop_zero, List.take_nil, List.drop_nil]
 repeat (go_big_quiet_step (first | fail | (go_at_call 72; with_reducible exact cls_call hF1 hF2 HS.out _) | (go_at_call 148; with_reducible exact cls_call hF1 hF2 HD.out _) | (go_at_call 122; with_reducible exact cls_call hF1 hF2 HF.out _) | (go_at_call 40; with_reducible exact cls_call hF1 hF2 HA.out _) | (go_at_call 149; with_reducible exact cls_call hF1 hF2 HL.out _)))
 refine wpQuiet_nil ?_
 rintro wq ⟨xq, rfl⟩
 replace hL0 := hL0.call (hF1 xq)
 clear  hq0 hF2
 generalize F xq = x2 at hL0 ⊢
 clear hF1 xq iα F α
 have hA := hL0.fc
 simp only [fcG, cellsF, neK, and_true, ne_eq, Nat.zero_add, Nat.reduceAdd] at hA
 have hP := hL0.put 0 (w.heap.size + 1) _ rfl [.int .u64 ((zl x : Nat) : Int), .string (zh x), .bool (zs x), .int .u64 ((lo f : Nat) : Int), .string (hs f)] rfl
 simp only [setAll, List.set_cons_zero, List.set_cons_succ] at hP
 generalize hput1 : (((((x2.setCell ⟨w.heap.size + 1, 0, none⟩ (.int .u64 ((zl x : Nat) : Int))).setCell ⟨w.heap.size + 1, 1, none⟩ (.string (zh x))).setCell ⟨w.heap.size + 1, 2, none⟩ (.bool (zs x))).setCell ⟨w.heap.size + 1, 3, none⟩ (.int .u64 ((lo f : Nat) : Int))).setCell ⟨w.heap.size + 1, 4, none⟩ (.string (hs f))) = x3 at hP
 have hB1 := hP.fc
 simp only [fcG, cellsF, neK, and_true, ne_eq, Nat.zero_add, Nat.reduceAdd] at hB1
 replace hL0 := hP
 go_wp2_with fail
 exact bodyPost_ret (v := frV x f) (by simp [results, Tryz.results142, go_sem, hB1]) rfl ⟨rfl, hL0.bl⟩
set_option maxHeartbeats 4000000 in
set_option maxRecDepth 100000 in
theorem finv_false (n s m x : Int) (e d a f : Nat) (HS : RT 72 #[frV n e] (.int .i64 s)) (HD : RT 148 #[frV n e] (natV d)) (HF : RT 122 #[.bool false, natV d] (intV m)) (HA : RT 40 #[intV n] (natV a)) (HL : RT 149 #[intV m, natV a] (frV x f)) (hsg : decide (s < 0) = false) (w : World) :
  Calls Tryz.prog 142 #[frV n e] w fun xe w' => xe = .returned (frV x f) ∧ Below w.heap.size w w' := by
 have hL0 : GL w w [] := GL.start w
 replace HS := Lib.hid HS
 replace HD := Lib.hid HD
 replace HF := Lib.hid HF
 replace HA := Lib.hid HA
 replace HL := Lib.hid HL
 replace hL0 := ((hL0.new rfl [.int .u64 ((zl n : Nat) : Int), .string (zh n), .bool (zs n), .int .u64 ((lo e : Nat) : Int), .string (hs e)] 79).new (K := w.heap.size + 1) (szA _ _) [.int .u64 0, .string ⟨#[]⟩, .bool false, .int .u64 0, .string ⟨#[]⟩] 79)
 generalize hweq : ((w.alloc (.cells #[.int .u64 ((zl n : Nat) : Int), .string (zh n), .bool (zs n), .int .u64 ((lo e : Nat) : Int), .string (hs e)] 79)).alloc (.cells #[.int .u64 0, .string ⟨#[]⟩, .bool false, .int .u64 0, .string ⟨#[]⟩] 79)) = x1 at hL0
 go_enter Tryz.func142, Tryz.ntmps142
 go_upto_region 1 with fail
 clear hweq
 obtain ⟨α, iα, F, hF1, hF2⟩ := cls x1
 have hq0 := cls_box hF1 hL0 _ _ (List.mem_cons_of_mem _ List.mem_cons_self)
 simp only [cellsC, and_true, Nat.zero_add, Nat.reduceAdd] at hq0
 refine region_qs 10 (C := fun w' => ∃ x, w' = F x) (by kernel_rfl) (by kernel_rfl) (cls_drew hF2) ?_
 simp only [List.take_succ_cons, List.take_zero, List.drop_succ_cons, List.drop_zero, List.take_nil, List.drop_nil]
 repeat (go_big_quiet_step (first | fail | (go_at_call 72; with_reducible exact cls_call hF1 hF2 HS.out _) | (go_at_call 148; with_reducible exact cls_call hF1 hF2 HD.out _) | (go_at_call 122; with_reducible exact cls_call hF1 hF2 HF.out _) | (go_at_call 40; with_reducible exact cls_call hF1 hF2 HA.out _) | (go_at_call 149; with_reducible exact cls_call hF1 hF2 HL.out _)))
 refine wpQuiet_nil ?_
 rintro wq ⟨xq, rfl⟩
 replace hL0 := hL0.call (hF1 xq)
 clear  hq0 hF2
 generalize F xq = x2 at hL0 ⊢
 clear hF1 xq iα F α
 have hA := hL0.fc
 simp only [fcG, cellsF, neK, and_true, ne_eq, Nat.zero_add, Nat.reduceAdd] at hA
 have hP := hL0.put 0 (w.heap.size + 1) _ rfl [.int .u64 ((zl x : Nat) : Int), .string (zh x), .bool (zs x), .int .u64 ((lo f : Nat) : Int), .string (hs f)] rfl
 simp only [setAll, List.set_cons_zero, List.set_cons_succ] at hP
 generalize hput1 : (((((x2.setCell ⟨w.heap.size + 1, 0, none⟩ (.int .u64 ((zl x : Nat) : Int))).setCell ⟨w.heap.size + 1, 1, none⟩ (.string (zh x))).setCell ⟨w.heap.size + 1, 2, none⟩ (.bool (zs x))).setCell ⟨w.heap.size + 1, 3, none⟩ (.int .u64 ((lo f : Nat) : Int))).setCell ⟨w.heap.size + 1, 4, none⟩ (.string (hs f))) = x3 at hP
 have hB1 := hP.fc
 simp only [fcG, cellsF, neK, and_true, ne_eq, Nat.zero_add, Nat.reduceAdd] at hB1
 replace hL0 := hP
 go_wp2_with fail
 exact bodyPost_ret (v := frV x f) (by simp [results, Tryz.results142, go_sem, hB1]) rfl ⟨rfl, hL0.bl⟩
set_option maxHeartbeats 4000000 in
set_option maxRecDepth 100000 in
theorem fmul_w (m n u v x y : Int) (d e p q g h k f : Nat) (HD : RT 148 #[frV m d] (natV p)) (HE : RT 148 #[frV n e] (natV q)) (HX : RT 147 #[intV m, natV q] (.tuple #[intV u, natV g])) (HY : RT 147 #[intV n, natV p] (.tuple #[intV v, natV h])) (HM : RT 32 #[intV u, intV v] (intV x)) (HP : RT 107 #[natV h, natV g] (natV k)) (HL : RT 149 #[intV x, natV k] (frV y f)) (w : World) :
  Calls Tryz.prog 65 #[frV m d, frV n e] w fun xe w' => xe = .returned (frV y f) ∧ Below w.heap.size w w' := by
 have hL0 : GL w w [] := GL.start w
 replace HD := Lib.hid HD
 replace HE := Lib.hid HE
 replace HX := Lib.hid HX
 replace HY := Lib.hid HY
 replace HM := Lib.hid HM
 replace HP := Lib.hid HP
 replace HL := Lib.hid HL
 replace hL0 := (((hL0.new rfl [.int .u64 ((zl m : Nat) : Int), .string (zh m), .bool (zs m), .int .u64 ((lo d : Nat) : Int), .string (hs d)] 79).new (K := w.heap.size + 1) (szA _ _) [.int .u64 ((zl n : Nat) : Int), .string (zh n), .bool (zs n), .int .u64 ((lo e : Nat) : Int), .string (hs e)] 79).new (K := w.heap.size + 1 + 1) (by simp only [World.size_alloc]) [.int .u64 0, .string ⟨#[]⟩, .bool false, .int .u64 0, .string ⟨#[]⟩] 79)
 generalize hweq : (((w.alloc (.cells #[.int .u64 ((zl m : Nat) : Int), .string (zh m), .bool (zs m), .int .u64 ((lo d : Nat) : Int), .string (hs d)] 79)).alloc (.cells #[.int .u64 ((zl n : Nat) : Int), .string (zh n), .bool (zs n), .int .u64 ((lo e : Nat) : Int), .string (hs e)] 79)).alloc (.cells #[.int .u64 0, .string ⟨#[]⟩, .bool false, .int .u64 0, .string ⟨#[]⟩] 79)) = x1 at hL0
 go_enter Tryz.func65, Tryz.ntmps65
 go_upto_region 1 with fail
 clear hweq
 refine region_gh (by kernel_rfl) (by kernel_rfl) ?_
 refine lex_seg (gl := []) 8 (by kernel_rfl) ?_
 intro α iα F hF1 hF2
 have hq := GL.seg hF1 hL0
 simp only [fcC, cellsC, and_true, Nat.zero_add, Nat.reduceAdd] at hq
 simp only [List.take_succ_cons, List.take_zero, List.drop_succ_cons, List.drop_zero, List.take_nil, List.drop_nil]
 repeat (go_big_quiet_step (first | fail | (go_at_call 148; with_reducible exact seg_call hF2 HE.out _) | (go_at_call 147; with_reducible exact seg_call hF2 HX.out _)))
 refine wpQuiet_nil ?_
 clear hq hF1 hF2 iα F α
 refine lex_new [.int .u64 0, .string ⟨#[]⟩, .bool false] 5 39 39 rfl rfl (of_decide_eq_true (by kernel_rfl)) (by kernel_rfl) rfl new_int ?_
 simp only [Act.put, List.setIfInBounds_toArray, List.set_cons_succ, List.set_cons_zero]
 refine lex_new [.int .u64 0, .string ⟨#[]⟩] 6 32 32 rfl rfl (of_decide_eq_true (by kernel_rfl)) (by kernel_rfl) rfl new_natc ?_
 simp only [Act.put, List.setIfInBounds_toArray, List.set_cons_succ, List.set_cons_zero]
 refine lex_put [.int .u64 ((zl u : Nat) : Int), .string (zh u), .bool (zs u)] [.int .u64 0, .string ⟨#[]⟩, .bool false] 5 39 (.tmp 15) rfl (by kernel_rfl) (by simp [toG, upd]) rfl (fun w k h => put_int _ _ _ _ _ _ w k h) ?_
 simp only [Act.put]
 refine lex_put [.int .u64 ((lo g : Nat) : Int), .string (hs g)] [.int .u64 0, .string ⟨#[]⟩] 6 32 (.tmp 16) rfl (by kernel_rfl) (by simp [toG, upd]) rfl (fun w k h => put_natc _ _ _ _ w k h) ?_
 simp only [Act.put]
 refine lexG_nil ?_
 intro κ x2 hS
 replace hL0 := hL0.ghs hS [(6, [.int .u64 ((lo g : Nat) : Int), .string (hs g)]), (5, [.int .u64 ((zl u : Nat) : Int), .string (zh u), .bool (zs u)])] (by simp) (by intro p hp; simp only [List.mem_cons, List.not_mem_nil, or_false] at hp; rcases hp with rfl | rfl <;> exact ⟨_, by simp only [toG, upd]; rfl⟩)
 simp only [List.map_cons, List.map_nil, List.cons_append, List.nil_append] at hL0
 simp only [over_toG, over_nil, Act.put, List.setIfInBounds_toArray, List.set_cons_succ, List.set_cons_zero]
 clear hS
 generalize κ 6 = k2_6 at *
 generalize κ 5 = k2_5 at *
 go_upto_region 2 with fail
 refine region_gh (by kernel_rfl) (by kernel_rfl) ?_
 refine lex_seg (gl := []) 8 (by kernel_rfl) ?_
 intro α iα F hF1 hF2
 have hq := GL.seg hF1 hL0
 simp only [fcC, cellsC, and_true, Nat.zero_add, Nat.reduceAdd] at hq
 simp only [List.take_succ_cons, List.take_zero, List.drop_succ_cons, List.drop_zero, List.take_nil, List.drop_nil]
 repeat (go_big_quiet_step (first | fail | (go_at_call 148; with_reducible exact seg_call hF2 HD.out _) | (go_at_call 147; with_reducible exact seg_call hF2 HY.out _)))
 refine wpQuiet_nil ?_
 clear hq hF1 hF2 iα F α
 refine lex_new [.int .u64 0, .string ⟨#[]⟩, .bool false] 7 39 39 rfl rfl (of_decide_eq_true (by kernel_rfl)) (by kernel_rfl) rfl new_int ?_
 simp only [Act.put, List.setIfInBounds_toArray, List.set_cons_succ, List.set_cons_zero]
 refine lex_new [.int .u64 0, .string ⟨#[]⟩] 8 32 32 rfl rfl (of_decide_eq_true (by kernel_rfl)) (by kernel_rfl) rfl new_natc ?_
 simp only [Act.put, List.setIfInBounds_toArray, List.set_cons_succ, List.set_cons_zero]
 refine lex_put [.int .u64 ((zl v : Nat) : Int), .string (zh v), .bool (zs v)] [.int .u64 0, .string ⟨#[]⟩, .bool false] 7 39 (.tmp 23) rfl (by kernel_rfl) (by simp [toG, upd]) rfl (fun w k h => put_int _ _ _ _ _ _ w k h) ?_
 simp only [Act.put]
 refine lex_put [.int .u64 ((lo h : Nat) : Int), .string (hs h)] [.int .u64 0, .string ⟨#[]⟩] 8 32 (.tmp 24) rfl (by kernel_rfl) (by simp [toG, upd]) rfl (fun w k h => put_natc _ _ _ _ w k h) ?_
 simp only [Act.put]
 refine lexG_nil ?_
 intro κ x3 hS
 replace hL0 := hL0.ghs hS [(8, [.int .u64 ((lo h : Nat) : Int), .string (hs h)]), (7, [.int .u64 ((zl v : Nat) : Int), .string (zh v), .bool (zs v)])] (by simp) (by intro p hp; simp only [List.mem_cons, List.not_mem_nil, or_false] at hp; rcases hp with rfl | rfl <;> exact ⟨_, by simp only [toG, upd]; rfl⟩)
 simp only [List.map_cons, List.map_nil, List.cons_append, List.nil_append] at hL0
 simp only [over_toG, over_nil, Act.put, List.setIfInBounds_toArray, List.set_cons_succ, List.set_cons_zero]
 clear hS
 generalize κ 8 = k3_8 at *
 generalize κ 7 = k3_7 at *
 go_upto_region 3 with fail
 obtain ⟨α, iα, F, hF1, hF2⟩ := cls x3
 have hq0 := cls_box hF1 hL0 _ _ List.mem_cons_self
 simp only [cellsC, and_true, Nat.zero_add, Nat.reduceAdd] at hq0
 have hq1 := cls_box hF1 hL0 _ _ (List.mem_cons_of_mem _ List.mem_cons_self)
 simp only [cellsC, and_true, Nat.zero_add, Nat.reduceAdd] at hq1
 have hq2 := cls_box hF1 hL0 _ _ (List.mem_cons_of_mem _ (List.mem_cons_of_mem _ List.mem_cons_self))
 simp only [cellsC, and_true, Nat.zero_add, Nat.reduceAdd] at hq2
 have hq3 := cls_box hF1 hL0 _ _ (List.mem_cons_of_mem _ (List.mem_cons_of_mem _ (List.mem_cons_of_mem _ List.mem_cons_self)))
 simp only [cellsC, and_true, Nat.zero_add, Nat.reduceAdd] at hq3
 refine region_qs 7 (C := fun w' => ∃ x, w' = F x) (by kernel_rfl) (by kernel_rfl) (cls_drew hF2) ?_
 simp only [List.take_succ_cons, List.take_zero, List.drop_succ_cons, List.drop_zero, List.take_nil, List.drop_nil]
 repeat (go_big_quiet_step (first | fail | (go_at_call 32; with_reducible exact cls_call hF1 hF2 HM.out _) | (go_at_call 107; with_reducible exact cls_call hF1 hF2 HP.out _) | (go_at_call 149; with_reducible exact cls_call hF1 hF2 HL.out _)))
 refine wpQuiet_nil ?_
 rintro wq ⟨xq, rfl⟩
 replace hL0 := hL0.call (hF1 xq)
 clear  hq0 hq1 hq2 hq3 hF2
 generalize F xq = x4 at hL0 ⊢
 clear hF1 xq iα F α
 have hA := hL0.fc
 simp only [fcG, cellsF, neK, and_true, ne_eq, Nat.zero_add, Nat.reduceAdd] at hA
 have hP := hL0.put 4 (w.heap.size + 1 + 1) _ rfl [.int .u64 ((zl y : Nat) : Int), .string (zh y), .bool (zs y), .int .u64 ((lo f : Nat) : Int), .string (hs f)] rfl
 simp only [setAll, List.set_cons_zero, List.set_cons_succ] at hP
 generalize hput1 : (((((x4.setCell ⟨w.heap.size + 1 + 1, 0, none⟩ (.int .u64 ((zl y : Nat) : Int))).setCell ⟨w.heap.size + 1 + 1, 1, none⟩ (.string (zh y))).setCell ⟨w.heap.size + 1 + 1, 2, none⟩ (.bool (zs y))).setCell ⟨w.heap.size + 1 + 1, 3, none⟩ (.int .u64 ((lo f : Nat) : Int))).setCell ⟨w.heap.size + 1 + 1, 4, none⟩ (.string (hs f))) = x5 at hP
 have hB1 := hP.fc
 simp only [fcG, cellsF, neK, and_true, ne_eq, Nat.zero_add, Nat.reduceAdd] at hB1
 replace hL0 := hP
 go_wp2_with fail
 exact bodyPost_ret (v := frV y f) (by simp [results, Tryz.results65, go_sem, hB1]) rfl ⟨rfl, hL0.bl⟩
set_option maxHeartbeats 4000000 in
set_option maxRecDepth 100000 in
theorem fdiv_zero (m : Int) (d : Nat) (HI : RT 87 #[.int .i64 0] (frV 0 0)) (w : World) :
  Calls Tryz.prog 58 #[frV m d, frV 0 0] w fun xe w' => xe = .returned (.tuple #[.agg #[.int .u64 0, .string ⟨#[]⟩, .bool false, .int .u64 0, .string ⟨#[]⟩], .int .i64 5]) ∧ Below w.heap.size w w' := by
 have hL0 : GL w w [] := GL.start w
 replace HI := Lib.hid HI
 replace hL0 := (((hL0.new rfl [.int .u64 ((zl m : Nat) : Int), .string (zh m), .bool (zs m), .int .u64 ((lo d : Nat) : Int), .string (hs d)] 79).new (K := w.heap.size + 1) (szA _ _) [.int .u64 ((zl 0 : Nat) : Int), .string (zh 0), .bool (zs 0), .int .u64 ((lo 0 : Nat) : Int), .string (hs 0)] 79).new (K := w.heap.size + 1 + 1) (by simp only [World.size_alloc]) [.int .u64 0, .string ⟨#[]⟩, .bool false, .int .u64 0, .string ⟨#[]⟩] 79)
 generalize hweq : (((w.alloc (.cells #[.int .u64 ((zl m : Nat) : Int), .string (zh m), .bool (zs m), .int .u64 ((lo d : Nat) : Int), .string (hs d)] 79)).alloc (.cells #[.int .u64 ((zl 0 : Nat) : Int), .string (zh 0), .bool (zs 0), .int .u64 ((lo 0 : Nat) : Int), .string (hs 0)] 79)).alloc (.cells #[.int .u64 0, .string ⟨#[]⟩, .bool false, .int .u64 0, .string ⟨#[]⟩] 79)) = x1 at hL0
 go_enter Tryz.func58, Tryz.ntmps58
 go_upto_region 1 with fail
 clear hweq
 obtain ⟨α, iα, F, hF1, hF2⟩ := cls x1
 have hq0 := cls_box hF1 hL0 _ _ (List.mem_cons_of_mem _ List.mem_cons_self)
 simp only [cellsC, and_true, Nat.zero_add, Nat.reduceAdd] at hq0
 refine region_qs 3 (C := fun w' => ∃ x, w' = F x) (by kernel_rfl) (by kernel_rfl) (cls_drew hF2) ?_
 simp only [List.take_succ_cons, List.take_zero, List.drop_succ_cons, List.drop_zero, List.take_nil, List.drop_nil]
 repeat (go_big_quiet_step (first | fail | (go_at_call 87; with_reducible exact cls_call hF1 hF2 HI.out _)))
 refine wpQuiet_nil ?_
 rintro wq ⟨xq, rfl⟩
 replace hL0 := hL0.call (hF1 xq)
 clear  hq0 hF2
 generalize F xq = x2 at hL0 ⊢
 clear hF1 xq iα F α
 have hA := hL0.fc
 simp only [fcG, cellsF, neK, and_true, ne_eq, Nat.zero_add, Nat.reduceAdd] at hA
 have hP := hL0.put 0 (w.heap.size + 1 + 1) _ rfl [.int .u64 0, .string ⟨#[]⟩, .bool false, .int .u64 0, .string ⟨#[]⟩] rfl
 simp only [setAll, List.set_cons_zero, List.set_cons_succ] at hP
 generalize hput1 : (((((x2.setCell ⟨w.heap.size + 1 + 1, 0, none⟩ (.int .u64 0)).setCell ⟨w.heap.size + 1 + 1, 1, none⟩ (.string ⟨#[]⟩)).setCell ⟨w.heap.size + 1 + 1, 2, none⟩ (.bool false)).setCell ⟨w.heap.size + 1 + 1, 3, none⟩ (.int .u64 0)).setCell ⟨w.heap.size + 1 + 1, 4, none⟩ (.string ⟨#[]⟩)) = x3 at hP
 have hB1 := hP.fc
 simp only [fcG, cellsF, neK, and_true, ne_eq, Nat.zero_add, Nat.reduceAdd] at hB1
 replace hL0 := hP
 go_wp2_with fail
 exact bodyPost_ret (v := .tuple #[.agg #[.int .u64 0, .string ⟨#[]⟩, .bool false, .int .u64 0, .string ⟨#[]⟩], .int .i64 5]) (by simp [results, Tryz.results58, go_sem, hB1]) rfl ⟨rfl, hL0.bl⟩
set_option maxHeartbeats 4000000 in
set_option maxRecDepth 100000 in
theorem fdiv_w (m n x y : Int) (d e f g : Nat) (HI : RT 87 #[.int .i64 0] (frV 0 0)) (HV : RT 142 #[frV n e] (frV x f)) (HM : RT 65 #[frV m d, frV x f] (frV y g)) (hn : n ≠ 0) (w : World) :
  Calls Tryz.prog 58 #[frV m d, frV n e] w fun xe w' => xe = .returned (.tuple #[frV y g, .int .i64 0]) ∧ Below w.heap.size w w' := by
 have hL0 : GL w w [] := GL.start w
 replace HI := Lib.hid HI
 replace HV := Lib.hid HV
 replace HM := Lib.hid HM
 have hz := ne_int hn
 clear hn
 rcases hz with e0 | ⟨e0, e1⟩ | ⟨e0, e1, e2⟩
 all_goals (
  replace hL0 := (((hL0.new rfl [.int .u64 ((zl m : Nat) : Int), .string (zh m), .bool (zs m), .int .u64 ((lo d : Nat) : Int), .string (hs d)] 79).new (K := w.heap.size + 1) (szA _ _) [.int .u64 ((zl n : Nat) : Int), .string (zh n), .bool (zs n), .int .u64 ((lo e : Nat) : Int), .string (hs e)] 79).new (K := w.heap.size + 1 + 1) (by simp only [World.size_alloc]) [.int .u64 0, .string ⟨#[]⟩, .bool false, .int .u64 0, .string ⟨#[]⟩] 79)
  generalize hweq : (((w.alloc (.cells #[.int .u64 ((zl m : Nat) : Int), .string (zh m), .bool (zs m), .int .u64 ((lo d : Nat) : Int), .string (hs d)] 79)).alloc (.cells #[.int .u64 ((zl n : Nat) : Int), .string (zh n), .bool (zs n), .int .u64 ((lo e : Nat) : Int), .string (hs e)] 79)).alloc (.cells #[.int .u64 0, .string ⟨#[]⟩, .bool false, .int .u64 0, .string ⟨#[]⟩] 79)) = x1 at hL0
  go_enter Tryz.func58, Tryz.ntmps58
  go_upto_region 1 with fail
  clear hweq
  obtain ⟨α, iα, F, hF1, hF2⟩ := cls x1
  have hq0 := cls_box hF1 hL0 _ _ (List.mem_cons_of_mem _ List.mem_cons_self)
  simp only [cellsC, and_true, Nat.zero_add, Nat.reduceAdd] at hq0
  refine region_qs 3 (C := fun w' => ∃ x, w' = F x) (by kernel_rfl) (by kernel_rfl) (cls_drew hF2) ?_
  simp only [List.take_succ_cons, List.take_zero, List.drop_succ_cons, List.drop_zero, List.take_nil, List.drop_nil]
  repeat (go_big_quiet_step (first | fail | (go_at_call 87; with_reducible exact cls_call hF1 hF2 HI.out _)))
  refine wpQuiet_nil ?_
  rintro wq ⟨xq, rfl⟩
  replace hL0 := hL0.call (hF1 xq)
  clear  hq0 hF2
  generalize F xq = x2 at hL0 ⊢
  clear hF1 xq iα F α
  go_upto_region 3 with fail
  obtain ⟨α, iα, F, hF1, hF2⟩ := cls x2
  have hq0 := cls_box hF1 hL0 _ _ (List.mem_cons_of_mem _ List.mem_cons_self)
  simp only [cellsC, and_true, Nat.zero_add, Nat.reduceAdd] at hq0
  have hq1 := cls_box hF1 hL0 _ _ (List.mem_cons_of_mem _ (List.mem_cons_of_mem _ List.mem_cons_self))
  simp only [cellsC, and_true, Nat.zero_add, Nat.reduceAdd] at hq1
  refine region_qs 4 (C := fun w' => ∃ x, w' = F x) (by kernel_rfl) (by kernel_rfl) (cls_drew hF2) ?_
  simp only [List.take_succ_cons, List.take_zero, List.drop_succ_cons, List.drop_zero, List.take_nil, List.drop_nil]
  repeat (go_big_quiet_step (first | fail | (go_at_call 142; with_reducible exact cls_call hF1 hF2 HV.out _) | (go_at_call 65; with_reducible exact cls_call hF1 hF2 HM.out _)))
  refine wpQuiet_nil ?_
  rintro wq ⟨xq, rfl⟩
  replace hL0 := hL0.call (hF1 xq)
  clear  hq0 hq1 hF2
  generalize F xq = x3 at hL0 ⊢
  clear hF1 xq iα F α
  have hA := hL0.fc
  simp only [fcG, cellsF, neK, and_true, ne_eq, Nat.zero_add, Nat.reduceAdd] at hA
  have hP := hL0.put 0 (w.heap.size + 1 + 1) _ rfl [.int .u64 ((zl y : Nat) : Int), .string (zh y), .bool (zs y), .int .u64 ((lo g : Nat) : Int), .string (hs g)] rfl
  simp only [setAll, List.set_cons_zero, List.set_cons_succ] at hP
  generalize hput1 : (((((x3.setCell ⟨w.heap.size + 1 + 1, 0, none⟩ (.int .u64 ((zl y : Nat) : Int))).setCell ⟨w.heap.size + 1 + 1, 1, none⟩ (.string (zh y))).setCell ⟨w.heap.size + 1 + 1, 2, none⟩ (.bool (zs y))).setCell ⟨w.heap.size + 1 + 1, 3, none⟩ (.int .u64 ((lo g : Nat) : Int))).setCell ⟨w.heap.size + 1 + 1, 4, none⟩ (.string (hs g))) = x4 at hP
  have hB1 := hP.fc
  simp only [fcG, cellsF, neK, and_true, ne_eq, Nat.zero_add, Nat.reduceAdd] at hB1
  replace hL0 := hP
  go_wp2_with fail
  exact bodyPost_ret (v := .tuple #[frV y g, .int .i64 0]) (by simp [results, Tryz.results58, go_sem, hB1]) rfl ⟨rfl, hL0.bl⟩)
set_option maxHeartbeats 4000000 in
set_option maxRecDepth 100000 in
theorem fcombine_add (m n x y s u z : Int) (d e p0 q0 g p q r t v f : Nat) (HD : RT 148 #[frV m d] (natV p0)) (HE : RT 148 #[frV n e] (natV q0)) (HG : RT 109 #[natV p0, natV q0] (natV g)) (HP : RT 194 #[natV p0, natV g] (natV p)) (HQ : RT 194 #[natV q0, natV g] (natV q)) (HS : RT 150 #[intV m, natV q] (intV x)) (HT : RT 150 #[intV n, natV p] (intV y)) (HB : RT 28 #[intV x, intV y] (intV s)) (HC : RT 147 #[intV s, natV g] (.tuple #[intV u, natV r])) (HU : RT 107 #[natV p, natV q] (natV t)) (HV : RT 107 #[natV t, natV r] (natV v)) (HL : RT 149 #[intV u, natV v] (frV z f)) (w : World) :
  Calls Tryz.prog 145 #[frV m d, frV n e, .func (.func 28) #[] #[]] w fun xe w' => xe = .returned (frV z f) ∧ Below w.heap.size w w' := by
 have hL0 : GL w w [] := GL.start w
 replace HD := Lib.hid HD
 replace HE := Lib.hid HE
 replace HG := Lib.hid HG
 replace HP := Lib.hid HP
 replace HQ := Lib.hid HQ
 replace HS := Lib.hid HS
 replace HT := Lib.hid HT
 replace HB := Lib.hid HB
 replace HC := Lib.hid HC
 replace HU := Lib.hid HU
 replace HV := Lib.hid HV
 replace HL := Lib.hid HL
 replace hL0 := (((hL0.new rfl [.int .u64 ((zl m : Nat) : Int), .string (zh m), .bool (zs m), .int .u64 ((lo d : Nat) : Int), .string (hs d)] 79).new (K := w.heap.size + 1) (szA _ _) [.int .u64 ((zl n : Nat) : Int), .string (zh n), .bool (zs n), .int .u64 ((lo e : Nat) : Int), .string (hs e)] 79).new (K := w.heap.size + 1 + 1) (by simp only [World.size_alloc]) [.int .u64 0, .string ⟨#[]⟩, .bool false, .int .u64 0, .string ⟨#[]⟩] 79)
 generalize hweq : (((w.alloc (.cells #[.int .u64 ((zl m : Nat) : Int), .string (zh m), .bool (zs m), .int .u64 ((lo d : Nat) : Int), .string (hs d)] 79)).alloc (.cells #[.int .u64 ((zl n : Nat) : Int), .string (zh n), .bool (zs n), .int .u64 ((lo e : Nat) : Int), .string (hs e)] 79)).alloc (.cells #[.int .u64 0, .string ⟨#[]⟩, .bool false, .int .u64 0, .string ⟨#[]⟩] 79)) = x1 at hL0
 go_enter Tryz.func145, Tryz.ntmps145
 go_upto_region 1 with fail
 clear hweq
 refine region_gh (by kernel_rfl) (by kernel_rfl) ?_
 refine lex_seg (gl := []) 5 (by kernel_rfl) ?_
 intro α iα F hF1 hF2
 have hq := GL.seg hF1 hL0
 simp only [fcC, cellsC, and_true, Nat.zero_add, Nat.reduceAdd] at hq
 simp only [List.take_succ_cons, List.take_zero, List.drop_succ_cons, List.drop_zero, List.take_nil, List.drop_nil]
 repeat (go_big_quiet_step (first | fail | (go_at_call 148; with_reducible exact seg_call hF2 HD.out _) | (go_at_call 148; with_reducible exact seg_call hF2 HE.out _) | (go_at_call 109; with_reducible exact seg_call hF2 HG.out _)))
 refine wpQuiet_nil ?_
 clear hq hF1 hF2 iα F α
 refine lex_new [.int .u64 0, .string ⟨#[]⟩] 7 32 32 rfl rfl (of_decide_eq_true (by kernel_rfl)) (by kernel_rfl) rfl new_natc ?_
 simp only [Act.put, List.setIfInBounds_toArray, List.set_cons_succ, List.set_cons_zero]
 refine lex_put [.int .u64 ((lo g : Nat) : Int), .string (hs g)] [.int .u64 0, .string ⟨#[]⟩] 7 32 (.tmp 16) rfl (by kernel_rfl) (by simp [toG, upd]) rfl (fun w k h => put_natc _ _ _ _ w k h) ?_
 simp only [Act.put]
 refine lexG_nil ?_
 intro κ x2 hS
 replace hL0 := hL0.ghs hS [(7, [.int .u64 ((lo g : Nat) : Int), .string (hs g)])] (by simp) (by intro p hp; simp only [List.mem_cons, List.not_mem_nil, or_false] at hp; rcases hp with rfl <;> exact ⟨_, by simp only [toG, upd]; rfl⟩)
 simp only [List.map_cons, List.map_nil, List.cons_append, List.nil_append] at hL0
 simp only [over_toG, over_nil, Act.put, List.setIfInBounds_toArray, List.set_cons_succ, List.set_cons_zero]
 clear hS
 generalize κ 7 = k2_7 at *
 go_upto_region 2 with fail
 refine region_gh (by kernel_rfl) (by kernel_rfl) ?_
 refine lex_seg (gl := []) 8 (by kernel_rfl) ?_
 intro α iα F hF1 hF2
 have hq := GL.seg hF1 hL0
 simp only [fcC, cellsC, and_true, Nat.zero_add, Nat.reduceAdd] at hq
 simp only [List.take_succ_cons, List.take_zero, List.drop_succ_cons, List.drop_zero, List.take_nil, List.drop_nil]
 repeat (go_big_quiet_step (first | fail | (go_at_call 148; with_reducible exact seg_call hF2 HD.out _) | (go_at_call 194; with_reducible exact seg_call hF2 HP.out _) | (go_at_call 148; with_reducible exact seg_call hF2 HE.out _) | (go_at_call 194; with_reducible exact seg_call hF2 HQ.out _)))
 refine wpQuiet_nil ?_
 clear hq hF1 hF2 iα F α
 refine lex_new [.int .u64 0, .string ⟨#[]⟩] 8 32 32 rfl rfl (of_decide_eq_true (by kernel_rfl)) (by kernel_rfl) rfl new_natc ?_
 simp only [Act.put, List.setIfInBounds_toArray, List.set_cons_succ, List.set_cons_zero]
 refine lex_new [.int .u64 0, .string ⟨#[]⟩] 9 32 32 rfl rfl (of_decide_eq_true (by kernel_rfl)) (by kernel_rfl) rfl new_natc ?_
 simp only [Act.put, List.setIfInBounds_toArray, List.set_cons_succ, List.set_cons_zero]
 refine lex_put [.int .u64 ((lo p : Nat) : Int), .string (hs p)] [.int .u64 0, .string ⟨#[]⟩] 8 32 (.tmp 20) rfl (by kernel_rfl) (by simp [toG, upd]) rfl (fun w k h => put_natc _ _ _ _ w k h) ?_
 simp only [Act.put]
 refine lex_put [.int .u64 ((lo q : Nat) : Int), .string (hs q)] [.int .u64 0, .string ⟨#[]⟩] 9 32 (.tmp 24) rfl (by kernel_rfl) (by simp [toG, upd]) rfl (fun w k h => put_natc _ _ _ _ w k h) ?_
 simp only [Act.put]
 refine lexG_nil ?_
 intro κ x3 hS
 replace hL0 := hL0.ghs hS [(9, [.int .u64 ((lo q : Nat) : Int), .string (hs q)]), (8, [.int .u64 ((lo p : Nat) : Int), .string (hs p)])] (by simp) (by intro p hp; simp only [List.mem_cons, List.not_mem_nil, or_false] at hp; rcases hp with rfl | rfl <;> exact ⟨_, by simp only [toG, upd]; rfl⟩)
 simp only [List.map_cons, List.map_nil, List.cons_append, List.nil_append] at hL0
 simp only [over_toG, over_nil, Act.put, List.setIfInBounds_toArray, List.set_cons_succ, List.set_cons_zero]
 clear hS
 generalize κ 9 = k3_9 at *
 generalize κ 8 = k3_8 at *
 go_upto_region 3 with fail
 refine region_gh (by kernel_rfl) (by kernel_rfl) ?_
 refine lex_seg (gl := []) 15 (by kernel_rfl) ?_
 intro α iα F hF1 hF2
 have hq := GL.seg hF1 hL0
 simp only [fcC, cellsC, and_true, Nat.zero_add, Nat.reduceAdd] at hq
 simp only [List.take_succ_cons, List.take_zero, List.drop_succ_cons, List.drop_zero, List.take_nil, List.drop_nil]
 repeat (go_big_quiet_step (first | fail | (go_at_call 150; with_reducible exact seg_call hF2 HS.out _) | (go_at_call 150; with_reducible exact seg_call hF2 HT.out _) | (go_at_call 28; with_reducible exact seg_call hF2 HB.out _) | (go_at_call 147; with_reducible exact seg_call hF2 HC.out _)))
 refine wpQuiet_nil ?_
 clear hq hF1 hF2 iα F α
 refine lex_new [.int .u64 0, .string ⟨#[]⟩, .bool false] 10 39 39 rfl rfl (of_decide_eq_true (by kernel_rfl)) (by kernel_rfl) rfl new_int ?_
 simp only [Act.put, List.setIfInBounds_toArray, List.set_cons_succ, List.set_cons_zero]
 refine lex_new [.int .u64 0, .string ⟨#[]⟩] 11 32 32 rfl rfl (of_decide_eq_true (by kernel_rfl)) (by kernel_rfl) rfl new_natc ?_
 simp only [Act.put, List.setIfInBounds_toArray, List.set_cons_succ, List.set_cons_zero]
 refine lex_put [.int .u64 ((zl u : Nat) : Int), .string (zh u), .bool (zs u)] [.int .u64 0, .string ⟨#[]⟩, .bool false] 10 39 (.tmp 38) rfl (by kernel_rfl) (by simp [toG, upd]) rfl (fun w k h => put_int _ _ _ _ _ _ w k h) ?_
 simp only [Act.put]
 refine lex_put [.int .u64 ((lo r : Nat) : Int), .string (hs r)] [.int .u64 0, .string ⟨#[]⟩] 11 32 (.tmp 39) rfl (by kernel_rfl) (by simp [toG, upd]) rfl (fun w k h => put_natc _ _ _ _ w k h) ?_
 simp only [Act.put]
 refine lexG_nil ?_
 intro κ x4 hS
 replace hL0 := hL0.ghs hS [(11, [.int .u64 ((lo r : Nat) : Int), .string (hs r)]), (10, [.int .u64 ((zl u : Nat) : Int), .string (zh u), .bool (zs u)])] (by simp) (by intro p hp; simp only [List.mem_cons, List.not_mem_nil, or_false] at hp; rcases hp with rfl | rfl <;> exact ⟨_, by simp only [toG, upd]; rfl⟩)
 simp only [List.map_cons, List.map_nil, List.cons_append, List.nil_append] at hL0
 simp only [over_toG, over_nil, Act.put, List.setIfInBounds_toArray, List.set_cons_succ, List.set_cons_zero]
 clear hS
 generalize κ 11 = k4_11 at *
 generalize κ 10 = k4_10 at *
 go_upto_region 4 with fail
 obtain ⟨α, iα, F, hF1, hF2⟩ := cls x4
 have hq0 := cls_box hF1 hL0 _ _ List.mem_cons_self
 simp only [cellsC, and_true, Nat.zero_add, Nat.reduceAdd] at hq0
 have hq1 := cls_box hF1 hL0 _ _ (List.mem_cons_of_mem _ List.mem_cons_self)
 simp only [cellsC, and_true, Nat.zero_add, Nat.reduceAdd] at hq1
 have hq2 := cls_box hF1 hL0 _ _ (List.mem_cons_of_mem _ (List.mem_cons_of_mem _ List.mem_cons_self))
 simp only [cellsC, and_true, Nat.zero_add, Nat.reduceAdd] at hq2
 have hq3 := cls_box hF1 hL0 _ _ (List.mem_cons_of_mem _ (List.mem_cons_of_mem _ (List.mem_cons_of_mem _ List.mem_cons_self)))
 simp only [cellsC, and_true, Nat.zero_add, Nat.reduceAdd] at hq3
 refine region_qs 7 (C := fun w' => ∃ x, w' = F x) (by kernel_rfl) (by kernel_rfl) (cls_drew hF2) ?_
 simp only [List.take_succ_cons, List.take_zero, List.drop_succ_cons, List.drop_zero, List.take_nil, List.drop_nil]
 repeat (go_big_quiet_step (first | fail | (go_at_call 107; with_reducible exact cls_call hF1 hF2 HU.out _) | (go_at_call 107; with_reducible exact cls_call hF1 hF2 HV.out _) | (go_at_call 149; with_reducible exact cls_call hF1 hF2 HL.out _)))
 refine wpQuiet_nil ?_
 rintro wq ⟨xq, rfl⟩
 replace hL0 := hL0.call (hF1 xq)
 clear  hq0 hq1 hq2 hq3 hF2
 generalize F xq = x5 at hL0 ⊢
 clear hF1 xq iα F α
 have hA := hL0.fc
 simp only [fcG, cellsF, neK, and_true, ne_eq, Nat.zero_add, Nat.reduceAdd] at hA
 have hP := hL0.put 5 (w.heap.size + 1 + 1) _ rfl [.int .u64 ((zl z : Nat) : Int), .string (zh z), .bool (zs z), .int .u64 ((lo f : Nat) : Int), .string (hs f)] rfl
 simp only [setAll, List.set_cons_zero, List.set_cons_succ] at hP
 generalize hput1 : (((((x5.setCell ⟨w.heap.size + 1 + 1, 0, none⟩ (.int .u64 ((zl z : Nat) : Int))).setCell ⟨w.heap.size + 1 + 1, 1, none⟩ (.string (zh z))).setCell ⟨w.heap.size + 1 + 1, 2, none⟩ (.bool (zs z))).setCell ⟨w.heap.size + 1 + 1, 3, none⟩ (.int .u64 ((lo f : Nat) : Int))).setCell ⟨w.heap.size + 1 + 1, 4, none⟩ (.string (hs f))) = x6 at hP
 have hB1 := hP.fc
 simp only [fcG, cellsF, neK, and_true, ne_eq, Nat.zero_add, Nat.reduceAdd] at hB1
 replace hL0 := hP
 go_wp2_with fail
 exact bodyPost_ret (v := frV z f) (by simp [results, Tryz.results145, go_sem, hB1]) rfl ⟨rfl, hL0.bl⟩
set_option maxHeartbeats 4000000 in
set_option maxRecDepth 100000 in
theorem fadd_w (m n z : Int) (d e f : Nat) (HC : RT 145 #[frV m d, frV n e, .func (.func 28) #[] #[]] (frV z f)) (w : World) :
  Calls Tryz.prog 61 #[frV m d, frV n e] w fun xe w' => xe = .returned (frV z f) ∧ Below w.heap.size w w' := by
 have hL0 : GL w w [] := GL.start w
 replace HC := Lib.hid HC
 replace hL0 := (((hL0.new rfl [.int .u64 ((zl m : Nat) : Int), .string (zh m), .bool (zs m), .int .u64 ((lo d : Nat) : Int), .string (hs d)] 79).new (K := w.heap.size + 1) (szA _ _) [.int .u64 ((zl n : Nat) : Int), .string (zh n), .bool (zs n), .int .u64 ((lo e : Nat) : Int), .string (hs e)] 79).new (K := w.heap.size + 1 + 1) (by simp only [World.size_alloc]) [.int .u64 0, .string ⟨#[]⟩, .bool false, .int .u64 0, .string ⟨#[]⟩] 79)
 generalize hweq : (((w.alloc (.cells #[.int .u64 ((zl m : Nat) : Int), .string (zh m), .bool (zs m), .int .u64 ((lo d : Nat) : Int), .string (hs d)] 79)).alloc (.cells #[.int .u64 ((zl n : Nat) : Int), .string (zh n), .bool (zs n), .int .u64 ((lo e : Nat) : Int), .string (hs e)] 79)).alloc (.cells #[.int .u64 0, .string ⟨#[]⟩, .bool false, .int .u64 0, .string ⟨#[]⟩] 79)) = x1 at hL0
 go_enter Tryz.func61, Tryz.ntmps61
 have hN0 := cells_of _ 0 [] rfl (hL0.get _ _ (List.mem_cons_of_mem _ List.mem_cons_self))
 simp only [cellsF, and_true, Nat.zero_add, Nat.reduceAdd] at hN0
 have hN1 := cells_of _ 0 [] rfl (hL0.get _ _ (List.mem_cons_of_mem _ (List.mem_cons_of_mem _ List.mem_cons_self)))
 simp only [cellsF, and_true, Nat.zero_add, Nat.reduceAdd] at hN1
 go_wp2_with fail
 clear hN0 hN1
 with_reducible refine Calls.mono (HC.out _) ?_
 rintro e x2 ⟨rfl, hb⟩
 replace hL0 := hL0.call hb
 clear hb hweq
 have hA := hL0.fc
 simp only [fcG, cellsF, neK, and_true, ne_eq, Nat.zero_add, Nat.reduceAdd] at hA
 have hP := hL0.put 0 (w.heap.size + 1 + 1) _ rfl [.int .u64 ((zl z : Nat) : Int), .string (zh z), .bool (zs z), .int .u64 ((lo f : Nat) : Int), .string (hs f)] rfl
 simp only [setAll, List.set_cons_zero, List.set_cons_succ] at hP
 generalize hput1 : (((((x2.setCell ⟨w.heap.size + 1 + 1, 0, none⟩ (.int .u64 ((zl z : Nat) : Int))).setCell ⟨w.heap.size + 1 + 1, 1, none⟩ (.string (zh z))).setCell ⟨w.heap.size + 1 + 1, 2, none⟩ (.bool (zs z))).setCell ⟨w.heap.size + 1 + 1, 3, none⟩ (.int .u64 ((lo f : Nat) : Int))).setCell ⟨w.heap.size + 1 + 1, 4, none⟩ (.string (hs f))) = x3 at hP
 have hB1 := hP.fc
 simp only [fcG, cellsF, neK, and_true, ne_eq, Nat.zero_add, Nat.reduceAdd] at hB1
 replace hL0 := hP
 go_wp2_with fail
 exact bodyPost_ret (v := frV z f) (by simp [results, Tryz.results61, go_sem, hB1]) rfl ⟨rfl, hL0.bl⟩
set_option maxHeartbeats 4000000 in
set_option maxRecDepth 100000 in
theorem fcombine_sub (m n x y s u z : Int) (d e p0 q0 g p q r t v f : Nat) (HD : RT 148 #[frV m d] (natV p0)) (HE : RT 148 #[frV n e] (natV q0)) (HG : RT 109 #[natV p0, natV q0] (natV g)) (HP : RT 194 #[natV p0, natV g] (natV p)) (HQ : RT 194 #[natV q0, natV g] (natV q)) (HS : RT 150 #[intV m, natV q] (intV x)) (HT : RT 150 #[intV n, natV p] (intV y)) (HB : RT 30 #[intV x, intV y] (intV s)) (HC : RT 147 #[intV s, natV g] (.tuple #[intV u, natV r])) (HU : RT 107 #[natV p, natV q] (natV t)) (HV : RT 107 #[natV t, natV r] (natV v)) (HL : RT 149 #[intV u, natV v] (frV z f)) (w : World) :
  Calls Tryz.prog 145 #[frV m d, frV n e, .func (.func 30) #[] #[]] w fun xe w' => xe = .returned (frV z f) ∧ Below w.heap.size w w' := by
 have hL0 : GL w w [] := GL.start w
 replace HD := Lib.hid HD
 replace HE := Lib.hid HE
 replace HG := Lib.hid HG
 replace HP := Lib.hid HP
 replace HQ := Lib.hid HQ
 replace HS := Lib.hid HS
 replace HT := Lib.hid HT
 replace HB := Lib.hid HB
 replace HC := Lib.hid HC
 replace HU := Lib.hid HU
 replace HV := Lib.hid HV
 replace HL := Lib.hid HL
 replace hL0 := (((hL0.new rfl [.int .u64 ((zl m : Nat) : Int), .string (zh m), .bool (zs m), .int .u64 ((lo d : Nat) : Int), .string (hs d)] 79).new (K := w.heap.size + 1) (szA _ _) [.int .u64 ((zl n : Nat) : Int), .string (zh n), .bool (zs n), .int .u64 ((lo e : Nat) : Int), .string (hs e)] 79).new (K := w.heap.size + 1 + 1) (by simp only [World.size_alloc]) [.int .u64 0, .string ⟨#[]⟩, .bool false, .int .u64 0, .string ⟨#[]⟩] 79)
 generalize hweq : (((w.alloc (.cells #[.int .u64 ((zl m : Nat) : Int), .string (zh m), .bool (zs m), .int .u64 ((lo d : Nat) : Int), .string (hs d)] 79)).alloc (.cells #[.int .u64 ((zl n : Nat) : Int), .string (zh n), .bool (zs n), .int .u64 ((lo e : Nat) : Int), .string (hs e)] 79)).alloc (.cells #[.int .u64 0, .string ⟨#[]⟩, .bool false, .int .u64 0, .string ⟨#[]⟩] 79)) = x1 at hL0
 go_enter Tryz.func145, Tryz.ntmps145
 go_upto_region 1 with fail
 clear hweq
 refine region_gh (by kernel_rfl) (by kernel_rfl) ?_
 refine lex_seg (gl := []) 5 (by kernel_rfl) ?_
 intro α iα F hF1 hF2
 have hq := GL.seg hF1 hL0
 simp only [fcC, cellsC, and_true, Nat.zero_add, Nat.reduceAdd] at hq
 simp only [List.take_succ_cons, List.take_zero, List.drop_succ_cons, List.drop_zero, List.take_nil, List.drop_nil]
 repeat (go_big_quiet_step (first | fail | (go_at_call 148; with_reducible exact seg_call hF2 HD.out _) | (go_at_call 148; with_reducible exact seg_call hF2 HE.out _) | (go_at_call 109; with_reducible exact seg_call hF2 HG.out _)))
 refine wpQuiet_nil ?_
 clear hq hF1 hF2 iα F α
 refine lex_new [.int .u64 0, .string ⟨#[]⟩] 7 32 32 rfl rfl (of_decide_eq_true (by kernel_rfl)) (by kernel_rfl) rfl new_natc ?_
 simp only [Act.put, List.setIfInBounds_toArray, List.set_cons_succ, List.set_cons_zero]
 refine lex_put [.int .u64 ((lo g : Nat) : Int), .string (hs g)] [.int .u64 0, .string ⟨#[]⟩] 7 32 (.tmp 16) rfl (by kernel_rfl) (by simp [toG, upd]) rfl (fun w k h => put_natc _ _ _ _ w k h) ?_
 simp only [Act.put]
 refine lexG_nil ?_
 intro κ x2 hS
 replace hL0 := hL0.ghs hS [(7, [.int .u64 ((lo g : Nat) : Int), .string (hs g)])] (by simp) (by intro p hp; simp only [List.mem_cons, List.not_mem_nil, or_false] at hp; rcases hp with rfl <;> exact ⟨_, by simp only [toG, upd]; rfl⟩)
 simp only [List.map_cons, List.map_nil, List.cons_append, List.nil_append] at hL0
 simp only [over_toG, over_nil, Act.put, List.setIfInBounds_toArray, List.set_cons_succ, List.set_cons_zero]
 clear hS
 generalize κ 7 = k2_7 at *
 go_upto_region 2 with fail
 refine region_gh (by kernel_rfl) (by kernel_rfl) ?_
 refine lex_seg (gl := []) 8 (by kernel_rfl) ?_
 intro α iα F hF1 hF2
 have hq := GL.seg hF1 hL0
 simp only [fcC, cellsC, and_true, Nat.zero_add, Nat.reduceAdd] at hq
 simp only [List.take_succ_cons, List.take_zero, List.drop_succ_cons, List.drop_zero, List.take_nil, List.drop_nil]
 repeat (go_big_quiet_step (first | fail | (go_at_call 148; with_reducible exact seg_call hF2 HD.out _) | (go_at_call 194; with_reducible exact seg_call hF2 HP.out _) | (go_at_call 148; with_reducible exact seg_call hF2 HE.out _) | (go_at_call 194; with_reducible exact seg_call hF2 HQ.out _)))
 refine wpQuiet_nil ?_
 clear hq hF1 hF2 iα F α
 refine lex_new [.int .u64 0, .string ⟨#[]⟩] 8 32 32 rfl rfl (of_decide_eq_true (by kernel_rfl)) (by kernel_rfl) rfl new_natc ?_
 simp only [Act.put, List.setIfInBounds_toArray, List.set_cons_succ, List.set_cons_zero]
 refine lex_new [.int .u64 0, .string ⟨#[]⟩] 9 32 32 rfl rfl (of_decide_eq_true (by kernel_rfl)) (by kernel_rfl) rfl new_natc ?_
 simp only [Act.put, List.setIfInBounds_toArray, List.set_cons_succ, List.set_cons_zero]
 refine lex_put [.int .u64 ((lo p : Nat) : Int), .string (hs p)] [.int .u64 0, .string ⟨#[]⟩] 8 32 (.tmp 20) rfl (by kernel_rfl) (by simp [toG, upd]) rfl (fun w k h => put_natc _ _ _ _ w k h) ?_
 simp only [Act.put]
 refine lex_put [.int .u64 ((lo q : Nat) : Int), .string (hs q)] [.int .u64 0, .string ⟨#[]⟩] 9 32 (.tmp 24) rfl (by kernel_rfl) (by simp [toG, upd]) rfl (fun w k h => put_natc _ _ _ _ w k h) ?_
 simp only [Act.put]
 refine lexG_nil ?_
 intro κ x3 hS
 replace hL0 := hL0.ghs hS [(9, [.int .u64 ((lo q : Nat) : Int), .string (hs q)]), (8, [.int .u64 ((lo p : Nat) : Int), .string (hs p)])] (by simp) (by intro p hp; simp only [List.mem_cons, List.not_mem_nil, or_false] at hp; rcases hp with rfl | rfl <;> exact ⟨_, by simp only [toG, upd]; rfl⟩)
 simp only [List.map_cons, List.map_nil, List.cons_append, List.nil_append] at hL0
 simp only [over_toG, over_nil, Act.put, List.setIfInBounds_toArray, List.set_cons_succ, List.set_cons_zero]
 clear hS
 generalize κ 9 = k3_9 at *
 generalize κ 8 = k3_8 at *
 go_upto_region 3 with fail
 refine region_gh (by kernel_rfl) (by kernel_rfl) ?_
 refine lex_seg (gl := []) 15 (by kernel_rfl) ?_
 intro α iα F hF1 hF2
 have hq := GL.seg hF1 hL0
 simp only [fcC, cellsC, and_true, Nat.zero_add, Nat.reduceAdd] at hq
 simp only [List.take_succ_cons, List.take_zero, List.drop_succ_cons, List.drop_zero, List.take_nil, List.drop_nil]
 repeat (go_big_quiet_step (first | fail | (go_at_call 150; with_reducible exact seg_call hF2 HS.out _) | (go_at_call 150; with_reducible exact seg_call hF2 HT.out _) | (go_at_call 30; with_reducible exact seg_call hF2 HB.out _) | (go_at_call 147; with_reducible exact seg_call hF2 HC.out _)))
 refine wpQuiet_nil ?_
 clear hq hF1 hF2 iα F α
 refine lex_new [.int .u64 0, .string ⟨#[]⟩, .bool false] 10 39 39 rfl rfl (of_decide_eq_true (by kernel_rfl)) (by kernel_rfl) rfl new_int ?_
 simp only [Act.put, List.setIfInBounds_toArray, List.set_cons_succ, List.set_cons_zero]
 refine lex_new [.int .u64 0, .string ⟨#[]⟩] 11 32 32 rfl rfl (of_decide_eq_true (by kernel_rfl)) (by kernel_rfl) rfl new_natc ?_
 simp only [Act.put, List.setIfInBounds_toArray, List.set_cons_succ, List.set_cons_zero]
 refine lex_put [.int .u64 ((zl u : Nat) : Int), .string (zh u), .bool (zs u)] [.int .u64 0, .string ⟨#[]⟩, .bool false] 10 39 (.tmp 38) rfl (by kernel_rfl) (by simp [toG, upd]) rfl (fun w k h => put_int _ _ _ _ _ _ w k h) ?_
 simp only [Act.put]
 refine lex_put [.int .u64 ((lo r : Nat) : Int), .string (hs r)] [.int .u64 0, .string ⟨#[]⟩] 11 32 (.tmp 39) rfl (by kernel_rfl) (by simp [toG, upd]) rfl (fun w k h => put_natc _ _ _ _ w k h) ?_
 simp only [Act.put]
 refine lexG_nil ?_
 intro κ x4 hS
 replace hL0 := hL0.ghs hS [(11, [.int .u64 ((lo r : Nat) : Int), .string (hs r)]), (10, [.int .u64 ((zl u : Nat) : Int), .string (zh u), .bool (zs u)])] (by simp) (by intro p hp; simp only [List.mem_cons, List.not_mem_nil, or_false] at hp; rcases hp with rfl | rfl <;> exact ⟨_, by simp only [toG, upd]; rfl⟩)
 simp only [List.map_cons, List.map_nil, List.cons_append, List.nil_append] at hL0
 simp only [over_toG, over_nil, Act.put, List.setIfInBounds_toArray, List.set_cons_succ, List.set_cons_zero]
 clear hS
 generalize κ 11 = k4_11 at *
 generalize κ 10 = k4_10 at *
 go_upto_region 4 with fail
 obtain ⟨α, iα, F, hF1, hF2⟩ := cls x4
 have hq0 := cls_box hF1 hL0 _ _ List.mem_cons_self
 simp only [cellsC, and_true, Nat.zero_add, Nat.reduceAdd] at hq0
 have hq1 := cls_box hF1 hL0 _ _ (List.mem_cons_of_mem _ List.mem_cons_self)
 simp only [cellsC, and_true, Nat.zero_add, Nat.reduceAdd] at hq1
 have hq2 := cls_box hF1 hL0 _ _ (List.mem_cons_of_mem _ (List.mem_cons_of_mem _ List.mem_cons_self))
 simp only [cellsC, and_true, Nat.zero_add, Nat.reduceAdd] at hq2
 have hq3 := cls_box hF1 hL0 _ _ (List.mem_cons_of_mem _ (List.mem_cons_of_mem _ (List.mem_cons_of_mem _ List.mem_cons_self)))
 simp only [cellsC, and_true, Nat.zero_add, Nat.reduceAdd] at hq3
 refine region_qs 7 (C := fun w' => ∃ x, w' = F x) (by kernel_rfl) (by kernel_rfl) (cls_drew hF2) ?_
 simp only [List.take_succ_cons, List.take_zero, List.drop_succ_cons, List.drop_zero, List.take_nil, List.drop_nil]
 repeat (go_big_quiet_step (first | fail | (go_at_call 107; with_reducible exact cls_call hF1 hF2 HU.out _) | (go_at_call 107; with_reducible exact cls_call hF1 hF2 HV.out _) | (go_at_call 149; with_reducible exact cls_call hF1 hF2 HL.out _)))
 refine wpQuiet_nil ?_
 rintro wq ⟨xq, rfl⟩
 replace hL0 := hL0.call (hF1 xq)
 clear  hq0 hq1 hq2 hq3 hF2
 generalize F xq = x5 at hL0 ⊢
 clear hF1 xq iα F α
 have hA := hL0.fc
 simp only [fcG, cellsF, neK, and_true, ne_eq, Nat.zero_add, Nat.reduceAdd] at hA
 have hP := hL0.put 5 (w.heap.size + 1 + 1) _ rfl [.int .u64 ((zl z : Nat) : Int), .string (zh z), .bool (zs z), .int .u64 ((lo f : Nat) : Int), .string (hs f)] rfl
 simp only [setAll, List.set_cons_zero, List.set_cons_succ] at hP
 generalize hput1 : (((((x5.setCell ⟨w.heap.size + 1 + 1, 0, none⟩ (.int .u64 ((zl z : Nat) : Int))).setCell ⟨w.heap.size + 1 + 1, 1, none⟩ (.string (zh z))).setCell ⟨w.heap.size + 1 + 1, 2, none⟩ (.bool (zs z))).setCell ⟨w.heap.size + 1 + 1, 3, none⟩ (.int .u64 ((lo f : Nat) : Int))).setCell ⟨w.heap.size + 1 + 1, 4, none⟩ (.string (hs f))) = x6 at hP
 have hB1 := hP.fc
 simp only [fcG, cellsF, neK, and_true, ne_eq, Nat.zero_add, Nat.reduceAdd] at hB1
 replace hL0 := hP
 go_wp2_with fail
 exact bodyPost_ret (v := frV z f) (by simp [results, Tryz.results145, go_sem, hB1]) rfl ⟨rfl, hL0.bl⟩
set_option maxHeartbeats 4000000 in
set_option maxRecDepth 100000 in
theorem fsub_w (m n z : Int) (d e f : Nat) (HC : RT 145 #[frV m d, frV n e, .func (.func 30) #[] #[]] (frV z f)) (w : World) :
  Calls Tryz.prog 63 #[frV m d, frV n e] w fun xe w' => xe = .returned (frV z f) ∧ Below w.heap.size w w' := by
 have hL0 : GL w w [] := GL.start w
 replace HC := Lib.hid HC
 replace hL0 := (((hL0.new rfl [.int .u64 ((zl m : Nat) : Int), .string (zh m), .bool (zs m), .int .u64 ((lo d : Nat) : Int), .string (hs d)] 79).new (K := w.heap.size + 1) (szA _ _) [.int .u64 ((zl n : Nat) : Int), .string (zh n), .bool (zs n), .int .u64 ((lo e : Nat) : Int), .string (hs e)] 79).new (K := w.heap.size + 1 + 1) (by simp only [World.size_alloc]) [.int .u64 0, .string ⟨#[]⟩, .bool false, .int .u64 0, .string ⟨#[]⟩] 79)
 generalize hweq : (((w.alloc (.cells #[.int .u64 ((zl m : Nat) : Int), .string (zh m), .bool (zs m), .int .u64 ((lo d : Nat) : Int), .string (hs d)] 79)).alloc (.cells #[.int .u64 ((zl n : Nat) : Int), .string (zh n), .bool (zs n), .int .u64 ((lo e : Nat) : Int), .string (hs e)] 79)).alloc (.cells #[.int .u64 0, .string ⟨#[]⟩, .bool false, .int .u64 0, .string ⟨#[]⟩] 79)) = x1 at hL0
 go_enter Tryz.func63, Tryz.ntmps63
 have hN0 := cells_of _ 0 [] rfl (hL0.get _ _ (List.mem_cons_of_mem _ List.mem_cons_self))
 simp only [cellsF, and_true, Nat.zero_add, Nat.reduceAdd] at hN0
 have hN1 := cells_of _ 0 [] rfl (hL0.get _ _ (List.mem_cons_of_mem _ (List.mem_cons_of_mem _ List.mem_cons_self)))
 simp only [cellsF, and_true, Nat.zero_add, Nat.reduceAdd] at hN1
 go_wp2_with fail
 clear hN0 hN1
 with_reducible refine Calls.mono (HC.out _) ?_
 rintro e x2 ⟨rfl, hb⟩
 replace hL0 := hL0.call hb
 clear hb hweq
 have hA := hL0.fc
 simp only [fcG, cellsF, neK, and_true, ne_eq, Nat.zero_add, Nat.reduceAdd] at hA
 have hP := hL0.put 0 (w.heap.size + 1 + 1) _ rfl [.int .u64 ((zl z : Nat) : Int), .string (zh z), .bool (zs z), .int .u64 ((lo f : Nat) : Int), .string (hs f)] rfl
 simp only [setAll, List.set_cons_zero, List.set_cons_succ] at hP
 generalize hput1 : (((((x2.setCell ⟨w.heap.size + 1 + 1, 0, none⟩ (.int .u64 ((zl z : Nat) : Int))).setCell ⟨w.heap.size + 1 + 1, 1, none⟩ (.string (zh z))).setCell ⟨w.heap.size + 1 + 1, 2, none⟩ (.bool (zs z))).setCell ⟨w.heap.size + 1 + 1, 3, none⟩ (.int .u64 ((lo f : Nat) : Int))).setCell ⟨w.heap.size + 1 + 1, 4, none⟩ (.string (hs f))) = x3 at hP
 have hB1 := hP.fc
 simp only [fcG, cellsF, neK, and_true, ne_eq, Nat.zero_add, Nat.reduceAdd] at hB1
 replace hL0 := hP
 go_wp2_with fail
 exact bodyPost_ret (v := frV z f) (by simp [results, Tryz.results63, go_sem, hB1]) rfl ⟨rfl, hL0.bl⟩
end Go.Proofs.YtdmoadfnogdfnaaGreatDoor
namespace Go.Proofs.YtdmoadfnogdfnaaGreatDoor
open Go.RowKit
attribute [local irreducible] lo hs sm s64 c64 d64 b64 mh ml pd pc qd qc val hiB str cmpI srD lz nb isq decB zl zh zs
set_option maxHeartbeats 4000000 in
set_option maxRecDepth 100000 in
theorem ffrom_zero (n : Int) (HO : RT 81 #[.int .u64 0] (natV 0)) (w : World) :
  Calls Tryz.prog 80 #[intV n, natV 0] w fun xe w' => xe = .returned (.tuple #[.agg #[.int .u64 0, .string ⟨#[]⟩, .bool false, .int .u64 0, .string ⟨#[]⟩], .int .i64 5]) ∧ Below w.heap.size w w' := by
 have hL0 : GL w w [] := GL.start w
 replace HO := Lib.hid HO
 replace hL0 := (((hL0.new rfl [.int .u64 ((zl n : Nat) : Int), .string (zh n), .bool (zs n)] 39).new (K := w.heap.size + 1) (szA _ _) [.int .u64 ((lo 0 : Nat) : Int), .string (hs 0)] 32).new (K := w.heap.size + 1 + 1) (by simp only [World.size_alloc]) [.int .u64 0, .string ⟨#[]⟩, .bool false, .int .u64 0, .string ⟨#[]⟩] 79)
 generalize hweq : (((w.alloc (.cells #[.int .u64 ((zl n : Nat) : Int), .string (zh n), .bool (zs n)] 39)).alloc (.cells #[.int .u64 ((lo 0 : Nat) : Int), .string (hs 0)] 32)).alloc (.cells #[.int .u64 0, .string ⟨#[]⟩, .bool false, .int .u64 0, .string ⟨#[]⟩] 79)) = x1 at hL0
 go_enter Tryz.func80, Tryz.ntmps80
 go_upto_region 1 with fail
 clear hweq
 obtain ⟨α, iα, F, hF1, hF2⟩ := cls x1
 have hq0 := cls_box hF1 hL0 _ _ (List.mem_cons_of_mem _ List.mem_cons_self)
 simp only [cellsC, and_true, Nat.zero_add, Nat.reduceAdd] at hq0
 refine region_qs 3 (C := fun w' => ∃ x, w' = F x) (by kernel_rfl) (by kernel_rfl) (cls_drew hF2) ?_
 simp only [List.take_succ_cons, List.take_zero, List.drop_succ_cons, List.drop_zero, List.take_nil, List.drop_nil]
 repeat (go_big_quiet_step (first | fail | (go_at_call 81; with_reducible exact cls_call hF1 hF2 HO.out _)))
 refine wpQuiet_nil ?_
 rintro wq ⟨xq, rfl⟩
 replace hL0 := hL0.call (hF1 xq)
 clear  hq0 hF2
 generalize F xq = x2 at hL0 ⊢
 clear hF1 xq iα F α
 have hA := hL0.fc
 simp only [fcG, cellsF, neK, and_true, ne_eq, Nat.zero_add, Nat.reduceAdd] at hA
 have hP := hL0.put 0 (w.heap.size + 1 + 1) _ rfl [.int .u64 0, .string ⟨#[]⟩, .bool false, .int .u64 0, .string ⟨#[]⟩] rfl
 simp only [setAll, List.set_cons_zero, List.set_cons_succ] at hP
 generalize hput1 : (((((x2.setCell ⟨w.heap.size + 1 + 1, 0, none⟩ (.int .u64 0)).setCell ⟨w.heap.size + 1 + 1, 1, none⟩ (.string ⟨#[]⟩)).setCell ⟨w.heap.size + 1 + 1, 2, none⟩ (.bool false)).setCell ⟨w.heap.size + 1 + 1, 3, none⟩ (.int .u64 0)).setCell ⟨w.heap.size + 1 + 1, 4, none⟩ (.string ⟨#[]⟩)) = x3 at hP
 have hB1 := hP.fc
 simp only [fcG, cellsF, neK, and_true, ne_eq, Nat.zero_add, Nat.reduceAdd] at hB1
 replace hL0 := hP
 go_wp2_with fail
 exact bodyPost_ret (v := .tuple #[.agg #[.int .u64 0, .string ⟨#[]⟩, .bool false, .int .u64 0, .string ⟨#[]⟩], .int .i64 5]) (by simp [results, Tryz.results80, go_sem, hB1]) rfl ⟨rfl, hL0.bl⟩
set_option maxHeartbeats 4000000 in
set_option maxRecDepth 100000 in
theorem ffrom_w (n u z : Int) (d v f : Nat) (HO : RT 81 #[.int .u64 0] (natV 0)) (HC : RT 147 #[intV n, natV d] (.tuple #[intV u, natV v])) (HL : RT 149 #[intV u, natV v] (frV z f)) (hd : d ≠ 0) (w : World) :
  Calls Tryz.prog 80 #[intV n, natV d] w fun xe w' => xe = .returned (.tuple #[frV z f, .int .i64 0]) ∧ Below w.heap.size w w' := by
 have hL0 : GL w w [] := GL.start w
 replace HO := Lib.hid HO
 replace HC := Lib.hid HC
 replace HL := Lib.hid HL
 have hz := ne_nat hd
 clear hd
 rcases hz with e0 | ⟨e0, e1⟩
 all_goals (
  replace hL0 := (((hL0.new rfl [.int .u64 ((zl n : Nat) : Int), .string (zh n), .bool (zs n)] 39).new (K := w.heap.size + 1) (szA _ _) [.int .u64 ((lo d : Nat) : Int), .string (hs d)] 32).new (K := w.heap.size + 1 + 1) (by simp only [World.size_alloc]) [.int .u64 0, .string ⟨#[]⟩, .bool false, .int .u64 0, .string ⟨#[]⟩] 79)
  generalize hweq : (((w.alloc (.cells #[.int .u64 ((zl n : Nat) : Int), .string (zh n), .bool (zs n)] 39)).alloc (.cells #[.int .u64 ((lo d : Nat) : Int), .string (hs d)] 32)).alloc (.cells #[.int .u64 0, .string ⟨#[]⟩, .bool false, .int .u64 0, .string ⟨#[]⟩] 79)) = x1 at hL0
  go_enter Tryz.func80, Tryz.ntmps80
  go_upto_region 1 with fail
  clear hweq
  obtain ⟨α, iα, F, hF1, hF2⟩ := cls x1
  have hq0 := cls_box hF1 hL0 _ _ (List.mem_cons_of_mem _ List.mem_cons_self)
  simp only [cellsC, and_true, Nat.zero_add, Nat.reduceAdd] at hq0
  refine region_qs 3 (C := fun w' => ∃ x, w' = F x) (by kernel_rfl) (by kernel_rfl) (cls_drew hF2) ?_
  simp only [List.take_succ_cons, List.take_zero, List.drop_succ_cons, List.drop_zero, List.take_nil, List.drop_nil]
  repeat (go_big_quiet_step (first | fail | (go_at_call 81; with_reducible exact cls_call hF1 hF2 HO.out _)))
  refine wpQuiet_nil ?_
  rintro wq ⟨xq, rfl⟩
  replace hL0 := hL0.call (hF1 xq)
  clear  hq0 hF2
  generalize F xq = x2 at hL0 ⊢
  clear hF1 xq iα F α
  have hN0 := cells_of _ 0 [] rfl (hL0.get _ _ (List.mem_cons_of_mem _ List.mem_cons_self))
  simp only [cellsF, and_true, Nat.zero_add, Nat.reduceAdd] at hN0
  have hN1 := cells_of _ 0 [] rfl (hL0.get _ _ (List.mem_cons_of_mem _ (List.mem_cons_of_mem _ List.mem_cons_self)))
  simp only [cellsF, and_true, Nat.zero_add, Nat.reduceAdd] at hN1
  go_wp2_with fail
  clear hN0 hN1
  with_reducible refine Calls.mono (HC.out _) ?_
  rintro e x3 ⟨rfl, hb⟩
  replace hL0 := hL0.call hb
  clear hb
  go_wp2_with fail
  with_reducible refine Calls.mono (HL.out _) ?_
  rintro e x4 ⟨rfl, hb⟩
  replace hL0 := hL0.call hb
  clear hb
  have hA := hL0.fc
  simp only [fcG, cellsF, neK, and_true, ne_eq, Nat.zero_add, Nat.reduceAdd] at hA
  have hP := hL0.put 0 (w.heap.size + 1 + 1) _ rfl [.int .u64 ((zl z : Nat) : Int), .string (zh z), .bool (zs z), .int .u64 ((lo f : Nat) : Int), .string (hs f)] rfl
  simp only [setAll, List.set_cons_zero, List.set_cons_succ] at hP
  generalize hput1 : (((((x4.setCell ⟨w.heap.size + 1 + 1, 0, none⟩ (.int .u64 ((zl z : Nat) : Int))).setCell ⟨w.heap.size + 1 + 1, 1, none⟩ (.string (zh z))).setCell ⟨w.heap.size + 1 + 1, 2, none⟩ (.bool (zs z))).setCell ⟨w.heap.size + 1 + 1, 3, none⟩ (.int .u64 ((lo f : Nat) : Int))).setCell ⟨w.heap.size + 1 + 1, 4, none⟩ (.string (hs f))) = x5 at hP
  have hB1 := hP.fc
  simp only [fcG, cellsF, neK, and_true, ne_eq, Nat.zero_add, Nat.reduceAdd] at hB1
  replace hL0 := hP
  go_wp2_with fail
  exact bodyPost_ret (v := .tuple #[frV z f, .int .i64 0]) (by simp [results, Tryz.results80, go_sem, hB1]) rfl ⟨rfl, hL0.bl⟩)
set_option maxHeartbeats 4000000 in
set_option maxRecDepth 100000 in
theorem fpower_pos (n s z u : Int) (e a d x y f : Nat) (k : Int) (HA : RT 40 #[intV n] (natV a)) (HP : RT 115 #[natV a, .int .i64 k] (.tuple #[natV x, .int .i64 0])) (HD : RT 148 #[frV n e] (natV d)) (HQ : RT 115 #[natV d, .int .i64 k] (.tuple #[natV y, .int .i64 0])) (HS : RT 72 #[frV n e] (.int .i64 s)) (HF : RT 122 #[.bool false, natV x] (intV z)) (HL : RT 149 #[intV z, natV y] (frV u f)) (hsg : decide (s < 0) = false) (w : World) :
  Calls Tryz.prog 154 #[frV n e, .int .i64 k] w fun xe w' => xe = .returned (.tuple #[frV u f, .int .i64 0]) ∧ Below w.heap.size w w' := by
 have hL0 : GL w w [] := GL.start w
 replace HA := Lib.hid HA
 replace HP := Lib.hid HP
 replace HD := Lib.hid HD
 replace HQ := Lib.hid HQ
 replace HS := Lib.hid HS
 replace HF := Lib.hid HF
 replace HL := Lib.hid HL
 replace hL0 := ((hL0.new rfl [.int .u64 ((zl n : Nat) : Int), .string (zh n), .bool (zs n), .int .u64 ((lo e : Nat) : Int), .string (hs e)] 79).new (K := w.heap.size + 1) (szA _ _) [.int .u64 0, .string ⟨#[]⟩, .bool false, .int .u64 0, .string ⟨#[]⟩] 79)
 generalize hweq : ((w.alloc (.cells #[.int .u64 ((zl n : Nat) : Int), .string (zh n), .bool (zs n), .int .u64 ((lo e : Nat) : Int), .string (hs e)] 79)).alloc (.cells #[.int .u64 0, .string ⟨#[]⟩, .bool false, .int .u64 0, .string ⟨#[]⟩] 79)) = x1 at hL0
 go_enter Tryz.func154, Tryz.ntmps154
 have hN0 := cells_of _ 0 [] rfl (hL0.get _ _ (List.mem_cons_of_mem _ List.mem_cons_self))
 simp only [cellsF, and_true, Nat.zero_add, Nat.reduceAdd] at hN0
 go_wp2_with fail
 clear hN0
 with_reducible refine Calls.mono (HA.out _) ?_
 rintro e x2 ⟨rfl, hb⟩
 replace hL0 := hL0.call hb
 clear hb hweq
 go_wp2_with fail
 with_reducible refine Calls.mono (HP.out _) ?_
 rintro e x3 ⟨rfl, hb⟩
 replace hL0 := hL0.call hb
 clear hb
 replace hL0 := (hL0.new rfl [.int .u64 ((lo x : Nat) : Int), .string (hs x)] 32)
 generalize hweq : (x3.alloc (.cells #[.int .u64 ((lo x : Nat) : Int), .string (hs x)] 32)) = x4 at hL0
 have hN0 := cells_of _ 0 [] rfl (hL0.get _ _ (List.mem_cons_of_mem _ (List.mem_cons_of_mem _ List.mem_cons_self)))
 simp only [cellsF, and_true, Nat.zero_add, Nat.reduceAdd] at hN0
 go_wp2_with fail
 clear hN0
 with_reducible refine Calls.mono (HD.out _) ?_
 rintro e x5 ⟨rfl, hb⟩
 replace hL0 := hL0.call hb
 clear hb hweq
 go_wp2_with fail
 with_reducible refine Calls.mono (HQ.out _) ?_
 rintro e x6 ⟨rfl, hb⟩
 replace hL0 := hL0.call hb
 clear hb
 replace hL0 := (hL0.new rfl [.int .u64 ((lo y : Nat) : Int), .string (hs y)] 32)
 generalize hweq : (x6.alloc (.cells #[.int .u64 ((lo y : Nat) : Int), .string (hs y)] 32)) = x7 at hL0
 go_upto_region 7 with fail
 clear hweq
 obtain ⟨α, iα, F, hF1, hF2⟩ := cls x7
 have hq0 := cls_box hF1 hL0 _ _ List.mem_cons_self
 simp only [cellsC, and_true, Nat.zero_add, Nat.reduceAdd] at hq0
 have hq1 := cls_box hF1 hL0 _ _ (List.mem_cons_of_mem _ List.mem_cons_self)
 simp only [cellsC, and_true, Nat.zero_add, Nat.reduceAdd] at hq1
 have hq2 := cls_box hF1 hL0 _ _ (List.mem_cons_of_mem _ (List.mem_cons_of_mem _ (List.mem_cons_of_mem _ List.mem_cons_self)))
 simp only [cellsC, and_true, Nat.zero_add, Nat.reduceAdd] at hq2
 refine region_qs 12 (C := fun w' => ∃ x, w' = F x) (by kernel_rfl) (by kernel_rfl) (cls_drew hF2) ?_
 simp only [List.take_succ_cons, List.take_zero, List.drop_succ_cons, List.drop_zero, List.take_nil, List.drop_nil]
 repeat (go_big_quiet_step (first | fail | (go_at_call 72; with_reducible exact cls_call hF1 hF2 HS.out _) | (go_at_call 122; with_reducible exact cls_call hF1 hF2 HF.out _) | (go_at_call 149; with_reducible exact cls_call hF1 hF2 HL.out _)))
 refine wpQuiet_nil ?_
 rintro wq ⟨xq, rfl⟩
 replace hL0 := hL0.call (hF1 xq)
 clear  hq0 hq1 hq2 hF2
 generalize F xq = x8 at hL0 ⊢
 clear hF1 xq iα F α
 have hA := hL0.fc
 simp only [fcG, cellsF, neK, and_true, ne_eq, Nat.zero_add, Nat.reduceAdd] at hA
 have hP := hL0.put 2 (w.heap.size + 1) _ rfl [.int .u64 ((zl u : Nat) : Int), .string (zh u), .bool (zs u), .int .u64 ((lo f : Nat) : Int), .string (hs f)] rfl
 simp only [setAll, List.set_cons_zero, List.set_cons_succ] at hP
 generalize hput1 : (((((x8.setCell ⟨w.heap.size + 1, 0, none⟩ (.int .u64 ((zl u : Nat) : Int))).setCell ⟨w.heap.size + 1, 1, none⟩ (.string (zh u))).setCell ⟨w.heap.size + 1, 2, none⟩ (.bool (zs u))).setCell ⟨w.heap.size + 1, 3, none⟩ (.int .u64 ((lo f : Nat) : Int))).setCell ⟨w.heap.size + 1, 4, none⟩ (.string (hs f))) = x9 at hP
 have hB1 := hP.fc
 simp only [fcG, cellsF, neK, and_true, ne_eq, Nat.zero_add, Nat.reduceAdd] at hB1
 replace hL0 := hP
 go_wp2_with fail
 exact bodyPost_ret (v := .tuple #[frV u f, .int .i64 0]) (by simp [results, Tryz.results154, go_sem, hB1]) rfl ⟨rfl, hL0.bl⟩
set_option maxHeartbeats 4000000 in
set_option maxRecDepth 100000 in
theorem fpower_odd (n s z u : Int) (e a d x y f : Nat) (k : Int) (HA : RT 40 #[intV n] (natV a)) (HP : RT 115 #[natV a, .int .i64 k] (.tuple #[natV x, .int .i64 0])) (HD : RT 148 #[frV n e] (natV d)) (HQ : RT 115 #[natV d, .int .i64 k] (.tuple #[natV y, .int .i64 0])) (HS : RT 72 #[frV n e] (.int .i64 s)) (HF : RT 122 #[.bool true, natV x] (intV z)) (HL : RT 149 #[intV z, natV y] (frV u f)) (hsg : decide (s < 0) = true) (hk : (k.tmod 2 == 1) = true) (w : World) :
  Calls Tryz.prog 154 #[frV n e, .int .i64 k] w fun xe w' => xe = .returned (.tuple #[frV u f, .int .i64 0]) ∧ Below w.heap.size w w' := by
 have hL0 : GL w w [] := GL.start w
 replace HA := Lib.hid HA
 replace HP := Lib.hid HP
 replace HD := Lib.hid HD
 replace HQ := Lib.hid HQ
 replace HS := Lib.hid HS
 replace HF := Lib.hid HF
 replace HL := Lib.hid HL
 replace hL0 := ((hL0.new rfl [.int .u64 ((zl n : Nat) : Int), .string (zh n), .bool (zs n), .int .u64 ((lo e : Nat) : Int), .string (hs e)] 79).new (K := w.heap.size + 1) (szA _ _) [.int .u64 0, .string ⟨#[]⟩, .bool false, .int .u64 0, .string ⟨#[]⟩] 79)
 generalize hweq : ((w.alloc (.cells #[.int .u64 ((zl n : Nat) : Int), .string (zh n), .bool (zs n), .int .u64 ((lo e : Nat) : Int), .string (hs e)] 79)).alloc (.cells #[.int .u64 0, .string ⟨#[]⟩, .bool false, .int .u64 0, .string ⟨#[]⟩] 79)) = x1 at hL0
 go_enter Tryz.func154, Tryz.ntmps154
 have hN0 := cells_of _ 0 [] rfl (hL0.get _ _ (List.mem_cons_of_mem _ List.mem_cons_self))
 simp only [cellsF, and_true, Nat.zero_add, Nat.reduceAdd] at hN0
 go_wp2_with fail
 clear hN0
 with_reducible refine Calls.mono (HA.out _) ?_
 rintro e x2 ⟨rfl, hb⟩
 replace hL0 := hL0.call hb
 clear hb hweq
 go_wp2_with fail
 with_reducible refine Calls.mono (HP.out _) ?_
 rintro e x3 ⟨rfl, hb⟩
 replace hL0 := hL0.call hb
 clear hb
 replace hL0 := (hL0.new rfl [.int .u64 ((lo x : Nat) : Int), .string (hs x)] 32)
 generalize hweq : (x3.alloc (.cells #[.int .u64 ((lo x : Nat) : Int), .string (hs x)] 32)) = x4 at hL0
 have hN0 := cells_of _ 0 [] rfl (hL0.get _ _ (List.mem_cons_of_mem _ (List.mem_cons_of_mem _ List.mem_cons_self)))
 simp only [cellsF, and_true, Nat.zero_add, Nat.reduceAdd] at hN0
 go_wp2_with fail
 clear hN0
 with_reducible refine Calls.mono (HD.out _) ?_
 rintro e x5 ⟨rfl, hb⟩
 replace hL0 := hL0.call hb
 clear hb hweq
 go_wp2_with fail
 with_reducible refine Calls.mono (HQ.out _) ?_
 rintro e x6 ⟨rfl, hb⟩
 replace hL0 := hL0.call hb
 clear hb
 replace hL0 := (hL0.new rfl [.int .u64 ((lo y : Nat) : Int), .string (hs y)] 32)
 generalize hweq : (x6.alloc (.cells #[.int .u64 ((lo y : Nat) : Int), .string (hs y)] 32)) = x7 at hL0
 go_upto_region 7 with fail
 clear hweq
 obtain ⟨α, iα, F, hF1, hF2⟩ := cls x7
 have hq0 := cls_box hF1 hL0 _ _ List.mem_cons_self
 simp only [cellsC, and_true, Nat.zero_add, Nat.reduceAdd] at hq0
 have hq1 := cls_box hF1 hL0 _ _ (List.mem_cons_of_mem _ List.mem_cons_self)
 simp only [cellsC, and_true, Nat.zero_add, Nat.reduceAdd] at hq1
 have hq2 := cls_box hF1 hL0 _ _ (List.mem_cons_of_mem _ (List.mem_cons_of_mem _ (List.mem_cons_of_mem _ List.mem_cons_self)))
 simp only [cellsC, and_true, Nat.zero_add, Nat.reduceAdd] at hq2
 refine region_qs 12 (C := fun w' => ∃ x, w' = F x) (by kernel_rfl) (by kernel_rfl) (cls_drew hF2) ?_
 simp only [List.take_succ_cons, List.take_zero, List.drop_succ_cons, List.drop_zero, List.take_nil, List.drop_nil]
 repeat (go_big_quiet_step (first | fail | (go_at_call 72; with_reducible exact cls_call hF1 hF2 HS.out _) | (go_at_call 122; with_reducible exact cls_call hF1 hF2 HF.out _) | (go_at_call 149; with_reducible exact cls_call hF1 hF2 HL.out _)))
 refine wpQuiet_nil ?_
 rintro wq ⟨xq, rfl⟩
 replace hL0 := hL0.call (hF1 xq)
 clear  hq0 hq1 hq2 hF2
 generalize F xq = x8 at hL0 ⊢
 clear hF1 xq iα F α
 have hA := hL0.fc
 simp only [fcG, cellsF, neK, and_true, ne_eq, Nat.zero_add, Nat.reduceAdd] at hA
 have hP := hL0.put 2 (w.heap.size + 1) _ rfl [.int .u64 ((zl u : Nat) : Int), .string (zh u), .bool (zs u), .int .u64 ((lo f : Nat) : Int), .string (hs f)] rfl
 simp only [setAll, List.set_cons_zero, List.set_cons_succ] at hP
 generalize hput1 : (((((x8.setCell ⟨w.heap.size + 1, 0, none⟩ (.int .u64 ((zl u : Nat) : Int))).setCell ⟨w.heap.size + 1, 1, none⟩ (.string (zh u))).setCell ⟨w.heap.size + 1, 2, none⟩ (.bool (zs u))).setCell ⟨w.heap.size + 1, 3, none⟩ (.int .u64 ((lo f : Nat) : Int))).setCell ⟨w.heap.size + 1, 4, none⟩ (.string (hs f))) = x9 at hP
 have hB1 := hP.fc
 simp only [fcG, cellsF, neK, and_true, ne_eq, Nat.zero_add, Nat.reduceAdd] at hB1
 replace hL0 := hP
 go_wp2_with fail
 exact bodyPost_ret (v := .tuple #[frV u f, .int .i64 0]) (by simp [results, Tryz.results154, go_sem, hB1]) rfl ⟨rfl, hL0.bl⟩
set_option maxHeartbeats 4000000 in
set_option maxRecDepth 100000 in
theorem fpower_even (n s z u : Int) (e a d x y f : Nat) (k : Int) (HA : RT 40 #[intV n] (natV a)) (HP : RT 115 #[natV a, .int .i64 k] (.tuple #[natV x, .int .i64 0])) (HD : RT 148 #[frV n e] (natV d)) (HQ : RT 115 #[natV d, .int .i64 k] (.tuple #[natV y, .int .i64 0])) (HS : RT 72 #[frV n e] (.int .i64 s)) (HF : RT 122 #[.bool false, natV x] (intV z)) (HL : RT 149 #[intV z, natV y] (frV u f)) (hsg : decide (s < 0) = true) (hk : (k.tmod 2 == 1) = false) (w : World) :
  Calls Tryz.prog 154 #[frV n e, .int .i64 k] w fun xe w' => xe = .returned (.tuple #[frV u f, .int .i64 0]) ∧ Below w.heap.size w w' := by
 have hL0 : GL w w [] := GL.start w
 replace HA := Lib.hid HA
 replace HP := Lib.hid HP
 replace HD := Lib.hid HD
 replace HQ := Lib.hid HQ
 replace HS := Lib.hid HS
 replace HF := Lib.hid HF
 replace HL := Lib.hid HL
 replace hL0 := ((hL0.new rfl [.int .u64 ((zl n : Nat) : Int), .string (zh n), .bool (zs n), .int .u64 ((lo e : Nat) : Int), .string (hs e)] 79).new (K := w.heap.size + 1) (szA _ _) [.int .u64 0, .string ⟨#[]⟩, .bool false, .int .u64 0, .string ⟨#[]⟩] 79)
 generalize hweq : ((w.alloc (.cells #[.int .u64 ((zl n : Nat) : Int), .string (zh n), .bool (zs n), .int .u64 ((lo e : Nat) : Int), .string (hs e)] 79)).alloc (.cells #[.int .u64 0, .string ⟨#[]⟩, .bool false, .int .u64 0, .string ⟨#[]⟩] 79)) = x1 at hL0
 go_enter Tryz.func154, Tryz.ntmps154
 have hN0 := cells_of _ 0 [] rfl (hL0.get _ _ (List.mem_cons_of_mem _ List.mem_cons_self))
 simp only [cellsF, and_true, Nat.zero_add, Nat.reduceAdd] at hN0
 go_wp2_with fail
 clear hN0
 with_reducible refine Calls.mono (HA.out _) ?_
 rintro e x2 ⟨rfl, hb⟩
 replace hL0 := hL0.call hb
 clear hb hweq
 go_wp2_with fail
 with_reducible refine Calls.mono (HP.out _) ?_
 rintro e x3 ⟨rfl, hb⟩
 replace hL0 := hL0.call hb
 clear hb
 replace hL0 := (hL0.new rfl [.int .u64 ((lo x : Nat) : Int), .string (hs x)] 32)
 generalize hweq : (x3.alloc (.cells #[.int .u64 ((lo x : Nat) : Int), .string (hs x)] 32)) = x4 at hL0
 have hN0 := cells_of _ 0 [] rfl (hL0.get _ _ (List.mem_cons_of_mem _ (List.mem_cons_of_mem _ List.mem_cons_self)))
 simp only [cellsF, and_true, Nat.zero_add, Nat.reduceAdd] at hN0
 go_wp2_with fail
 clear hN0
 with_reducible refine Calls.mono (HD.out _) ?_
 rintro e x5 ⟨rfl, hb⟩
 replace hL0 := hL0.call hb
 clear hb hweq
 go_wp2_with fail
 with_reducible refine Calls.mono (HQ.out _) ?_
 rintro e x6 ⟨rfl, hb⟩
 replace hL0 := hL0.call hb
 clear hb
 replace hL0 := (hL0.new rfl [.int .u64 ((lo y : Nat) : Int), .string (hs y)] 32)
 generalize hweq : (x6.alloc (.cells #[.int .u64 ((lo y : Nat) : Int), .string (hs y)] 32)) = x7 at hL0
 go_upto_region 7 with fail
 clear hweq
 obtain ⟨α, iα, F, hF1, hF2⟩ := cls x7
 have hq0 := cls_box hF1 hL0 _ _ List.mem_cons_self
 simp only [cellsC, and_true, Nat.zero_add, Nat.reduceAdd] at hq0
 have hq1 := cls_box hF1 hL0 _ _ (List.mem_cons_of_mem _ List.mem_cons_self)
 simp only [cellsC, and_true, Nat.zero_add, Nat.reduceAdd] at hq1
 have hq2 := cls_box hF1 hL0 _ _ (List.mem_cons_of_mem _ (List.mem_cons_of_mem _ (List.mem_cons_of_mem _ List.mem_cons_self)))
 simp only [cellsC, and_true, Nat.zero_add, Nat.reduceAdd] at hq2
 refine region_qs 12 (C := fun w' => ∃ x, w' = F x) (by kernel_rfl) (by kernel_rfl) (cls_drew hF2) ?_
 simp only [List.take_succ_cons, List.take_zero, List.drop_succ_cons, List.drop_zero, List.take_nil, List.drop_nil]
 repeat (go_big_quiet_step (first | fail | (go_at_call 72; with_reducible exact cls_call hF1 hF2 HS.out _) | (go_at_call 122; with_reducible exact cls_call hF1 hF2 HF.out _) | (go_at_call 149; with_reducible exact cls_call hF1 hF2 HL.out _)))
 refine wpQuiet_nil ?_
 rintro wq ⟨xq, rfl⟩
 replace hL0 := hL0.call (hF1 xq)
 clear  hq0 hq1 hq2 hF2
 generalize F xq = x8 at hL0 ⊢
 clear hF1 xq iα F α
 have hA := hL0.fc
 simp only [fcG, cellsF, neK, and_true, ne_eq, Nat.zero_add, Nat.reduceAdd] at hA
 have hP := hL0.put 2 (w.heap.size + 1) _ rfl [.int .u64 ((zl u : Nat) : Int), .string (zh u), .bool (zs u), .int .u64 ((lo f : Nat) : Int), .string (hs f)] rfl
 simp only [setAll, List.set_cons_zero, List.set_cons_succ] at hP
 generalize hput1 : (((((x8.setCell ⟨w.heap.size + 1, 0, none⟩ (.int .u64 ((zl u : Nat) : Int))).setCell ⟨w.heap.size + 1, 1, none⟩ (.string (zh u))).setCell ⟨w.heap.size + 1, 2, none⟩ (.bool (zs u))).setCell ⟨w.heap.size + 1, 3, none⟩ (.int .u64 ((lo f : Nat) : Int))).setCell ⟨w.heap.size + 1, 4, none⟩ (.string (hs f))) = x9 at hP
 have hB1 := hP.fc
 simp only [fcG, cellsF, neK, and_true, ne_eq, Nat.zero_add, Nat.reduceAdd] at hB1
 replace hL0 := hP
 go_wp2_with fail
 exact bodyPost_ret (v := .tuple #[frV u f, .int .i64 0]) (by simp [results, Tryz.results154, go_sem, hB1]) rfl ⟨rfl, hL0.bl⟩
set_option maxHeartbeats 4000000 in
set_option maxRecDepth 100000 in
theorem fpow_pos (n m c : Int) (e f : Nat) (k : Int) (HP : RT 154 #[frV n e, .int .i64 k] (.tuple #[frV m f, .int .i64 c])) (hk : decide (k < -4096) = false) (hl : decide (4096 < k) = false) (h0 : decide (0 ≤ k) = true) (w : World) :
  Calls Tryz.prog 86 #[frV n e, .int .i64 k] w fun xe w' => xe = .returned (.tuple #[frV m f, .int .i64 c]) ∧ Below w.heap.size w w' := by
 have hL0 : GL w w [] := GL.start w
 replace HP := Lib.hid HP
 replace hL0 := ((hL0.new rfl [.int .u64 ((zl n : Nat) : Int), .string (zh n), .bool (zs n), .int .u64 ((lo e : Nat) : Int), .string (hs e)] 79).new (K := w.heap.size + 1) (szA _ _) [.int .u64 0, .string ⟨#[]⟩, .bool false, .int .u64 0, .string ⟨#[]⟩] 79)
 generalize hweq : ((w.alloc (.cells #[.int .u64 ((zl n : Nat) : Int), .string (zh n), .bool (zs n), .int .u64 ((lo e : Nat) : Int), .string (hs e)] 79)).alloc (.cells #[.int .u64 0, .string ⟨#[]⟩, .bool false, .int .u64 0, .string ⟨#[]⟩] 79)) = x1 at hL0
 go_enter Tryz.func86, Tryz.ntmps86
 have hN0 := cells_of _ 0 [] rfl (hL0.get _ _ (List.mem_cons_of_mem _ List.mem_cons_self))
 simp only [cellsF, and_true, Nat.zero_add, Nat.reduceAdd] at hN0
 go_wp2_with fail
 clear hN0
 with_reducible refine Calls.mono (HP.out _) ?_
 rintro e x2 ⟨rfl, hb⟩
 replace hL0 := hL0.call hb
 clear hb hweq
 have hA := hL0.fc
 simp only [fcG, cellsF, neK, and_true, ne_eq, Nat.zero_add, Nat.reduceAdd] at hA
 have hP := hL0.put 0 (w.heap.size + 1) _ rfl [.int .u64 ((zl m : Nat) : Int), .string (zh m), .bool (zs m), .int .u64 ((lo f : Nat) : Int), .string (hs f)] rfl
 simp only [setAll, List.set_cons_zero, List.set_cons_succ] at hP
 generalize hput1 : (((((x2.setCell ⟨w.heap.size + 1, 0, none⟩ (.int .u64 ((zl m : Nat) : Int))).setCell ⟨w.heap.size + 1, 1, none⟩ (.string (zh m))).setCell ⟨w.heap.size + 1, 2, none⟩ (.bool (zs m))).setCell ⟨w.heap.size + 1, 3, none⟩ (.int .u64 ((lo f : Nat) : Int))).setCell ⟨w.heap.size + 1, 4, none⟩ (.string (hs f))) = x3 at hP
 have hB1 := hP.fc
 simp only [fcG, cellsF, neK, and_true, ne_eq, Nat.zero_add, Nat.reduceAdd] at hB1
 replace hL0 := hP
 go_wp2_with fail
 exact bodyPost_ret (v := .tuple #[frV m f, .int .i64 c]) (by simp [results, Tryz.results86, go_sem, hB1]) rfl ⟨rfl, hL0.bl⟩
set_option maxHeartbeats 4000000 in
set_option maxRecDepth 100000 in
theorem fpow_zero (k : Int) (HI : RT 87 #[.int .i64 0] (frV 0 0)) (hk : decide (k < -4096) = false) (hl : decide (4096 < k) = false) (h0 : decide (0 ≤ k) = false) (w : World) :
  Calls Tryz.prog 86 #[frV 0 0, .int .i64 k] w fun xe w' => xe = .returned (.tuple #[.agg #[.int .u64 0, .string ⟨#[]⟩, .bool false, .int .u64 0, .string ⟨#[]⟩], .int .i64 5]) ∧ Below w.heap.size w w' := by
 have hL0 : GL w w [] := GL.start w
 replace HI := Lib.hid HI
 replace hL0 := ((hL0.new rfl [.int .u64 ((zl 0 : Nat) : Int), .string (zh 0), .bool (zs 0), .int .u64 ((lo 0 : Nat) : Int), .string (hs 0)] 79).new (K := w.heap.size + 1) (szA _ _) [.int .u64 0, .string ⟨#[]⟩, .bool false, .int .u64 0, .string ⟨#[]⟩] 79)
 generalize hweq : ((w.alloc (.cells #[.int .u64 ((zl 0 : Nat) : Int), .string (zh 0), .bool (zs 0), .int .u64 ((lo 0 : Nat) : Int), .string (hs 0)] 79)).alloc (.cells #[.int .u64 0, .string ⟨#[]⟩, .bool false, .int .u64 0, .string ⟨#[]⟩] 79)) = x1 at hL0
 go_enter Tryz.func86, Tryz.ntmps86
 go_upto_region 5 with fail
 clear hweq
 obtain ⟨α, iα, F, hF1, hF2⟩ := cls x1
 have hq0 := cls_box hF1 hL0 _ _ (List.mem_cons_of_mem _ List.mem_cons_self)
 simp only [cellsC, and_true, Nat.zero_add, Nat.reduceAdd] at hq0
 refine region_qs 3 (C := fun w' => ∃ x, w' = F x) (by kernel_rfl) (by kernel_rfl) (cls_drew hF2) ?_
 simp only [List.take_succ_cons, List.take_zero, List.drop_succ_cons, List.drop_zero, List.take_nil, List.drop_nil]
 repeat (go_big_quiet_step (first | fail | (go_at_call 87; with_reducible exact cls_call hF1 hF2 HI.out _)))
 refine wpQuiet_nil ?_
 rintro wq ⟨xq, rfl⟩
 replace hL0 := hL0.call (hF1 xq)
 clear  hq0 hF2
 generalize F xq = x2 at hL0 ⊢
 clear hF1 xq iα F α
 have hA := hL0.fc
 simp only [fcG, cellsF, neK, and_true, ne_eq, Nat.zero_add, Nat.reduceAdd] at hA
 have hP := hL0.put 0 (w.heap.size + 1) _ rfl [.int .u64 0, .string ⟨#[]⟩, .bool false, .int .u64 0, .string ⟨#[]⟩] rfl
 simp only [setAll, List.set_cons_zero, List.set_cons_succ] at hP
 generalize hput1 : (((((x2.setCell ⟨w.heap.size + 1, 0, none⟩ (.int .u64 0)).setCell ⟨w.heap.size + 1, 1, none⟩ (.string ⟨#[]⟩)).setCell ⟨w.heap.size + 1, 2, none⟩ (.bool false)).setCell ⟨w.heap.size + 1, 3, none⟩ (.int .u64 0)).setCell ⟨w.heap.size + 1, 4, none⟩ (.string ⟨#[]⟩)) = x3 at hP
 have hB1 := hP.fc
 simp only [fcG, cellsF, neK, and_true, ne_eq, Nat.zero_add, Nat.reduceAdd] at hB1
 replace hL0 := hP
 go_wp2_with fail
 exact bodyPost_ret (v := .tuple #[.agg #[.int .u64 0, .string ⟨#[]⟩, .bool false, .int .u64 0, .string ⟨#[]⟩], .int .i64 5]) (by simp [results, Tryz.results86, go_sem, hB1]) rfl ⟨rfl, hL0.bl⟩
set_option maxHeartbeats 4000000 in
set_option maxRecDepth 100000 in
theorem fpow_neg (n x m c : Int) (e g f : Nat) (k l : Int) (HI : RT 87 #[.int .i64 0] (frV 0 0)) (HV : RT 142 #[frV n e] (frV x g)) (HP : RT 154 #[frV x g, .int .i64 l] (.tuple #[frV m f, .int .i64 c])) (hk : decide (k < -4096) = false) (hl : decide (4096 < k) = false) (h0 : decide (0 ≤ k) = false) (hw : IntKind.i64.wrap (-k) = l) (hn : n ≠ 0) (w : World) :
  Calls Tryz.prog 86 #[frV n e, .int .i64 k] w fun xe w' => xe = .returned (.tuple #[frV m f, .int .i64 c]) ∧ Below w.heap.size w w' := by
 have hL0 : GL w w [] := GL.start w
 replace HI := Lib.hid HI
 replace HV := Lib.hid HV
 replace HP := Lib.hid HP
 have hz := ne_int hn
 clear hn
 rcases hz with e0 | ⟨e0, e1⟩ | ⟨e0, e1, e2⟩
 all_goals (
  replace hL0 := ((hL0.new rfl [.int .u64 ((zl n : Nat) : Int), .string (zh n), .bool (zs n), .int .u64 ((lo e : Nat) : Int), .string (hs e)] 79).new (K := w.heap.size + 1) (szA _ _) [.int .u64 0, .string ⟨#[]⟩, .bool false, .int .u64 0, .string ⟨#[]⟩] 79)
  generalize hweq : ((w.alloc (.cells #[.int .u64 ((zl n : Nat) : Int), .string (zh n), .bool (zs n), .int .u64 ((lo e : Nat) : Int), .string (hs e)] 79)).alloc (.cells #[.int .u64 0, .string ⟨#[]⟩, .bool false, .int .u64 0, .string ⟨#[]⟩] 79)) = x1 at hL0
  go_enter Tryz.func86, Tryz.ntmps86
  go_upto_region 5 with fail
  clear hweq
  obtain ⟨α, iα, F, hF1, hF2⟩ := cls x1
  have hq0 := cls_box hF1 hL0 _ _ (List.mem_cons_of_mem _ List.mem_cons_self)
  simp only [cellsC, and_true, Nat.zero_add, Nat.reduceAdd] at hq0
  refine region_qs 3 (C := fun w' => ∃ x, w' = F x) (by kernel_rfl) (by kernel_rfl) (cls_drew hF2) ?_
  simp only [List.take_succ_cons, List.take_zero, List.drop_succ_cons, List.drop_zero, List.take_nil, List.drop_nil]
  repeat (go_big_quiet_step (first | fail | (go_at_call 87; with_reducible exact cls_call hF1 hF2 HI.out _)))
  refine wpQuiet_nil ?_
  rintro wq ⟨xq, rfl⟩
  replace hL0 := hL0.call (hF1 xq)
  clear  hq0 hF2
  generalize F xq = x2 at hL0 ⊢
  clear hF1 xq iα F α
  have hN0 := cells_of _ 0 [] rfl (hL0.get _ _ (List.mem_cons_of_mem _ List.mem_cons_self))
  simp only [cellsF, and_true, Nat.zero_add, Nat.reduceAdd] at hN0
  go_wp2_with fail
  clear hN0
  with_reducible refine Calls.mono (HV.out _) ?_
  rintro e x3 ⟨rfl, hb⟩
  replace hL0 := hL0.call hb
  clear hb
  go_wp2_with fail
  with_reducible refine Calls.mono (HP.out _) ?_
  rintro e x4 ⟨rfl, hb⟩
  replace hL0 := hL0.call hb
  clear hb
  have hA := hL0.fc
  simp only [fcG, cellsF, neK, and_true, ne_eq, Nat.zero_add, Nat.reduceAdd] at hA
  have hP := hL0.put 0 (w.heap.size + 1) _ rfl [.int .u64 ((zl m : Nat) : Int), .string (zh m), .bool (zs m), .int .u64 ((lo f : Nat) : Int), .string (hs f)] rfl
  simp only [setAll, List.set_cons_zero, List.set_cons_succ] at hP
  generalize hput1 : (((((x4.setCell ⟨w.heap.size + 1, 0, none⟩ (.int .u64 ((zl m : Nat) : Int))).setCell ⟨w.heap.size + 1, 1, none⟩ (.string (zh m))).setCell ⟨w.heap.size + 1, 2, none⟩ (.bool (zs m))).setCell ⟨w.heap.size + 1, 3, none⟩ (.int .u64 ((lo f : Nat) : Int))).setCell ⟨w.heap.size + 1, 4, none⟩ (.string (hs f))) = x5 at hP
  have hB1 := hP.fc
  simp only [fcG, cellsF, neK, and_true, ne_eq, Nat.zero_add, Nat.reduceAdd] at hB1
  replace hL0 := hP
  go_wp2_with fail
  exact bodyPost_ret (v := .tuple #[frV m f, .int .i64 c]) (by simp [results, Tryz.results86, go_sem, hB1]) rfl ⟨rfl, hL0.bl⟩)
set_option maxHeartbeats 4000000 in
set_option maxRecDepth 100000 in
theorem ftext_whole (n : Int) (s : ByteArray) (HW : RT 83 #[frV n 0] (.bool true)) (HT : RK Tab 74 #[intV n] (.string s)) (w : World) (htab : Tab w) :
  Calls Tryz.prog 143 #[frV n 0] w fun xe w' => xe = .returned (.string s) ∧ Below w.heap.size w w' := by
 have hL0 : GL w w [] := GL.start w
 replace HW := Lib.hid HW
 replace HT := Lib.hid HT
 replace hL0 := (hL0.new rfl [.int .u64 ((zl n : Nat) : Int), .string (zh n), .bool (zs n), .int .u64 ((lo 0 : Nat) : Int), .string (hs 0)] 79)
 generalize hweq : (w.alloc (.cells #[.int .u64 ((zl n : Nat) : Int), .string (zh n), .bool (zs n), .int .u64 ((lo 0 : Nat) : Int), .string (hs 0)] 79)) = x1 at hL0
 go_enter Tryz.func143, Tryz.ntmps143
 have hN0 := cells_of _ 0 [] rfl (hL0.get _ _ List.mem_cons_self)
 simp only [cellsF, and_true, Nat.zero_add, Nat.reduceAdd] at hN0
 go_wp2_with fail
 clear hN0
 with_reducible refine Calls.mono (HW.out _) ?_
 rintro e x2 ⟨rfl, hb⟩
 replace hL0 := hL0.call hb
 clear hb hweq
 have hN0 := cells_of _ 0 [] rfl (hL0.get _ _ List.mem_cons_self)
 simp only [cellsF, and_true, Nat.zero_add, Nat.reduceAdd] at hN0
 go_wp2_with fail
 clear hN0
 with_reducible refine Calls.mono (HT.out _ (htab.below hL0.bl)) ?_
 rintro e x3 ⟨rfl, hb⟩
 replace hL0 := hL0.call hb
 clear hb
 go_wp2_with fail
 exact bodyPost_ret (v := .string s) (by simp [results, Tryz.results143, go_sem]) rfl ⟨rfl, hL0.bl⟩
set_option maxHeartbeats 4000000 in
set_option maxRecDepth 100000 in
theorem ftext_part (n : Int) (e : Nat) (s t : ByteArray) (HW : RT 83 #[frV n e] (.bool false)) (HT : RK Tab 74 #[intV n] (.string s)) (HU : RK Tab 39 #[natV e] (.string t)) (h1 : ((s.size : Nat) : Int) ≤ 20000000) (h2 : ((t.size : Nat) : Int) ≤ 20000000) (w : World) (htab : Tab w) :
  Calls Tryz.prog 143 #[frV n e] w fun xe w' => xe = .returned (.string ((s ++ ByteArray.mk #[47]) ++ t)) ∧ Below w.heap.size w w' := by
 have hL0 : GL w w [] := GL.start w
 replace HW := Lib.hid HW
 replace HT := Lib.hid HT
 replace HU := Lib.hid HU
 replace hL0 := (hL0.new rfl [.int .u64 ((zl n : Nat) : Int), .string (zh n), .bool (zs n), .int .u64 ((lo e : Nat) : Int), .string (hs e)] 79)
 generalize hweq : (w.alloc (.cells #[.int .u64 ((zl n : Nat) : Int), .string (zh n), .bool (zs n), .int .u64 ((lo e : Nat) : Int), .string (hs e)] 79)) = x1 at hL0
 go_enter Tryz.func143, Tryz.ntmps143
 have hN0 := cells_of _ 0 [] rfl (hL0.get _ _ List.mem_cons_self)
 simp only [cellsF, and_true, Nat.zero_add, Nat.reduceAdd] at hN0
 go_wp2_with fail
 clear hN0
 with_reducible refine Calls.mono (HW.out _) ?_
 rintro e x2 ⟨rfl, hb⟩
 replace hL0 := hL0.call hb
 clear hb hweq
 go_upto_region 3 with fail
 have ht := htab.below hL0.bl
 obtain ⟨α, iα, F, hF1, hF2⟩ := cls x2
 have hq0 := cls_box hF1 hL0 _ _ List.mem_cons_self
 simp only [cellsC, and_true, Nat.zero_add, Nat.reduceAdd] at hq0
 refine region_qs 9 (C := fun w' => ∃ x, w' = F x) (by kernel_rfl) (by kernel_rfl) (cls_drew hF2) ?_
 simp only [List.take_succ_cons, List.take_zero, List.drop_succ_cons, List.drop_zero, List.take_nil, List.drop_nil]
 repeat (go_big_quiet_step (first | fail | (go_at_call 74; with_reducible exact cls_callT hF1 hF2 ht HT.out _) | (go_at_call 39; with_reducible exact cls_callT hF1 hF2 ht HU.out _)))
 refine wpQuiet_nil ?_
 rintro wq ⟨xq, rfl⟩
 replace hL0 := hL0.call (hF1 xq)
 clear  hq0 hF2
 generalize F xq = x3 at hL0 ⊢
 clear hF1 xq iα F α
 clear ht
 go_wp2_with fail
 exact bodyPost_ret (v := .string ((s ++ ByteArray.mk #[47]) ++ t)) (by simp [results, Tryz.results143, go_sem]) rfl ⟨rfl, hL0.bl⟩
end Go.Proofs.YtdmoadfnogdfnaaGreatDoor
