/-
  The law answers true at every input, and leaves its arguments as they were: a part of the proof. CONDITIONS: the package-level tables start as the program's text lays them (the card ties them).
-/
import Derived.Test.YtdmoadfnogdfnaaGreatDoorZda
set_option linter.unusedVariables false
set_option linter.unusedSimpArgs false
namespace Go.Proofs.YtdmoadfnogdfnaaGreatDoor
open Go.RowKit
attribute [local irreducible] lo hs sm s64 c64 d64 b64 mh ml pd pc qd qc val hiB str cmpI srD lz nb isq decB zl zh zs
theorem fe_den (q : Rat) : q.den = if fe q = 0 then 1 else fe q := by
 unfold fe
 have := q.den_nz
 split <;> simp_all
theorem frV_z (n : Int) : frV n 0 = .agg #[.int .u64 ((zl n : Nat) : Int), .string (zh n), .bool (zs n), .int .u64 0, .string ⟨#[]⟩] := by unfold frV; rw [lo_small Bs_pos, hs_small Bs_pos]; rfl
theorem fracV_int (z : Int) : fracV (z : Rat) = frV z 0 := rfl
theorem fracV_of {q : Rat} {n : Int} {d : Nat} (hn : q.num = n) (hd : q.den = d) : fracV q = frV n (if d = 1 then 0 else d) := by subst hn hd; rfl
theorem one_o (w : World) : Calls Tryz.prog 81 #[.int .u64 1] w fun e w' => e = .returned (natV 1) ∧ Below w.heap.size w w' := of_val 1 1 rfl (by unfold Bs; omega) w
theorem zero_o (w : World) : Calls Tryz.prog 81 #[.int .u64 0] w fun e w' => e = .returned (natV 0) ∧ Below w.heap.size w w' := of_val 0 0 rfl (by unfold Bs; omega) w
theorem dec_sgn (z : Int) : decide (sgn z < 0) = decide (z < 0) := by
 have : sgn z < 0 ↔ z < 0 := by unfold sgn; split <;> (try split) <;> omega
 simp only [this]
theorem whole_raw (n : Int) (e : Nat) (w : World) : Calls Tryz.prog 83 #[frV n e] w fun x w' => x = .returned (.bool (decide (e = 0))) ∧ Below w.heap.size w w' := by
 by_cases h : e = 0
 ·subst h; rw [decide_eq_true rfl]; exact whole_yes n w
 ·rw [decide_eq_false h]; exact whole_no n e h w
theorem den_raw (n : Int) (e : Nat) (w : World) : Calls Tryz.prog 148 #[frV n e] w fun x w' => x = .returned (natV (if e = 0 then 1 else e)) ∧ Below w.heap.size w w' := by
 by_cases h : e = 0
 ·subst h; rw [if_pos rfl]; exact den_one_w n (whole_yes n) one_o w
 ·rw [if_neg h]; exact den_part_w n e (whole_no n e h) w
theorem denF (q : Rat) (w : World) : Calls Tryz.prog 148 #[fracV q] w fun x w' => x = .returned (natV q.den) ∧ Below w.heap.size w w' := by
 have h := den_raw q.num (fe q) w
 rw [← fe_den] at h
 exact h
theorem lowest_raw (n : Int) (d : Nat) (w : World) : Calls Tryz.prog 149 #[intV n, natV d] w fun x w' => x = .returned (frV n (if d = 1 then 0 else d)) ∧ Below w.heap.size w w' := by
 by_cases h : d = 1
 ·subst h; rw [if_pos rfl, frV_z]; exact lowest_one n one_o w
 ·rw [if_neg h]; exact lowest_part n d one_o h w
theorem lowestF {q : Rat} {n : Int} {d : Nat} (hn : q.num = n) (hd : q.den = d) (w : World) : Calls Tryz.prog 149 #[intV n, natV d] w fun x w' => x = .returned (fracV q) ∧ Below w.heap.size w w' := by
 rw [fracV_of hn hd]; exact lowest_raw n d w
theorem pon_raw (n g : Nat) (hg : g ≠ 0) (hn : (digs n).length ≤ 100000000) (w : World) : Calls Tryz.prog 194 #[natV n, natV g] w fun x w' => x = .returned (natV (n / g)) ∧ Below w.heap.size w w' := by
 by_cases h : g = 1
 ·subst h; rw [Nat.div_one]; exact pon_one n one_o w
 ·exact pon_div n g (n / g) (n % g) one_o (fun w => div_pos n g (by omega) (by omega) w) h w
theorem tdiv_sgn (z : Int) (g : Nat) : z.tdiv (g : Int) = if decide (z < 0) then -((z.natAbs / g : Nat) : Int) else ((z.natAbs / g : Nat) : Int) := by
 by_cases h : z < 0
 ·obtain ⟨n, rfl⟩ : ∃ n : Nat, z = -(n : Int) := ⟨z.natAbs, by omega⟩
  rw [decide_eq_true h, if_pos rfl, Int.natAbs_neg, Int.natAbs_natCast, Int.neg_tdiv, ← Int.ofNat_tdiv]
 ·obtain ⟨n, rfl⟩ : ∃ n : Nat, z = (n : Int) := ⟨z.natAbs, by omega⟩
  rw [decide_eq_false h, Int.natAbs_natCast, ← Int.ofNat_tdiv]; rfl
theorem part_raw (z : Int) (g : Nat) (hg : g ≠ 0) (hz : dI z ≤ 100000000) (w : World) : Calls Tryz.prog 195 #[intV z, natV g] w fun x w' => x = .returned (intV (z.tdiv g)) ∧ Below w.heap.size w w' := by
 have hF := fun w => fromI (decide (z < 0)) (z.natAbs / g) (z.tdiv g) (tdiv_sgn z g) w
 have hs := dec_sgn z
 by_cases h : z < 0
 ·rw [decide_eq_true h] at hF hs
  exact part_true z (sgn z) _ _ g _ (signI z) (absI z) (pon_raw _ g hg hz) hF hs w
 ·rw [decide_eq_false h] at hF hs
  exact part_false z (sgn z) _ _ g _ (signI z) (absI z) (pon_raw _ g hg hz) hF hs w
theorem cancel_raw (z : Int) (d : Nat) (hd : d ≠ 0) (hz : dI z ≤ 100000000) (hl : (digs d).length ≤ 100000000) (w : World) :
  Calls Tryz.prog 147 #[intV z, natV d] w fun x w' => x = .returned (.tuple #[intV (z.tdiv (Nat.gcd z.natAbs d : Nat)), natV (d / Nat.gcd z.natAbs d)]) ∧ Below w.heap.size w w' := by
 have hg : Nat.gcd z.natAbs d ≠ 0 := fun e => hd (Nat.gcd_eq_zero_iff.1 e).2
 exact cancel_w z _ _ d _ _ (absI z) (fun w => gcd_any z.natAbs d (Nat.le_trans hz (by omega)) (by omega) w) (part_raw z _ hg hz) (pon_raw d _ hg hl) w
theorem times_raw (z : Int) (d : Nat) (hz : dI z ≤ 100000000) (hd : (digs d).length ≤ 100000000) (w : World) : Calls Tryz.prog 150 #[intV z, natV d] w fun x w' => x = .returned (intV (z * (d : Int))) ∧ Below w.heap.size w w' := by
 by_cases h : d = 1
 ·subst h; rw [show z * ((1 : Nat) : Int) = z by omega]; exact times_one z one_o w
 ·exact times_mul z (d : Int) _ d one_o (fun w => fromI false d (d : Int) rfl w) (fun w => mulI z (d : Int) (by omega) (by rw [dI_nat]; omega) w) h w
theorem intF (k : Int) (h1 : -9223372036854775808 ≤ k) (h2 : k < 9223372036854775808) (w : World) : Calls Tryz.prog 87 #[.int .i64 k] w fun x w' => x = .returned (fracV (k : Rat)) ∧ Below w.heap.size w w' := by
 rw [fracV_int, frV_z]; exact int_w k k (fun w => ofI k h1 h2 w) w
theorem from0F (n : Int) (w : World) : Calls Tryz.prog 80 #[intV n, natV 0] w fun x w' => x = .returned (.tuple #[fracV 0, .int .i64 5]) ∧ Below w.heap.size w w' := by
 rw [show fracV 0 = frV 0 0 from rfl, frV_z, (z0).1, (z0).2.1, (z0).2.2]; exact ffrom_zero n zero_o w
theorem fromF (z : Int) (d : Nat) (hd : d ≠ 0) (hz : dI z ≤ 100000000) (hl : (digs d).length ≤ 100000000) (w : World) : Calls Tryz.prog 80 #[intV z, natV d] w fun x w' => x = .returned (.tuple #[fracV (mkRat z d), .int .i64 0]) ∧ Below w.heap.size w w' := by
 obtain ⟨h1, h2⟩ := canc (z := z) hd
 exact ffrom_w z _ _ d _ _ zero_o (cancel_raw z d hd hz hl) (fun w => lowestF h1 h2 w) hd w
end Go.Proofs.YtdmoadfnogdfnaaGreatDoor
namespace Go.Proofs.YtdmoadfnogdfnaaGreatDoor
open Go.RowKit
attribute [local irreducible] lo hs sm s64 c64 d64 b64 mh ml pd pc qd qc val hiB str cmpI srD lz nb isq decB zl zh zs
theorem negF (q : Rat) (w : World) : Calls Tryz.prog 68 #[fracV q] w fun x w' => x = .returned (fracV (-q)) ∧ Below w.heap.size w w' := fneg_w q.num (-q.num) (fe q) (fun w => negI q.num w) w
theorem signF (q : Rat) (w : World) : Calls Tryz.prog 72 #[fracV q] w fun x w' => x = .returned (.int .i64 (sgnQ q)) ∧ Below w.heap.size w w' := by
 rw [sgnQ_num]; exact fsign_w q.num (sgn q.num) (fe q) (fun w => signI q.num w) w
theorem floorF (q : Rat) (k : Nat) (hq : Sz q k) (hk : k ≤ 100000000) (w : World) : Calls Tryz.prog 75 #[fracV q] w fun x w' => x = .returned (intV q.floor) ∧ Below w.heap.size w w' := by
 rw [rfloor]
 exact floor_w q.num (q.den : Int) _ (q.num % (q.den : Int)) (fe q) q.den (denF q) (fun w => fromI false q.den _ rfl w) (fun w => divI q.num (q.den : Int) (by have := q.den_nz; omega) (Nat.le_trans hq.1 (by omega)) (by rw [dI_nat]; exact Nat.le_trans hq.2 (by omega)) w) w
theorem ceilF (q : Rat) (k : Nat) (hq : Sz q k) (hk : k ≤ 100000000) (w : World) : Calls Tryz.prog 82 #[fracV q] w fun x w' => x = .returned (intV (rceil q)) ∧ Below w.heap.size w w' :=
 ceil_w q.num (-q.num) (-q).floor _ (fe q) (negF q) (floorF (-q) k hq.neg hk) (fun w => negI _ w) w
theorem cmpF (p q : Rat) (k : Nat) (hp : Sz p k) (hq : Sz q k) (hk : k ≤ 100000000) (w : World) : Calls Tryz.prog 73 #[fracV p, fracV q] w fun x w' => x = .returned (.int .i64 (cmpQ p q)) ∧ Below w.heap.size w w' := by
 rw [cmpQ_parts]
 exact fcmp_w p.num q.num _ _ _ (fe p) (fe q) p.den q.den (denF p) (denF q) (times_raw p.num q.den (Nat.le_trans hp.1 hk) (Nat.le_trans hq.2 hk)) (times_raw q.num p.den (Nat.le_trans hq.1 hk) (Nat.le_trans hp.2 hk)) (fun w => cmpII _ _ w) w
theorem invF (q : Rat) (h0 : q ≠ 0) (w : World) : Calls Tryz.prog 142 #[fracV q] w fun x w' => x = .returned (fracV q⁻¹) ∧ Below w.heap.size w w' := by
 obtain ⟨h1, h2⟩ := rinv_parts h0
 have hs : decide (sgnQ q < 0) = decide (q.num < 0) := by
  have : sgnQ q < 0 ↔ q.num < 0 := by rw [sgnQ_num]; split <;> (try split) <;> omega
  simp only [this]
 have hF := fun w => fromI (decide (q.num < 0)) q.den (if q.num < 0 then -(q.den : Int) else (q.den : Int)) (by by_cases h : q.num < 0 <;> simp [h]) w
 by_cases h : q.num < 0
 ·rw [decide_eq_true h] at hs hF
  exact finv_true q.num _ _ _ (fe q) q.den _ _ (signF q) (denF q) hF (fun w => absI q.num w) (fun w => lowestF h1 h2 w) hs w
 ·rw [decide_eq_false h] at hs hF
  exact finv_false q.num _ _ _ (fe q) q.den _ _ (signF q) (denF q) hF (fun w => absI q.num w) (fun w => lowestF h1 h2 w) hs w
theorem tdiv_dI {z : Int} {g k : Nat} (h : dI z ≤ k) : dI (z.tdiv (g : Int)) ≤ k := by
 refine Nat.le_trans (dI_mono ?_) h
 rw [Int.natAbs_tdiv]; exact Nat.div_le_self _ _
theorem ndiv_digs {n g k : Nat} (h : (digs n).length ≤ k) : (digs (n / g)).length ≤ k := Nat.le_trans (digs_mono (Nat.div_le_self _ _)) h
theorem mulF (p q : Rat) (k : Nat) (hp : Sz p k) (hq : Sz q k) (hk : k ≤ 100000000) (w : World) : Calls Tryz.prog 65 #[fracV p, fracV q] w fun x w' => x = .returned (fracV (p * q)) ∧ Below w.heap.size w w' := by
 obtain ⟨h1, h2⟩ := rmul_parts p q
 rw [Nat.mul_comm] at h2
 exact fmul_w p.num q.num _ _ _ _ (fe p) (fe q) p.den q.den _ _ _ _ (denF p) (denF q) (cancel_raw p.num q.den q.den_nz (Nat.le_trans hp.1 hk) (Nat.le_trans hq.2 hk)) (cancel_raw q.num p.den p.den_nz (Nat.le_trans hq.1 hk) (Nat.le_trans hp.2 hk))
  (fun w => mulI _ _ (Nat.le_trans (tdiv_dI hp.1) (by omega)) (Nat.le_trans (tdiv_dI hq.1) (by omega)) w) (fun w => mul_any _ _ (Nat.le_trans (ndiv_digs hp.2) (by omega)) (Nat.le_trans (ndiv_digs hq.2) (by omega)) w) (fun w => lowestF h1 h2 w) w
theorem zero_i (w : World) : Calls Tryz.prog 87 #[.int .i64 0] w fun x w' => x = .returned (frV 0 0) ∧ Below w.heap.size w w' := intF 0 (by decide) (by decide) w
theorem frV_00 : frV 0 0 = .agg #[.int .u64 0, .string ⟨#[]⟩, .bool false, .int .u64 0, .string ⟨#[]⟩] := by
 rw [frV_z, (z0).1, (z0).2.1, (z0).2.2]; rfl
theorem num_ne {q : Rat} (h : q ≠ 0) : q.num ≠ 0 := fun e => h (Rat.num_eq_zero.1 e)
theorem div0F (p : Rat) (w : World) : Calls Tryz.prog 58 #[fracV p, fracV 0] w fun x w' => x = .returned (.tuple #[fracV 0, .int .i64 5]) ∧ Below w.heap.size w w' := by
 have h := fdiv_zero p.num (fe p) zero_i w
 rw [← frV_00] at h
 exact h
theorem divF (p q : Rat) (k : Nat) (hp : Sz p k) (hq : Sz q k) (hk : k ≤ 100000000) (h0 : q ≠ 0) (w : World) : Calls Tryz.prog 58 #[fracV p, fracV q] w fun x w' => x = .returned (.tuple #[fracV (p / q), .int .i64 0]) ∧ Below w.heap.size w w' := by
 rw [Rat.div_def]
 exact fdiv_w p.num q.num _ _ (fe p) (fe q) _ _ zero_i (invF q h0) (mulF p q⁻¹ k hp (hq.inv h0) hk) (num_ne h0) w
theorem addF (p q : Rat) (k : Nat) (hp : Sz p k) (hq : Sz q k) (hk : k ≤ 10000000) (w : World) : Calls Tryz.prog 61 #[fracV p, fracV q] w fun x w' => x = .returned (fracV (p + q)) ∧ Below w.heap.size w w' := by
 obtain ⟨h1, h2⟩ := radd_parts p q
 have hg : Nat.gcd p.den q.den ≠ 0 := fun e => p.den_nz (Nat.gcd_eq_zero_iff.1 e).1
 have l1 : (digs (p.den / Nat.gcd p.den q.den)).length ≤ k := ndiv_digs hp.2
 have l2 : (digs (q.den / Nat.gcd p.den q.den)).length ≤ k := ndiv_digs hq.2
 have l3 : (digs (Nat.gcd p.den q.den)).length ≤ k := Nat.le_trans (digs_mono (Nat.gcd_le_left _ p.den_pos)) hp.2
 have lx : dI (p.num * ((q.den / Nat.gcd p.den q.den : Nat) : Int)) ≤ k + k := dI_mul hp.1 (by rw [dI_nat]; exact l2)
 have ly : dI (q.num * ((p.den / Nat.gcd p.den q.den : Nat) : Int)) ≤ k + k := dI_mul hq.1 (by rw [dI_nat]; exact l1)
 have ls := dI_add lx ly
 refine fadd_w p.num q.num _ (fe p) (fe q) _ ?_ w
 exact fcombine_add p.num q.num _ _ _ _ _ (fe p) (fe q) p.den q.den _ _ _ _ _ _ _ (denF p) (denF q) (fun w => gcd_any _ _ (Nat.le_trans hp.2 (by omega)) (Nat.le_trans hq.2 (by omega)) w)
  (pon_raw _ _ hg (Nat.le_trans hp.2 (by omega))) (pon_raw _ _ hg (Nat.le_trans hq.2 (by omega))) (times_raw _ _ (Nat.le_trans hp.1 (by omega)) (by omega)) (times_raw _ _ (Nat.le_trans hq.1 (by omega)) (by omega))
  (fun w => addI _ _ (by omega) (by omega) w) (cancel_raw _ _ hg (by omega) (by omega)) (fun w => mul_any _ _ (by omega) (by omega) w)
  (fun w => mul_any _ _ (Nat.le_trans (digs_mul_le l1 l2) (by omega)) (Nat.le_trans (ndiv_digs l3) (by omega)) w) (fun w => lowestF h1 h2 w)
theorem subF (p q : Rat) (k : Nat) (hp : Sz p k) (hq : Sz q k) (hk : k ≤ 10000000) (w : World) : Calls Tryz.prog 63 #[fracV p, fracV q] w fun x w' => x = .returned (fracV (p - q)) ∧ Below w.heap.size w w' := by
 have hp' := radd_parts p (-q)
 rw [← Rat.sub_eq_add_neg, Rat.neg_num, Rat.neg_den, Int.neg_mul, ← Int.sub_eq_add_neg] at hp'
 obtain ⟨h1, h2⟩ := hp'
 have hg : Nat.gcd p.den q.den ≠ 0 := fun e => p.den_nz (Nat.gcd_eq_zero_iff.1 e).1
 have l1 : (digs (p.den / Nat.gcd p.den q.den)).length ≤ k := ndiv_digs hp.2
 have l2 : (digs (q.den / Nat.gcd p.den q.den)).length ≤ k := ndiv_digs hq.2
 have l3 : (digs (Nat.gcd p.den q.den)).length ≤ k := Nat.le_trans (digs_mono (Nat.gcd_le_left _ p.den_pos)) hp.2
 have lx : dI (p.num * ((q.den / Nat.gcd p.den q.den : Nat) : Int)) ≤ k + k := dI_mul hp.1 (by rw [dI_nat]; exact l2)
 have ly : dI (q.num * ((p.den / Nat.gcd p.den q.den : Nat) : Int)) ≤ k + k := dI_mul hq.1 (by rw [dI_nat]; exact l1)
 have ls := dI_sub lx ly
 refine fsub_w p.num q.num _ (fe p) (fe q) _ ?_ w
 exact fcombine_sub p.num q.num _ _ _ _ _ (fe p) (fe q) p.den q.den _ _ _ _ _ _ _ (denF p) (denF q) (fun w => gcd_any _ _ (Nat.le_trans hp.2 (by omega)) (Nat.le_trans hq.2 (by omega)) w)
  (pon_raw _ _ hg (Nat.le_trans hp.2 (by omega))) (pon_raw _ _ hg (Nat.le_trans hq.2 (by omega))) (times_raw _ _ (Nat.le_trans hp.1 (by omega)) (by omega)) (times_raw _ _ (Nat.le_trans hq.1 (by omega)) (by omega))
  (fun w => subI _ _ (by omega) (by omega) w) (cancel_raw _ _ hg (by omega) (by omega)) (fun w => mul_any _ _ (by omega) (by omega) w)
  (fun w => mul_any _ _ (Nat.le_trans (digs_mul_le l1 l2) (by omega)) (Nat.le_trans (ndiv_digs l3) (by omega)) w) (fun w => lowestF h1 h2 w)
theorem of_val_q (n d : Int) (h0 : d ≠ 0) : mkRat (if d < 0 then -n else n) d.natAbs = (n : Rat) / (d : Rat) := by
 rw [Rat.mkRat_eq_div]
 by_cases h : d < 0
 ·rw [if_pos h]
  have e : ((d.natAbs : Nat) : Rat) = -(d : Rat) := by
   rw [show ((d.natAbs : Nat) : Rat) = (((d.natAbs : Nat) : Int) : Rat) from (Rat.intCast_natCast _).symm, show ((d.natAbs : Nat) : Int) = -d by omega, Rat.intCast_neg]
  rw [e, Rat.intCast_neg]
  have hd : (d : Rat) ≠ 0 := by simpa using h0
  grind
 ·rw [if_neg h, show ((d.natAbs : Nat) : Rat) = (((d.natAbs : Nat) : Int) : Rat) from (Rat.intCast_natCast _).symm, show ((d.natAbs : Nat) : Int) = d by omega]
theorem i64_dI {z : Int} (h1 : -9223372036854775808 ≤ z) (h2 : z < 9223372036854775808) : dI z ≤ 1 := digs_length_iff.2 (by unfold Bs; omega)
theorem ofF (n d : Int) (a1 : -9223372036854775808 ≤ n) (a2 : n < 9223372036854775808) (b1 : -9223372036854775808 ≤ d) (b2 : d < 9223372036854775808) (h0 : d ≠ 0) (w : World) :
  Calls Tryz.prog 138 #[.int .i64 n, .int .i64 d] w fun x w' => x = .returned (.tuple #[fracV ((n : Rat) / (d : Rat)), .int .i64 0]) ∧ Below w.heap.size w w' := by
 rw [← of_val_q n d h0]
 have hs := dec_sgn d
 have ln := i64_dI a1 a2
 have ld : (digs d.natAbs).length ≤ 1 := i64_dI b1 b2
 by_cases h : d < 0
 ·rw [decide_eq_true h] at hs
  rw [if_pos h]
  exact fof_true n d (sgn d) (-n) _ n d _ _ 0 (fun w => ofI n a1 a2 w) (fun w => ofI d b1 b2 w) (signI d) (fun w => negI n w) (absI d) (fromF (-n) d.natAbs (by omega) (by rw [dI_neg]; omega) (by omega)) hs w
 ·rw [decide_eq_false h] at hs
  rw [if_neg h]
  exact fof_false n d (sgn d) n _ n d _ _ 0 (fun w => ofI n a1 a2 w) (fun w => ofI d b1 b2 w) (signI d) (absI d) (fromF n d.natAbs (by omega) (by omega) (by omega)) hs w
theorem of0F (n : Int) (a1 : -9223372036854775808 ≤ n) (a2 : n < 9223372036854775808) (w : World) :
  Calls Tryz.prog 138 #[.int .i64 n, .int .i64 0] w fun x w' => x = .returned (.tuple #[fracV 0, .int .i64 5]) ∧ Below w.heap.size w w' :=
 fof_false n 0 (sgn 0) n 0 n 0 0 0 5 (fun w => ofI n a1 a2 w) (fun w => ofI 0 (by decide) (by decide) w) (signI 0) (absI 0) (from0F n) (by decide) w
end Go.Proofs.YtdmoadfnogdfnaaGreatDoor
namespace Go.Proofs.YtdmoadfnogdfnaaGreatDoor
open Go.RowKit
attribute [local irreducible] lo hs sm s64 c64 d64 b64 mh ml pd pc qd qc val hiB str cmpI srD lz nb isq decB zl zh zs
set_option maxHeartbeats 4000000 in
set_option maxRecDepth 100000 in
theorem fparse_int (s p q : ByteArray) (z : Int) (f : Bool) (c : Int) (KT : World → Prop) (hKT : Keeps KT) (HC : RK KT 151 #[.string s, .string (ByteArray.mk #[47])] (.tuple #[.string p, .string q, .bool f])) (HI : RT 121 #[.string p] (.tuple #[intV z, .int .i64 c])) (hc : (c == 0) = false) (w : World) (kKT : KT w) :
  Calls Tryz.prog 78 #[.string s] w fun xe w' => xe = .returned (.tuple #[.agg #[.int .u64 0, .string ⟨#[]⟩, .bool false, .int .u64 0, .string ⟨#[]⟩], .int .i64 c]) ∧ Below w.heap.size w w' := by
 have hL0 : GL w w [] := GL.start w
 replace hKT := Lib.hid hKT
 replace HC := Lib.hid HC
 replace HI := Lib.hid HI
 have hc2 : (c != 0) = true := by rw [bne, hc]; rfl
 replace hL0 := (hL0.new rfl [.int .u64 0, .string ⟨#[]⟩, .bool false, .int .u64 0, .string ⟨#[]⟩] 79)
 generalize hweq : (w.alloc (.cells #[.int .u64 0, .string ⟨#[]⟩, .bool false, .int .u64 0, .string ⟨#[]⟩] 79)) = x1 at hL0
 go_enter Tryz.func78, Tryz.ntmps78
 go_wp2_with fail
 with_reducible refine Calls.mono (HC.out _ (hKT.out.at hL0.bl kKT)) ?_
 rintro e x2 ⟨rfl, hb⟩
 replace hL0 := hL0.call hb
 clear hb hweq
 go_wp2_with fail
 with_reducible refine Calls.mono (HI.out _) ?_
 rintro e x3 ⟨rfl, hb⟩
 replace hL0 := hL0.call hb
 clear hb
 replace hL0 := (hL0.new rfl [.int .u64 ((zl z : Nat) : Int), .string (zh z), .bool (zs z)] 39)
 generalize hweq : (x3.alloc (.cells #[.int .u64 ((zl z : Nat) : Int), .string (zh z), .bool (zs z)] 39)) = x4 at hL0
 have hA := hL0.fc
 simp only [fcG, cellsF, neK, and_true, ne_eq, Nat.zero_add, Nat.reduceAdd] at hA
 have hP := hL0.put 1 (w.heap.size) _ rfl [.int .u64 0, .string ⟨#[]⟩, .bool false, .int .u64 0, .string ⟨#[]⟩] rfl
 simp only [setAll, List.set_cons_zero, List.set_cons_succ] at hP
 generalize hput1 : (((((x4.setCell ⟨w.heap.size, 0, none⟩ (.int .u64 0)).setCell ⟨w.heap.size, 1, none⟩ (.string ⟨#[]⟩)).setCell ⟨w.heap.size, 2, none⟩ (.bool false)).setCell ⟨w.heap.size, 3, none⟩ (.int .u64 0)).setCell ⟨w.heap.size, 4, none⟩ (.string ⟨#[]⟩)) = x5 at hP
 have hB1 := hP.fc
 simp only [fcG, cellsF, neK, and_true, ne_eq, Nat.zero_add, Nat.reduceAdd] at hB1
 replace hL0 := hP
 go_wp2_with fail
 exact bodyPost_ret (v := .tuple #[.agg #[.int .u64 0, .string ⟨#[]⟩, .bool false, .int .u64 0, .string ⟨#[]⟩], .int .i64 c]) (by simp [results, Tryz.results78, go_sem, hB1]) rfl ⟨rfl, hL0.bl⟩
set_option maxHeartbeats 4000000 in
set_option maxRecDepth 100000 in
theorem fparse_nat (s p q : ByteArray) (z : Int) (d : Nat) (c : Int) (KT : World → Prop) (hKT : Keeps KT) (HC : RK KT 151 #[.string s, .string (ByteArray.mk #[47])] (.tuple #[.string p, .string q, .bool true])) (HI : RT 121 #[.string p] (.tuple #[intV z, .int .i64 0])) (HN : RT 112 #[.string q] (.tuple #[natV d, .int .i64 c])) (hc : (c == 0) = false) (w : World) (kKT : KT w) :
  Calls Tryz.prog 78 #[.string s] w fun xe w' => xe = .returned (.tuple #[.agg #[.int .u64 0, .string ⟨#[]⟩, .bool false, .int .u64 0, .string ⟨#[]⟩], .int .i64 c]) ∧ Below w.heap.size w w' := by
 have hL0 : GL w w [] := GL.start w
 replace hKT := Lib.hid hKT
 replace HC := Lib.hid HC
 replace HI := Lib.hid HI
 replace HN := Lib.hid HN
 have hc2 : (c != 0) = true := by rw [bne, hc]; rfl
 replace hL0 := (hL0.new rfl [.int .u64 0, .string ⟨#[]⟩, .bool false, .int .u64 0, .string ⟨#[]⟩] 79)
 generalize hweq : (w.alloc (.cells #[.int .u64 0, .string ⟨#[]⟩, .bool false, .int .u64 0, .string ⟨#[]⟩] 79)) = x1 at hL0
 go_enter Tryz.func78, Tryz.ntmps78
 go_wp2_with fail
 with_reducible refine Calls.mono (HC.out _ (hKT.out.at hL0.bl kKT)) ?_
 rintro e x2 ⟨rfl, hb⟩
 replace hL0 := hL0.call hb
 clear hb hweq
 go_wp2_with fail
 with_reducible refine Calls.mono (HI.out _) ?_
 rintro e x3 ⟨rfl, hb⟩
 replace hL0 := hL0.call hb
 clear hb
 replace hL0 := (hL0.new rfl [.int .u64 ((zl z : Nat) : Int), .string (zh z), .bool (zs z)] 39)
 generalize hweq : (x3.alloc (.cells #[.int .u64 ((zl z : Nat) : Int), .string (zh z), .bool (zs z)] 39)) = x4 at hL0
 go_wp2_with fail
 with_reducible refine Calls.mono (HN.out _) ?_
 rintro e x5 ⟨rfl, hb⟩
 replace hL0 := hL0.call hb
 clear hb hweq
 replace hL0 := (hL0.new rfl [.int .u64 ((lo d : Nat) : Int), .string (hs d)] 32)
 generalize hweq : (x5.alloc (.cells #[.int .u64 ((lo d : Nat) : Int), .string (hs d)] 32)) = x6 at hL0
 have hA := hL0.fc
 simp only [fcG, cellsF, neK, and_true, ne_eq, Nat.zero_add, Nat.reduceAdd] at hA
 have hP := hL0.put 2 (w.heap.size) _ rfl [.int .u64 0, .string ⟨#[]⟩, .bool false, .int .u64 0, .string ⟨#[]⟩] rfl
 simp only [setAll, List.set_cons_zero, List.set_cons_succ] at hP
 generalize hput1 : (((((x6.setCell ⟨w.heap.size, 0, none⟩ (.int .u64 0)).setCell ⟨w.heap.size, 1, none⟩ (.string ⟨#[]⟩)).setCell ⟨w.heap.size, 2, none⟩ (.bool false)).setCell ⟨w.heap.size, 3, none⟩ (.int .u64 0)).setCell ⟨w.heap.size, 4, none⟩ (.string ⟨#[]⟩)) = x7 at hP
 have hB1 := hP.fc
 simp only [fcG, cellsF, neK, and_true, ne_eq, Nat.zero_add, Nat.reduceAdd] at hB1
 replace hL0 := hP
 go_wp2_with fail
 exact bodyPost_ret (v := .tuple #[.agg #[.int .u64 0, .string ⟨#[]⟩, .bool false, .int .u64 0, .string ⟨#[]⟩], .int .i64 c]) (by simp [results, Tryz.results78, go_sem, hB1]) rfl ⟨rfl, hL0.bl⟩
set_option maxHeartbeats 4000000 in
set_option maxRecDepth 100000 in
theorem fparse_part (s p q : ByteArray) (z n : Int) (d e : Nat) (c : Int) (KT : World → Prop) (hKT : Keeps KT) (HC : RK KT 151 #[.string s, .string (ByteArray.mk #[47])] (.tuple #[.string p, .string q, .bool true])) (HI : RT 121 #[.string p] (.tuple #[intV z, .int .i64 0])) (HN : RT 112 #[.string q] (.tuple #[natV d, .int .i64 0])) (HF : RT 80 #[intV z, natV d] (.tuple #[frV n e, .int .i64 c])) (w : World) (kKT : KT w) :
  Calls Tryz.prog 78 #[.string s] w fun xe w' => xe = .returned (.tuple #[frV n e, .int .i64 c]) ∧ Below w.heap.size w w' := by
 have hL0 : GL w w [] := GL.start w
 replace hKT := Lib.hid hKT
 replace HC := Lib.hid HC
 replace HI := Lib.hid HI
 replace HN := Lib.hid HN
 replace HF := Lib.hid HF
 replace hL0 := (hL0.new rfl [.int .u64 0, .string ⟨#[]⟩, .bool false, .int .u64 0, .string ⟨#[]⟩] 79)
 generalize hweq : (w.alloc (.cells #[.int .u64 0, .string ⟨#[]⟩, .bool false, .int .u64 0, .string ⟨#[]⟩] 79)) = x1 at hL0
 go_enter Tryz.func78, Tryz.ntmps78
 go_wp2_with fail
 with_reducible refine Calls.mono (HC.out _ (hKT.out.at hL0.bl kKT)) ?_
 rintro e x2 ⟨rfl, hb⟩
 replace hL0 := hL0.call hb
 clear hb hweq
 go_wp2_with fail
 with_reducible refine Calls.mono (HI.out _) ?_
 rintro e x3 ⟨rfl, hb⟩
 replace hL0 := hL0.call hb
 clear hb
 replace hL0 := (hL0.new rfl [.int .u64 ((zl z : Nat) : Int), .string (zh z), .bool (zs z)] 39)
 generalize hweq : (x3.alloc (.cells #[.int .u64 ((zl z : Nat) : Int), .string (zh z), .bool (zs z)] 39)) = x4 at hL0
 go_wp2_with fail
 with_reducible refine Calls.mono (HN.out _) ?_
 rintro e x5 ⟨rfl, hb⟩
 replace hL0 := hL0.call hb
 clear hb hweq
 replace hL0 := (hL0.new rfl [.int .u64 ((lo d : Nat) : Int), .string (hs d)] 32)
 generalize hweq : (x5.alloc (.cells #[.int .u64 ((lo d : Nat) : Int), .string (hs d)] 32)) = x6 at hL0
 have hN0 := cells_of _ 0 [] rfl (hL0.get _ _ List.mem_cons_self)
 simp only [cellsF, and_true, Nat.zero_add, Nat.reduceAdd] at hN0
 have hN1 := cells_of _ 0 [] rfl (hL0.get _ _ (List.mem_cons_of_mem _ List.mem_cons_self))
 simp only [cellsF, and_true, Nat.zero_add, Nat.reduceAdd] at hN1
 go_wp2_with fail
 clear hN0 hN1
 with_reducible refine Calls.mono (HF.out _) ?_
 rintro e x7 ⟨rfl, hb⟩
 replace hL0 := hL0.call hb
 clear hb hweq
 have hA := hL0.fc
 simp only [fcG, cellsF, neK, and_true, ne_eq, Nat.zero_add, Nat.reduceAdd] at hA
 have hP := hL0.put 2 (w.heap.size) _ rfl [.int .u64 ((zl n : Nat) : Int), .string (zh n), .bool (zs n), .int .u64 ((lo e : Nat) : Int), .string (hs e)] rfl
 simp only [setAll, List.set_cons_zero, List.set_cons_succ] at hP
 generalize hput1 : (((((x7.setCell ⟨w.heap.size, 0, none⟩ (.int .u64 ((zl n : Nat) : Int))).setCell ⟨w.heap.size, 1, none⟩ (.string (zh n))).setCell ⟨w.heap.size, 2, none⟩ (.bool (zs n))).setCell ⟨w.heap.size, 3, none⟩ (.int .u64 ((lo e : Nat) : Int))).setCell ⟨w.heap.size, 4, none⟩ (.string (hs e))) = x8 at hP
 have hB1 := hP.fc
 simp only [fcG, cellsF, neK, and_true, ne_eq, Nat.zero_add, Nat.reduceAdd] at hB1
 replace hL0 := hP
 go_wp2_with fail
 exact bodyPost_ret (v := .tuple #[frV n e, .int .i64 c]) (by simp [results, Tryz.results78, go_sem, hB1]) rfl ⟨rfl, hL0.bl⟩
set_option maxHeartbeats 4000000 in
set_option maxRecDepth 100000 in
theorem lof_w (i j c x : Int) (e : Nat) (HF : RT 138 #[.int .i64 i, .int .i64 j] (.tuple #[frV x e, .int .i64 c])) (w : World) :
  Calls Tryz.prog 137 #[.int .i64 i, .int .i64 j] w fun xe w' => xe = .returned (frV x e) ∧ Below w.heap.size w w' := by
 have hL0 : GL w w [] := GL.start w
 replace HF := Lib.hid HF
 replace hL0 := (hL0.new rfl [.int .u64 0, .string ⟨#[]⟩, .bool false, .int .u64 0, .string ⟨#[]⟩] 79)
 generalize hweq : (w.alloc (.cells #[.int .u64 0, .string ⟨#[]⟩, .bool false, .int .u64 0, .string ⟨#[]⟩] 79)) = x1 at hL0
 go_enter Tryz.func137, Tryz.ntmps137
 go_wp2_with fail
 with_reducible refine Calls.mono (HF.out _) ?_
 rintro e x2 ⟨rfl, hb⟩
 replace hL0 := hL0.call hb
 clear hb hweq
 replace hL0 := (hL0.new rfl [.int .u64 ((zl x : Nat) : Int), .string (zh x), .bool (zs x), .int .u64 ((lo e : Nat) : Int), .string (hs e)] 79)
 generalize hweq : (x2.alloc (.cells #[.int .u64 ((zl x : Nat) : Int), .string (zh x), .bool (zs x), .int .u64 ((lo e : Nat) : Int), .string (hs e)] 79)) = x3 at hL0
 have hA := hL0.fc
 simp only [fcG, cellsF, neK, and_true, ne_eq, Nat.zero_add, Nat.reduceAdd] at hA
 have hP := hL0.put 1 (w.heap.size) _ rfl [.int .u64 ((zl x : Nat) : Int), .string (zh x), .bool (zs x), .int .u64 ((lo e : Nat) : Int), .string (hs e)] rfl
 simp only [setAll, List.set_cons_zero, List.set_cons_succ] at hP
 generalize hput1 : (((((x3.setCell ⟨w.heap.size, 0, none⟩ (.int .u64 ((zl x : Nat) : Int))).setCell ⟨w.heap.size, 1, none⟩ (.string (zh x))).setCell ⟨w.heap.size, 2, none⟩ (.bool (zs x))).setCell ⟨w.heap.size, 3, none⟩ (.int .u64 ((lo e : Nat) : Int))).setCell ⟨w.heap.size, 4, none⟩ (.string (hs e))) = x4 at hP
 have hB1 := hP.fc
 simp only [fcG, cellsF, neK, and_true, ne_eq, Nat.zero_add, Nat.reduceAdd] at hB1
 replace hL0 := hP
 go_wp2_with fail
 exact bodyPost_ret (v := frV x e) (by simp [results, Tryz.results137, go_sem, hB1]) rfl ⟨rfl, hL0.bl⟩
set_option maxHeartbeats 4000000 in
set_option maxRecDepth 100000 in
theorem ltext_true (x : Int) (e : Nat) (s : ByteArray) (HT : RK Tab 143 #[frV x e] (.string s)) (w : World) (htab : Tab w) :
  Calls Tryz.prog 139 #[frV x e, .string s] w fun xe w' => xe = .returned (.bool true) ∧ Below w.heap.size w w' := by
 have hL0 : GL w w [] := GL.start w
 replace HT := Lib.hid HT
 replace hL0 := (hL0.new rfl [.int .u64 ((zl x : Nat) : Int), .string (zh x), .bool (zs x), .int .u64 ((lo e : Nat) : Int), .string (hs e)] 79)
 generalize hweq : (w.alloc (.cells #[.int .u64 ((zl x : Nat) : Int), .string (zh x), .bool (zs x), .int .u64 ((lo e : Nat) : Int), .string (hs e)] 79)) = x1 at hL0
 go_enter Tryz.func139, Tryz.ntmps139
 have hN0 := cells_of _ 0 [] rfl (hL0.get _ _ List.mem_cons_self)
 simp only [cellsF, and_true, Nat.zero_add, Nat.reduceAdd] at hN0
 go_wp2_with fail
 clear hN0
 with_reducible refine Calls.mono (HT.out _ (htab.below hL0.bl)) ?_
 rintro e x2 ⟨rfl, hb⟩
 replace hL0 := hL0.call hb
 clear hb hweq
 go_wp2_with fail
 exact bodyPost_ret (v := .bool true) (by simp [results, Tryz.results139, go_sem]) rfl ⟨rfl, hL0.bl⟩
end Go.Proofs.YtdmoadfnogdfnaaGreatDoor
namespace Go.Proofs.YtdmoadfnogdfnaaGreatDoor
open Go.RowKit
attribute [local irreducible] lo hs sm s64 c64 d64 b64 mh ml pd pc qd qc val hiB str cmpI srD lz nb isq decB zl zh zs fe
/-- The choice of the first that no other is better than. -/
def amg (r : Rat → Rat → Bool) : List Rat → Rat
 | [] => 0
 | q :: l => l.foldl (fun b a => if r a b then a else b) q
theorem amg_snoc (r : Rat → Rat → Bool) (l : List Rat) (a : Rat) (h : l ≠ []) : amg r (l ++ [a]) = if r a (amg r l) then a else amg r l := by
 cases l with
 | nil => exact absurd rfl h
 | cons q l => simp only [amg, List.cons_append, List.foldl_append, List.foldl_cons, List.foldl_nil]; rfl
theorem amg_mem (r : Rat → Rat → Bool) : ∀ (l : List Rat), l ≠ [] → amg r l ∈ l := by
 intro l
 refine snoc_ind (p := fun l => l ≠ [] → amg r l ∈ l) l (fun h => absurd rfl h) fun m a ih _ => ?_
 by_cases hm : m = []
 ·subst hm; simp [amg]
 ·rw [amg_snoc r m a hm]
  split
  ·simp
  ·exact List.mem_append_left _ (ih hm)
theorem fe_zero : fe 0 = 0 := fe_one rfl
def gtQ (p q : Rat) : Bool := decide (q < p)
theorem cmpQ_gt (p q : Rat) : decide (0 < cmpQ p q) = gtQ p q := by
 unfold cmpQ gtQ
 by_cases h : p < q
 ·rw [if_pos h, decide_eq_false (p := q < p) (by grind)]; rfl
 ·rw [if_neg h]
  by_cases h' : p = q
  ·rw [if_pos h', decide_eq_false (p := q < p) (by grind)]; rfl
  ·rw [if_neg h', decide_eq_true (p := q < p) (by grind)]; rfl
set_option maxHeartbeats 4000000 in
set_option maxRecDepth 100000 in
theorem gtr_true (m n c : Int) (d e : Nat) (HC : RT 73 #[frV m d, frV n e] (.int .i64 c)) (hc : decide (0 < c) = true) (w : World) :
  Calls Tryz.prog 155 #[frV m d, frV n e] w fun xe w' => xe = .returned (.bool true) ∧ Below w.heap.size w w' := by
 have hL0 : GL w w [] := GL.start w
 replace HC := Lib.hid HC
 replace hL0 := ((hL0.new rfl [.int .u64 ((zl m : Nat) : Int), .string (zh m), .bool (zs m), .int .u64 ((lo d : Nat) : Int), .string (hs d)] 79).new (K := w.heap.size + 1) (szA _ _) [.int .u64 ((zl n : Nat) : Int), .string (zh n), .bool (zs n), .int .u64 ((lo e : Nat) : Int), .string (hs e)] 79)
 generalize hweq : ((w.alloc (.cells #[.int .u64 ((zl m : Nat) : Int), .string (zh m), .bool (zs m), .int .u64 ((lo d : Nat) : Int), .string (hs d)] 79)).alloc (.cells #[.int .u64 ((zl n : Nat) : Int), .string (zh n), .bool (zs n), .int .u64 ((lo e : Nat) : Int), .string (hs e)] 79)) = x1 at hL0
 go_enter Tryz.func155, Tryz.ntmps155
 have hN0 := cells_of _ 0 [] rfl (hL0.get _ _ List.mem_cons_self)
 simp only [cellsF, and_true, Nat.zero_add, Nat.reduceAdd] at hN0
 have hN1 := cells_of _ 0 [] rfl (hL0.get _ _ (List.mem_cons_of_mem _ List.mem_cons_self))
 simp only [cellsF, and_true, Nat.zero_add, Nat.reduceAdd] at hN1
 go_wp2_with fail
 clear hN0 hN1
 with_reducible refine Calls.mono (HC.out _) ?_
 rintro e x2 ⟨rfl, hb⟩
 replace hL0 := hL0.call hb
 clear hb hweq
 go_wp2_with fail
 exact bodyPost_ret (v := .bool true) (by simp [results, Tryz.results155, go_sem]) rfl ⟨rfl, hL0.bl⟩
set_option maxHeartbeats 4000000 in
set_option maxRecDepth 100000 in
theorem gtr_false (m n c : Int) (d e : Nat) (HC : RT 73 #[frV m d, frV n e] (.int .i64 c)) (hc : decide (0 < c) = false) (w : World) :
  Calls Tryz.prog 155 #[frV m d, frV n e] w fun xe w' => xe = .returned (.bool false) ∧ Below w.heap.size w w' := by
 have hL0 : GL w w [] := GL.start w
 replace HC := Lib.hid HC
 replace hL0 := ((hL0.new rfl [.int .u64 ((zl m : Nat) : Int), .string (zh m), .bool (zs m), .int .u64 ((lo d : Nat) : Int), .string (hs d)] 79).new (K := w.heap.size + 1) (szA _ _) [.int .u64 ((zl n : Nat) : Int), .string (zh n), .bool (zs n), .int .u64 ((lo e : Nat) : Int), .string (hs e)] 79)
 generalize hweq : ((w.alloc (.cells #[.int .u64 ((zl m : Nat) : Int), .string (zh m), .bool (zs m), .int .u64 ((lo d : Nat) : Int), .string (hs d)] 79)).alloc (.cells #[.int .u64 ((zl n : Nat) : Int), .string (zh n), .bool (zs n), .int .u64 ((lo e : Nat) : Int), .string (hs e)] 79)) = x1 at hL0
 go_enter Tryz.func155, Tryz.ntmps155
 have hN0 := cells_of _ 0 [] rfl (hL0.get _ _ List.mem_cons_self)
 simp only [cellsF, and_true, Nat.zero_add, Nat.reduceAdd] at hN0
 have hN1 := cells_of _ 0 [] rfl (hL0.get _ _ (List.mem_cons_of_mem _ List.mem_cons_self))
 simp only [cellsF, and_true, Nat.zero_add, Nat.reduceAdd] at hN1
 go_wp2_with fail
 clear hN0 hN1
 with_reducible refine Calls.mono (HC.out _) ?_
 rintro e x2 ⟨rfl, hb⟩
 replace hL0 := hL0.call hb
 clear hb hweq
 go_wp2_with fail
 exact bodyPost_ret (v := .bool false) (by simp [results, Tryz.results155, go_sem]) rfl ⟨rfl, hL0.bl⟩
set_option maxHeartbeats 4000000 in
set_option maxRecDepth 100000 in
theorem among_max (ao : Option Addr) (n c : Nat) (qs : List Rat) (HB : ∀ p q, p ∈ qs → q ∈ qs → RT 155 #[fracV p, fracV q] (.bool (gtQ p q))) (w : World) (hq : SlQ w (.slice ao n c) qs) (hn : (0 < n → ∃ g, ao = some ⟨g, 0, none⟩ ∧ FS w g qs) ∧ qs.length = n ∧ n ≤ 1000000) :
  Calls Tryz.prog 156 #[.agg #[.func (.func 155) #[] #[]], .slice ao n c] w fun xe w' => xe = .returned (fracV (amg gtQ qs)) ∧ Below w.heap.size w w' := by
 have hL0 : GL w w [] := GL.start w
 have HB := Lib.hid HB
 have hle := hn.2
 have hcell := Lib.hid hn.1
 clear hn
 replace hL0 := (((hL0.new rfl [.func (.func 155) #[] #[]] 193).new (K := w.heap.size + 1) (szA _ _) [.int .u64 0, .string ⟨#[]⟩, .bool false, .int .u64 0, .string ⟨#[]⟩] 79).new (K := w.heap.size + 1 + 1) (by simp only [World.size_alloc]) [.int .u64 0, .string ⟨#[]⟩, .bool false, .int .u64 0, .string ⟨#[]⟩] 79)
 generalize hweq : (((w.alloc (.cells #[.func (.func 155) #[] #[]] 193)).alloc (.cells #[.int .u64 0, .string ⟨#[]⟩, .bool false, .int .u64 0, .string ⟨#[]⟩] 79)).alloc (.cells #[.int .u64 0, .string ⟨#[]⟩, .bool false, .int .u64 0, .string ⟨#[]⟩] 79)) = x1 at hL0
 have hsl := Lib.hid (SlQ.below hq hL0.bl)
 clear hq
 go_enter Tryz.func156, Tryz.ntmps156
 have hA := hL0.fc
 simp only [fcG, cellsF, neK, and_true, ne_eq, Nat.zero_add, Nat.reduceAdd] at hA
 go_wp2_with fail
 clear hA
 go_loopw [10] (fun z wr => ∃ i : Nat, i ≤ n ∧ z = .int .i64 (i : Int) ∧ ∃ q : Rat, q = amg gtQ (qs.take i) ∧ GL w wr [(w.heap.size + 1 + 1, [.int .u64 ((zl q.num : Nat) : Int), .string (zh q.num), .bool (zs q.num), .int .u64 ((lo (fe q) : Nat) : Int), .string (hs (fe q))]), (w.heap.size + 1, [.int .u64 0, .string ⟨#[]⟩, .bool false, .int .u64 0, .string ⟨#[]⟩]), (w.heap.size, [.func (.func 155) #[] #[]])]) (fun z _ => n - (intOf z).toNat)
 case atStart => exact ⟨0, Nat.zero_le _, rfl, 0, rfl, by rw [fe_zero, (show (0 : Rat).num = 0 from rfl), (z0).1, (z0).2.1, (z0).2.2, lo_small Bs_pos, hs_small Bs_pos]; exact hL0⟩
 case round =>
  clear hL0 hweq
  obtain ⟨i, hi, rfl, q, hq, hL0⟩ := hrel
  rcases Nat.lt_or_ge i n with hin | hin
  ·obtain ⟨g, rfl, hfs⟩ := hcell.out (by omega)
   have hf := (hfs.below hL0.bl).cell i (by omega)
   have k2 : decide ((i : Int) < (n : Int)) = true := decide_eq_true (by omega)
   have k1 : (i : Int) < (n : Int) := by omega
   have hlen : qs.length = n := by omega
   obtain ⟨a, ha⟩ : ∃ a, a = qs[i]'(by omega) := ⟨_, rfl⟩
   rw [← ha] at hf
   have hmem : a ∈ qs := by rw [ha]; exact List.getElem_mem _
   have htk : qs.take (i + 1) = qs.take i ++ [a] := by rw [List.take_succ_eq_append_getElem (by omega), ha]
   clear ha
   obtain ⟨f0, f1, f2, f3, f4⟩ := hf
   by_cases hi0 : i = 0
   ·subst hi0
    have ek : (((0 : Nat) : Int) == 0) = true := rfl
    have kn : 0 < n := by omega
    have kd : decide (0 < n) = true := decide_eq_true kn
    simp only [Nat.zero_mul, Nat.zero_add] at f0 f1 f2 f3 f4
    replace htk := Lib.hid htk
    replace hq := Lib.hid hq
    replace hlen := Lib.hid hlen
    clear k1 hin hi
    replace hL0 := (hL0.new rfl [.int .u64 ((zl a.num : Nat) : Int), .string (zh a.num), .bool (zs a.num), .int .u64 ((lo (fe a) : Nat) : Int), .string (hs (fe a))] 79)
    generalize hweq : (wr.alloc (.cells #[.int .u64 ((zl a.num : Nat) : Int), .string (zh a.num), .bool (zs a.num), .int .u64 ((lo (fe a) : Nat) : Int), .string (hs (fe a))] 79)) = x2 at hL0
    have hA := hL0.fc
    simp only [fcG, cellsF, neK, and_true, ne_eq, Nat.zero_add, Nat.reduceAdd] at hA
    have hP := hL0.put 1 (w.heap.size + 1 + 1) _ rfl [.int .u64 ((zl a.num : Nat) : Int), .string (zh a.num), .bool (zs a.num), .int .u64 ((lo (fe a) : Nat) : Int), .string (hs (fe a))] rfl
    simp only [setAll, List.set_cons_zero, List.set_cons_succ] at hP
    generalize hput1 : (((((x2.setCell ⟨w.heap.size + 1 + 1, 0, none⟩ (.int .u64 ((zl a.num : Nat) : Int))).setCell ⟨w.heap.size + 1 + 1, 1, none⟩ (.string (zh a.num))).setCell ⟨w.heap.size + 1 + 1, 2, none⟩ (.bool (zs a.num))).setCell ⟨w.heap.size + 1 + 1, 3, none⟩ (.int .u64 ((lo (fe a) : Nat) : Int))).setCell ⟨w.heap.size + 1 + 1, 4, none⟩ (.string (hs (fe a)))) = x3 at hP
    have hB1 := hP.fc
    simp only [fcG, cellsF, neK, and_true, ne_eq, Nat.zero_add, Nat.reduceAdd] at hB1
    replace hL0 := hP
    go_wp2_with fail
    go_roundw
    case rel => exact ⟨0 + 1, by omega, by first | rfl | go_num, a, by rw [htk.out]; rfl, hL0.weak (List.Sublist.cons _ (List.Sublist.refl _))⟩
    case measure => simp [intOf]; omega
   ·have ek : ((i : Int) == 0) = false := beq_eq_false_iff_ne.2 (by omega)
    have hne : qs.take i ≠ [] := fun e => by have := congrArg List.length e; rw [List.length_take, List.length_nil] at this; omega
    have hsn := Lib.hid (amg_snoc gtQ (qs.take i) a hne)
    clear hne
    have hqm : q = 0 ∨ q ∈ qs := .inr (by rw [hq]; exact List.mem_of_mem_take (amg_mem gtQ (qs.take i) (fun e => by have := congrArg List.length e; rw [List.length_take, List.length_nil] at this; omega)))
    have hqm2 : q ∈ qs := by rw [hq]; exact List.mem_of_mem_take (amg_mem gtQ (qs.take i) (fun e => by have := congrArg List.length e; rw [List.length_take, List.length_nil] at this; omega))
    clear hqm
    have HB1 := Lib.hid (HB.out a q hmem hqm2)
    clear hmem hqm2
    replace htk := Lib.hid htk
    replace hq := Lib.hid hq
    replace hlen := Lib.hid hlen
    obtain ⟨d, hd⟩ : ∃ d, d = gtQ a q := ⟨_, rfl⟩
    rw [← hd] at HB1
    replace hd := Lib.hid hd
    have k3 := Lib.hid hi
    have k4 := Lib.hid hin
    replace hL0 := (hL0.new rfl [.int .u64 ((zl a.num : Nat) : Int), .string (zh a.num), .bool (zs a.num), .int .u64 ((lo (fe a) : Nat) : Int), .string (hs (fe a))] 79)
    generalize hweq : (wr.alloc (.cells #[.int .u64 ((zl a.num : Nat) : Int), .string (zh a.num), .bool (zs a.num), .int .u64 ((lo (fe a) : Nat) : Int), .string (hs (fe a))] 79)) = x4 at hL0
    have hA := hL0.fc
    simp only [fcG, cellsF, neK, and_true, ne_eq, Nat.zero_add, Nat.reduceAdd] at hA
    go_wp2_with fail
    clear hA
    with_reducible refine Calls.mono (HB1.out _) ?_
    rintro e x5 ⟨rfl, hb⟩
    replace hL0 := hL0.call hb
    clear hb hweq
    cases d with
    | true =>
     have hA := hL0.fc
     simp only [fcG, cellsF, neK, and_true, ne_eq, Nat.zero_add, Nat.reduceAdd] at hA
     have hP := hL0.put 1 (w.heap.size + 1 + 1) _ rfl [.int .u64 ((zl a.num : Nat) : Int), .string (zh a.num), .bool (zs a.num), .int .u64 ((lo (fe a) : Nat) : Int), .string (hs (fe a))] rfl
     simp only [setAll, List.set_cons_zero, List.set_cons_succ] at hP
     generalize hput2 : (((((x5.setCell ⟨w.heap.size + 1 + 1, 0, none⟩ (.int .u64 ((zl a.num : Nat) : Int))).setCell ⟨w.heap.size + 1 + 1, 1, none⟩ (.string (zh a.num))).setCell ⟨w.heap.size + 1 + 1, 2, none⟩ (.bool (zs a.num))).setCell ⟨w.heap.size + 1 + 1, 3, none⟩ (.int .u64 ((lo (fe a) : Nat) : Int))).setCell ⟨w.heap.size + 1 + 1, 4, none⟩ (.string (hs (fe a)))) = x6 at hP
     have hB2 := hP.fc
     simp only [fcG, cellsF, neK, and_true, ne_eq, Nat.zero_add, Nat.reduceAdd] at hB2
     replace hL0 := hP
     go_wp2_with fail
     go_roundw
     case rel => exact ⟨i + 1, by omega, by first | rfl | go_num, a, by rw [htk.out, hsn.out, ← hq.out, if_pos hd.out.symm], hL0.weak (List.Sublist.cons _ (List.Sublist.refl _))⟩
     case measure => simp [intOf]; omega
    | false =>
     have hA := hL0.fc
     simp only [fcG, cellsF, neK, and_true, ne_eq, Nat.zero_add, Nat.reduceAdd] at hA
     go_wp2_with fail
     go_roundw
     case rel => exact ⟨i + 1, by omega, by first | rfl | go_num, q, by rw [htk.out, hsn.out, ← hq.out, if_neg (by rw [← hd.out]; exact Bool.false_ne_true)], hL0.weak (List.Sublist.cons _ (List.Sublist.refl _))⟩
     case measure => simp [intOf]; omega
  ·obtain rfl : i = n := by omega
   have k2 : decide ((i : Int) < (i : Int)) = false := decide_eq_false (by omega)
   have hqq : q = amg gtQ qs := by rw [hq, List.take_of_length_le (by omega)]
   clear hq
   replace hqq := Lib.hid hqq
   replace hle := Lib.hid hle
   have hA := hL0.fc
   simp only [fcG, cellsF, neK, and_true, ne_eq, Nat.zero_add, Nat.reduceAdd] at hA
   have hP := hL0.put 1 (w.heap.size + 1) _ rfl [.int .u64 ((zl q.num : Nat) : Int), .string (zh q.num), .bool (zs q.num), .int .u64 ((lo (fe q) : Nat) : Int), .string (hs (fe q))] rfl
   simp only [setAll, List.set_cons_zero, List.set_cons_succ] at hP
   generalize hput3 : (((((wr.setCell ⟨w.heap.size + 1, 0, none⟩ (.int .u64 ((zl q.num : Nat) : Int))).setCell ⟨w.heap.size + 1, 1, none⟩ (.string (zh q.num))).setCell ⟨w.heap.size + 1, 2, none⟩ (.bool (zs q.num))).setCell ⟨w.heap.size + 1, 3, none⟩ (.int .u64 ((lo (fe q) : Nat) : Int))).setCell ⟨w.heap.size + 1, 4, none⟩ (.string (hs (fe q)))) = x6 at hP
   have hB3 := hP.fc
   simp only [fcG, cellsF, neK, and_true, ne_eq, Nat.zero_add, Nat.reduceAdd] at hB3
   replace hL0 := hP
   go_wp2_with fail
   exact bodyPost_ret (v := fracV q) (by simp [results, Tryz.results156, go_sem, hB3]) rfl ⟨by rw [hqq.out], hL0.bl⟩
end Go.Proofs.YtdmoadfnogdfnaaGreatDoor
namespace Go.Proofs.YtdmoadfnogdfnaaGreatDoor
open Go.RowKit
attribute [local irreducible] lo hs sm s64 c64 d64 b64 mh ml pd pc qd qc val hiB str cmpI srD lz nb isq decB zl zh zs
theorem int_pow_sgn (z : Int) : ∀ k : Nat, z ^ k = if (decide (z < 0) && decide (k % 2 = 1)) = true then -((z.natAbs ^ k : Nat) : Int) else ((z.natAbs ^ k : Nat) : Int)
 | 0 => by simp
 | k + 1 => by
  rw [Int.pow_succ, int_pow_sgn z k, Nat.pow_succ]
  by_cases h : z < 0
  ·rw [decide_eq_true h, Bool.true_and, Bool.true_and]
   have e : z = -(z.natAbs : Int) := by omega
   rcases Nat.mod_two_eq_zero_or_one k with hk | hk
   ·rw [decide_eq_false (p := k % 2 = 1) (by omega), decide_eq_true (p := (k + 1) % 2 = 1) (by omega), if_neg Bool.false_ne_true, if_pos rfl]
    conv => lhs; rw [e]
    rw [Int.mul_neg, Int.natAbs_neg, Int.natAbs_natCast, Int.natCast_mul]
   ·rw [decide_eq_true hk, decide_eq_false (p := (k + 1) % 2 = 1) (by omega), if_neg Bool.false_ne_true, if_pos rfl]
    conv => lhs; rw [e]
    rw [Int.neg_mul_neg, Int.natAbs_neg, Int.natAbs_natCast, Int.natCast_mul]
  ·rw [decide_eq_false h, Bool.false_and, Bool.false_and, if_neg Bool.false_ne_true, if_neg Bool.false_ne_true]
   have e : z = (z.natAbs : Int) := by omega
   conv => lhs; rw [e]
   rw [Int.natAbs_natCast, Int.natCast_mul]
theorem odd_tmod (k : Nat) : (((k : Int).tmod 2) == 1) = decide (k % 2 = 1) := by
 rw [show (2 : Int) = ((2 : Nat) : Int) from rfl, ← Int.ofNat_tmod]
 by_cases h : k % 2 = 1
 ·rw [h, decide_eq_true rfl]; rfl
 ·rw [show k % 2 = 0 by omega]; rfl
theorem dec_sgnQ (q : Rat) : decide (sgnQ q < 0) = decide (q.num < 0) := by
 have : sgnQ q < 0 ↔ q.num < 0 := by rw [sgnQ_num]; split <;> (try split) <;> omega
 simp only [this]
theorem powerF (q : Rat) (k : Nat) (hk : k ≤ 4096) (hn : k = 0 ∨ nb q.num.natAbs ≤ 262144 / k) (hd : k = 0 ∨ nb q.den ≤ 262144 / k) (m : Nat) (hq : Sz q m) (hm : m ≤ 100000000) (w : World) :
  Calls Tryz.prog 154 #[fracV q, .int .i64 (k : Int)] w fun x w' => x = .returned (.tuple #[fracV (q ^ k), .int .i64 0]) ∧ Below w.heap.size w w' := by
 have hs := dec_sgnQ q
 have hP := fun w => pow_ok q.num.natAbs k hk hn (Nat.le_trans hq.1 (by omega)) w
 have hQ := fun w => pow_ok q.den k hk hd (Nat.le_trans hq.2 (by omega)) w
 have hF := fun w => fromI (decide (q.num < 0) && decide (k % 2 = 1)) (q.num.natAbs ^ k) (q.num ^ k) (int_pow_sgn q.num k) w
 have hL := fun w => lowestF (Rat.num_pow q k) (Rat.den_pow q k) w
 by_cases h : q.num < 0
 ·rw [decide_eq_true h] at hs hF
  rw [Bool.true_and] at hF
  by_cases ho : k % 2 = 1
  ·rw [decide_eq_true ho] at hF
   exact fpower_odd q.num _ _ _ (fe q) _ q.den _ _ _ _ (fun w => absI q.num w) hP (denF q) hQ (signF q) hF hL hs (by rw [odd_tmod, decide_eq_true ho]) w
  ·rw [decide_eq_false ho] at hF
   exact fpower_even q.num _ _ _ (fe q) _ q.den _ _ _ _ (fun w => absI q.num w) hP (denF q) hQ (signF q) hF hL hs (by rw [odd_tmod, decide_eq_false ho]) w
 ·rw [decide_eq_false h] at hs hF
  rw [Bool.false_and] at hF
  exact fpower_pos q.num _ _ _ (fe q) _ q.den _ _ _ _ (fun w => absI q.num w) hP (denF q) hQ (signF q) hF hL hs w
theorem powF_pos (q : Rat) (k : Nat) (hk : k ≤ 4096) (p : Rat) (c : Int) (HP : ∀ w, Calls Tryz.prog 154 #[fracV q, .int .i64 (k : Int)] w fun x w' => x = .returned (.tuple #[fracV p, .int .i64 c]) ∧ Below w.heap.size w w') (w : World) :
  Calls Tryz.prog 86 #[fracV q, .int .i64 (k : Int)] w fun x w' => x = .returned (.tuple #[fracV p, .int .i64 c]) ∧ Below w.heap.size w w' :=
 fpow_pos q.num p.num c (fe q) (fe p) k HP (decide_eq_false (by omega)) (decide_eq_false (by omega)) (decide_eq_true (by omega)) w
theorem powF_zero (k : Int) (h1 : -4096 ≤ k) (h2 : k < 0) (w : World) :
  Calls Tryz.prog 86 #[fracV 0, .int .i64 k] w fun x w' => x = .returned (.tuple #[fracV 0, .int .i64 5]) ∧ Below w.heap.size w w' := by
 have h := fpow_zero k zero_i (decide_eq_false (by omega)) (decide_eq_false (by omega)) (decide_eq_false (by omega)) w
 rw [← frV_00] at h
 exact h
theorem powF_neg (q : Rat) (h0 : q ≠ 0) (k : Int) (l : Nat) (hl : k = -(l : Int)) (hp : 0 < l) (hk : l ≤ 4096) (p : Rat) (c : Int) (HP : ∀ w, Calls Tryz.prog 154 #[fracV q⁻¹, .int .i64 (l : Int)] w fun x w' => x = .returned (.tuple #[fracV p, .int .i64 c]) ∧ Below w.heap.size w w') (w : World) :
  Calls Tryz.prog 86 #[fracV q, .int .i64 k] w fun x w' => x = .returned (.tuple #[fracV p, .int .i64 c]) ∧ Below w.heap.size w w' :=
 fpow_neg q.num _ p.num c (fe q) _ (fe p) k l zero_i (invF q h0) HP (decide_eq_false (by omega)) (decide_eq_false (by omega)) (decide_eq_false (by omega)) (by rw [hl, Int.neg_neg]; exact IntWalk.i64_in _ (by omega)) (num_ne h0) w
/-- A fraction's text. -/
def qtxt (q : Rat) : ByteArray := if q.den = 1 then ztxt q.num else ztxt q.num ++ (ByteArray.mk #[47]) ++ txt q.den
theorem ztxt_small {z : Int} {k : Nat} (hk : 0 < k) (h : dI z ≤ k) : (ztxt z).size ≤ 20 * k + 1 := by
 have h1 := txt_small (n := z.natAbs) hk h
 unfold ztxt
 split
 ·rw [ByteArray.size_append]
  have : (ByteArray.mk #[45]).size = 1 := rfl
  omega
 ·omega
theorem textF (q : Rat) (k : Nat) (hq : Sz q k) (hk : k ≤ 100000) (w : World) (htab : Tab w) : Calls Tryz.prog 143 #[fracV q] w fun x w' => x = .returned (.string (qtxt q)) ∧ Below w.heap.size w w' := by
 have hT := fun w h => textI q.num (Nat.le_trans hq.1 (by omega)) w h
 unfold qtxt
 by_cases h : q.den = 1
 ·rw [if_pos h, show fracV q = frV q.num 0 by unfold fracV; rw [fe_one h]]
  exact ftext_whole q.num _ (fun w => by have := whole_raw q.num 0 w; rwa [decide_eq_true rfl] at this) hT w htab
 ·rw [if_neg h, show fracV q = frV q.num q.den by unfold fracV; rw [fe_ne h]]
  have s1 := ztxt_small (k := 100000) (by omega) (Nat.le_trans hq.1 hk)
  have s2 := txt_small (n := q.den) (k := 100000) (by omega) (Nat.le_trans hq.2 hk)
  exact ftext_part q.num q.den _ _ (fun w => by have := whole_raw q.num q.den w; rwa [decide_eq_false q.den_nz] at this) hT (fun w h => text_any q.den (Nat.le_trans hq.2 (by omega)) w h) (by omega) (by omega) w htab
theorem greaterF (p q : Rat) (k : Nat) (hp : Sz p k) (hq : Sz q k) (hk : k ≤ 100000000) (w : World) : Calls Tryz.prog 155 #[fracV p, fracV q] w fun x w' => x = .returned (.bool (gtQ p q)) ∧ Below w.heap.size w w' := by
 have h := cmpQ_gt p q
 cases hb : gtQ p q with
 | true => rw [hb] at h; exact gtr_true p.num q.num _ (fe p) (fe q) (cmpF p q k hp hq hk) h w
 | false => rw [hb] at h; exact gtr_false p.num q.num _ (fe p) (fe q) (cmpF p q k hp hq hk) h w
end Go.Proofs.YtdmoadfnogdfnaaGreatDoor
namespace Go.Proofs.YtdmoadfnogdfnaaGreatDoor.Rx
open Go.RowKit
attribute [local irreducible] tv dg cmpI txt decB nb
theorem td_one : (td 1).length = 1 := by rw [td_pos (by omega), show 1 / 10000 = 0 by rfl, td_zero]; rfl
end Go.Proofs.YtdmoadfnogdfnaaGreatDoor.Rx
namespace Go.Proofs.YtdmoadfnogdfnaaGreatDoor.Rx
open Go.RowKit
attribute [local irreducible] tv dg cmpI txt decB nb isq
end Go.Proofs.YtdmoadfnogdfnaaGreatDoor.Rx
namespace Go.Proofs.YtdmoadfnogdfnaaGreatDoor.Rx
open Go.RowKit
attribute [local irreducible] tv dg cmpI txt decB nb isq
set_option maxHeartbeats 4000000 in
set_option maxRecDepth 100000 in
theorem rleading_any (v : Value) (l : List Nat) (F : Nat) (hd : ∀ d ∈ l, d < 10000) (hF : F ≤ 1000000) (hl : l.length ≤ F + 4) (w : World) (h : Sl w v l) :
  Calls Tryz.prog 177 #[v, .int .i64 (F : Int)] w fun e w' => e = .returned (.int .i64 ((tv (l.drop F) : Nat) : Int)) ∧ w = w' := by
 obtain ⟨ao, c, rfl, hv⟩ := h.view
 obtain ⟨n, hn⟩ : ∃ n, n = l.length := ⟨_, rfl⟩
 rw [← hn] at hl hv ⊢
 have h0 := Lib.hid (show tv (l.drop n) = 0 by rw [List.drop_eq_nil_of_le (by omega), tv_nil])
 replace hn := Lib.hid hn
 replace hv := Lib.hid hv
 replace hd := Lib.hid hd
 clear h
 go_enter Tryz.func177, Tryz.ntmps177
 go_wp2_with fail
 go_loopw [5, 6] (fun s z wr => ∃ j : Nat, j ≤ n ∧ (F ≤ j ∨ j = n) ∧ z = .int .i64 ((j : Int) - 1) ∧ s = .int .i64 ((tv (l.drop j) : Nat) : Int) ∧ w = wr) (fun _ z _ => (intOf z + 1).toNat)
 case atStart => exact ⟨n, Nat.le_refl _, .inr rfl, by first | rfl | go_num, by rw [h0.out]; rfl, rfl⟩
 case round =>
  obtain ⟨j, hj, hFj, rfl, rfl, rfl⟩ := hrel
  rcases Nat.lt_or_ge F j with hlt | hge
  ·obtain ⟨i, rfl⟩ : ∃ i, j = i + 1 := ⟨j - 1, by omega⟩
   obtain ⟨a, rfl, -, hs⟩ := hv.out (by omega)
   have hil : i < l.length := by have := hn.out; omega
   have hcell := hs.cell i hil
   have hx := hd.out _ (List.getElem_mem hil)
   have hnext : tv (l.drop i) = l[i] + 10000 * tv (l.drop (i + 1)) := by rw [List.drop_eq_getElem_cons hil, tv_cons]
   have hT : tv (l.drop (i + 1)) < 1000000000000 := by
    have h1 := tv_lt (l := l.drop (i + 1)) fun d hdd => hd.out d (List.mem_of_mem_drop hdd)
    exact Nat.lt_of_lt_of_le h1 (Nat.le_trans (Nat.pow_le_pow_right (by omega) (show _ ≤ 3 by rw [List.length_drop]; have := hn.out; omega)) (by decide))
   have e1 : (((i + 1 : Nat) : Int) - 1) = (i : Int) := by omega
   have k1 : (F : Int) ≤ (i : Int) := by omega
   have k2 : (i : Int) < (n : Int) := by omega
   have hTi : ((tv (l.drop (i + 1)) : Nat) : Int) ≤ 1000000000000 := by omega
   clear hT hs
   generalize l[i] = x at *
   generalize tv (l.drop (i + 1)) = T at *
   replace hnext := Lib.hid hnext
   replace hFj := Lib.hid hFj
   rw [e1]
   go_wp2_with fail
   go_roundw
   case rel => exact ⟨i, by omega, .inl (by omega), by first | rfl | go_num, (by rw [hnext.out]; go_num), by trivial⟩
   case measure => simp [intOf]
  ·have hfin : tv (l.drop j) = tv (l.drop F) := by
    rcases hFj with h | h
    ·rw [show j = F by omega]
    ·rw [List.drop_eq_nil_of_le (by have := hn.out; omega), List.drop_eq_nil_of_le (by have := hn.out; omega)]
   have k1 : ¬ (F : Int) ≤ (j : Int) - 1 := by omega
   replace hfin := Lib.hid hfin
   replace hFj := Lib.hid hFj
   go_wp2_with fail
   go_ret
   exact ⟨by rw [← hfin.out]; rfl, rfl⟩
/-- The bounds that the leading digits give. -/
theorem lead_low {b y F t : Nat} (ht : t = b / 10000 ^ F) : y / 10000 ^ F / (t + 1) * b ≤ y := by
 have hp : 0 < 10000 ^ F := Nat.pow_pos (by omega)
 have h1 : b < 10000 ^ F * (t + 1) := by
  have := Nat.lt_mul_div_succ b hp
  rwa [← ht] at this
 have h2 : y / 10000 ^ F / (t + 1) * b ≤ y / 10000 ^ F / (t + 1) * (10000 ^ F * (t + 1)) := Nat.mul_le_mul_left _ (Nat.le_of_lt h1)
 have h3 : y / 10000 ^ F / (t + 1) * (t + 1) ≤ y / 10000 ^ F := Nat.div_mul_le_self _ _
 have h4 : y / 10000 ^ F * 10000 ^ F ≤ y := Nat.div_mul_le_self _ _
 have h5 : y / 10000 ^ F / (t + 1) * (10000 ^ F * (t + 1)) = (y / 10000 ^ F / (t + 1) * (t + 1)) * 10000 ^ F := by
  rw [Nat.mul_comm (10000 ^ F), Nat.mul_assoc]
 have h6 : (y / 10000 ^ F / (t + 1) * (t + 1)) * 10000 ^ F ≤ y / 10000 ^ F * 10000 ^ F := Nat.mul_le_mul_right _ h3
 omega
theorem lead_high {b y F t : Nat} (ht : t = b / 10000 ^ F) (ht0 : 0 < t) : y / b ≤ y / 10000 ^ F / t := by
 rw [Nat.div_div_eq_div_mul]
 have h1 : 10000 ^ F * t ≤ b := by rw [ht]; exact Nat.mul_div_le _ _
 exact Nat.div_le_div_left h1 (Nat.mul_pos (Nat.pow_pos (by omega)) ht0)
end Go.Proofs.YtdmoadfnogdfnaaGreatDoor.Rx
namespace Go.Proofs.YtdmoadfnogdfnaaGreatDoor.Rx
open Go.RowKit
attribute [local irreducible] tv dg cmpI txt decB nb isq
theorem add_add (a : Addr) (i j : Nat) : (a.add i).add j = a.add (i + j) := by
 unfold Addr.add
 by_cases h : i = 0
 ·subst h; simp
 ·by_cases h2 : j = 0
  ·subst h2; simp [h]
  ·simp [h, h2, Nat.add_assoc]
theorem small_len {k : Nat} (hk : k ≤ 9999) : (td k).length ≤ 1 := td_length.2 (by rw [Nat.pow_one]; omega)
theorem own_one (w : World) (x : Int) : (w.alloc (.cells #[.int .i64 x] 3)).ownsRow w.heap.size 3 1 (.slice (some ⟨w.heap.size, 0, none⟩) 1 1) 1 [.int .i64 x] :=
 ⟨rfl, .inr ⟨w.heap.size, 1, #[.int .i64 x], rfl, Nat.le_refl _, heap_alloc_new w _, Nat.le_refl _, by unfold maxLen; omega, rfl, rfl⟩⟩
theorem slice_from (w : World) (aA : Addr) (L ca i1 : Nat) (h : i1 ≤ L) (hc : L ≤ ca) :
  (Instr.slice 42 (.slice (some aA) L ca) (some (.int .i64 (i1 : Int))) none none).run Tryz.prog w = .ok (.slice (some (if ca = i1 then aA else aA.add i1)) (L - i1) (ca - i1)) w := by
 obtain ⟨i0, hi, hz0, hz1, hz2⟩ := info_parts Tryz.infoI
 have h1 : (0 : Int) ≤ (i1 : Int) := by omega
 have h2 : (i1 : Int) ≤ (L : Int) := by omega
 by_cases hh : ca = i1
 ·simp [Instr.slice, Instr.sliceBounds, run_underlying Tryz.underlying42, run_sliceBound, h1, h2, hh, go_sem] <;> rfl
 ·simp [Instr.slice, Instr.sliceBounds, run_underlying Tryz.underlying42, run_sliceBound, h1, h2, hh, go_sem] <;> rfl
theorem made2 (w : World) (o : Obj) : ((w.alloc o).alloc (.cells #[] 3)).ownsRow (w.heap.size + 1) 3 1 (.slice (some ⟨w.heap.size + 1, 0, none⟩) 0 0) 0 [] := by
 have h := World.ownsRow_made (base := w.heap.size + 1) (e := 3) (size := 1) (w.alloc o) #[] 0 (by rw [World.size_alloc]; exact Nat.le_refl _) (Nat.zero_le _) rfl
 rwa [World.size_alloc] at h
/-- trim leaves the block that its argument looks into. -/
theorem trim_blk (v : Value) (l : List Nat) (hd : ∀ d ∈ l, d < 10000) (hB : l.length < 9223372036854775807) (w : World) (h : Sl w v l) :
  Calls Tryz.prog 168 #[v] w fun e w' => ∃ v', e = .returned v' ∧ Sl w v' (td (tv l)) ∧ v'.ownBlock = v.ownBlock ∧ w = w' := by
 obtain ⟨z, hz⟩ := td_tv hd
 rcases h with ⟨ao, c, rfl, rfl, hc0⟩ | ⟨a, c, rfl, h2, h3⟩
 ·refine (trim_nil ao c w).mono ?_
  rintro e w' ⟨rfl, rfl⟩
  exact ⟨_, rfl, .inl ⟨ao, c, rfl, by rw [tv_nil, td_zero], hc0⟩, rfl, rfl⟩
 ·have hlen : l.length = (td (tv l)).length + z := by
   have := congrArg List.length hz
   rwa [List.length_append, List.length_replicate] at this
  rw [hz] at h3
  rw [hlen] at h2 hB ⊢
  refine (trim_row a c _ z (td (tv l)) rfl h2 hB (fun h => td_last h) w h3).mono ?_
  rintro e w' ⟨rfl, rfl⟩
  exact ⟨_, rfl, .inr ⟨a, c, rfl, by omega, h3.left⟩, rfl, rfl⟩
theorem Sl.set_off {w : World} {v : Value} {l : List Nat} {g k : Nat} {u : Value} (h : Sl w v l) (ho : v.ownBlock ≠ some g) : Sl (w.setCell ⟨g, k, none⟩ u) v l := by
 rcases h with h | ⟨a, c, rfl, h2, h3⟩
 ·exact .inl h
 ·have hne : a.block ≠ g := fun e => ho (by rw [← e]; rfl)
  refine .inr ⟨a, c, rfl, h2, fun i hi => ?_, ?_⟩
  ·rw [← h3.cell i hi]
   exact World.cell?_of_block (by rw [addB]; exact Below.heap_setCell _ _ _ _ hne)
  ·have := h3.blk
   simpa [World.setCell] using this
theorem wpList_append_sl {w : World} {ops : Array Oper} {rest : List Oper} {o : Oper} {a : Act} {Q : Exit → Act → World → Prop} (hgd : o.guard = none) (s x : Operand)
  (ho : o.op = .call { callee := .builtin .append, args := #[s, x], argTypes := #[42, 42] })
  (base : Nat) (v : Value) (n : Nat) (xs : List Value) (hs : a.eval s = v) (hown : w.ownsRow base 3 1 v n xs)
  (v2 : Value) (l : List Nat) (hx : a.eval x = v2) (hsl : Sl w v2 l) (hn : n + l.length ≤ 1000000) (hbase : base ≤ w.heap.size)
  (h : ∀ v' w', w'.ownsRow base 3 1 v' (n + l.length) (xs ++ l.map iv) → w.grownBy w' v.ownBlock → wpList Tryz.prog ops Q rest (a.put o.dst v') w') : wpList Tryz.prog ops Q (o :: rest) a w := by
 obtain ⟨i0, hi, hz0, hz1, hz2⟩ := info_parts Tryz.infoI
 rcases hsl.src with ⟨e, rfl⟩ | ⟨ad, c, e, hnews⟩
 ·rw [e] at hx
  refine wpList_append_own_none hgd s x _ ho base 3 i0 1 Tryz.underlying42 hi v n xs hs hown hx (h v w ?_ ⟨rfl, rfl, rfl, Nat.le_refl _, fun _ _ _ => rfl⟩)
  simpa using hown
 ·rw [e] at hx
  exact wpList_append_own w hgd s x _ ho base 3 i0 (.int .i64 0) 1 8 Tryz.underlying42 hi hz0 hz1 hz2 rfl (by decide) v n xs hs hown ad l.length c (l.map iv) hx (by rw [List.length_map, Nat.mul_one]) hnews
   (fun u hu => by obtain ⟨y, -, rfl⟩ := List.mem_map.1 hu; rfl) (by unfold maxLen; omega) (by omega) hbase fun v' w' h1 h2 _ => h v' w' h1 h2
set_option maxHeartbeats 4000000 in
set_option maxRecDepth 100000 in
theorem rdiv_small (va vb : Value) (a b : Nat) (hab : a < b) (la : (td a).length ≤ 1000) (lb : (td b).length ≤ 1000) (w : World) (ha : Rn w va a) (hb : Rn w vb b) :
  Calls Tryz.prog 111 #[va, vb] w fun e w' => e = .returned (.tuple #[.slice none 0 0, va]) ∧ Below w.heap.size w w' := by
 have C := rcmp_any va vb a b (by omega) (by omega) w ha hb
 rw [cmpI_lt hab] at C
 replace C := Lib.hid C
 clear ha hb hab
 go_enter Tryz.func111, Tryz.ntmps111
 go_wp2_with fail
 with_reducible refine Calls.mono C.out ?_
 rintro e w1 ⟨rfl, hb1⟩
 go_wp2_with fail
 exact bodyPost_ret (v := .tuple #[.slice none 0 0, va]) (by simp [results, Tryz.results111, go_sem]) rfl ⟨rfl, hb1⟩
set_option maxHeartbeats 8000000 in
set_option maxRecDepth 100000 in
theorem rdiv_big (va vb : Value) (a b : Nat) (hab : b ≤ a) (hb0 : 0 < b) (la : (td a).length ≤ 1000) (w : World) (ha : Rn w va a) (hb : Rn w vb b) :
  Calls Tryz.prog 111 #[va, vb] w fun e w' => ∃ v1 v2, e = .returned (.tuple #[v1, v2]) ∧ Rn w' v1 (a / b) ∧ Rn w' v2 (a % b) ∧ Below w.heap.size w w' := by
 obtain ⟨i0, hi, hz0, hz1, hz2⟩ := info_parts Tryz.infoI
 obtain ⟨ao, ca, ea, hva⟩ := ha.view
 obtain ⟨bo, cb, eb⟩ := hb.form
 subst ea eb
 have lb := Nat.le_trans (td_mono hab) la
 have hML := td_mono hab
 obtain ⟨i1, hi1, hst⟩ := DivS.start hab hb0
 have hM0 : 0 < (td b).length := by
  rcases Nat.eq_zero_or_pos (td b).length with h | h
  ·have := td_nil.1 (List.eq_nil_of_length_eq_zero h); omega
  ·exact h
 have hAlt := td_lt a
 obtain ⟨F, hF⟩ : ∃ F, F = (td b).length - 3 := ⟨_, rfl⟩
 have hdrop := td_drop b F
 have ht0 : 0 < b / 10000 ^ F := by
  refine Nat.pos_of_ne_zero fun h => ?_
  rw [h, td_zero] at hdrop
  have := congrArg List.length hdrop
  rw [List.length_drop, List.length_nil] at this
  omega
 have Le := Lib.hid (fun (wx : World) (hh : Rn wx (.slice bo (td b).length cb) b) => rleading_any (.slice bo (td b).length cb) (td b) F (td_lt b) (by omega) (by omega) wx hh)
 rw [hdrop, tv_td] at Le
 have htb : b / 10000 ^ F < 1000000000000 := by
  have h1 : (td (b / 10000 ^ F)).length ≤ 3 := by rw [← hdrop, List.length_drop]; omega
  exact Nat.lt_of_lt_of_le (td_length.1 h1) (by decide)
 have C := Lib.hid (fun (wx : World) (h1 : Rn wx (.slice ao (td a).length ca) a) (h2 : Rn wx (.slice bo (td b).length cb) b) => rcmp_any _ _ a b (by omega) (by omega) wx h1 h2)
 have hcw : decide (cmpI a b < 0) = false := decide_eq_false (by unfold cmpI; split <;> (try split) <;> omega)
 generalize cmpI a b = z at *
 obtain ⟨t, ht⟩ : ∃ t, t = b / 10000 ^ F := ⟨_, rfl⟩
 rw [← ht] at Le ht0 htb
 -- the search for a digit
 have low := fun y => lead_low (y := y) ht
 have high := fun y => lead_high (y := y) ht ht0
 have lead := Lib.hid (fun (v : Value) (y : Nat) (hy : y < 10000 * b) (wx : World) (hv : Rn wx v y) => rleading_any v (td y) F (td_lt y) (by omega) (by
  have h1 : (td y).length ≤ (td b).length + 1 := td_length.2 (by
   have := td_length.1 (Nat.le_refl (td b).length)
   rw [Nat.pow_succ]; omega)
  omega) wx hv)
 have fb : ∀ y, y < 10000 * b → y / 10000 ^ F < 20000000000000000 := fun y hy => by
  have hp : 0 < 10000 ^ F := Nat.pow_pos (by omega)
  have h1 : b < 10000 ^ F * (t + 1) := by
   have := Nat.lt_mul_div_succ b hp
   rwa [← ht] at this
  refine (Nat.div_lt_iff_lt_mul hp).2 ?_
  have h2 : 10000 * b < 10000 * (10000 ^ F * (t + 1)) := Nat.mul_lt_mul_of_pos_left h1 (by omega)
  have h3 : 10000 ^ F * (t + 1) ≤ 10000 ^ F * 1000000000000 := Nat.mul_le_mul_left _ (by omega)
  generalize 10000 ^ F * (t + 1) = p at *
  generalize 10000 ^ F = q at *
  omega
 have MB := Lib.hid (fun (k : Nat) (hk : k ≤ 9999) (vx : Value) (wx : World) (h1 : Rn wx (.slice bo (td b).length cb) b) (h2 : Rn wx vx k) => rmul_any (.slice bo (td b).length cb) vx b k (by omega) (Nat.le_trans (small_len hk) (by omega)) wx h1 h2)
 have hbk : ∀ k, k ≤ 9999 → (td (b * k)).length ≤ 1001 := fun k hk => Nat.le_trans (td_mul_le lb (small_len hk)) (by omega)
 have hyl : ∀ y, y < 10000 * b → (td y).length ≤ 1001 := fun y hy => by
  have h1 : (td y).length ≤ (td b).length + 1 := td_length.2 (by
   have := td_length.1 (Nat.le_refl (td b).length)
   rw [Nat.pow_succ]; omega)
  omega
 have CM := Lib.hid (fun (k : Nat) (hk : k ≤ 9999) (y : Nat) (hy : y < 10000 * b) (vx vy : Value) (wx : World) (h1 : Rn wx vx (b * k)) (h2 : Rn wx vy y) => rcmp_any vx vy (b * k) y (Nat.le_trans (hbk k hk) (by omega)) (Nat.le_trans (hyl y hy) (by omega)) wx h1 h2)
 have SB := Lib.hid (fun (k y : Nat) (hy : y < 10000 * b) (hle : b * k ≤ y) (vx vy : Value) (wx : World) (h1 : Rn wx vy y) (h2 : Rn wx vx (b * k)) => rsub_any vy vx y (b * k) (Nat.le_trans (hyl y hy) (by omega)) hle wx h1 h2)
 have hTR : ∀ (x y r : Nat) (hy : y = x + 10000 * r) (hx : x < 10000) (hyb : y < 10000 * b) (v : Value) (wx : World), Sl wx v (x :: td r) → Calls Tryz.prog 168 #[v] wx fun e w' => ∃ v', e = .returned v' ∧ Rn w' v' y ∧ v'.ownBlock = v.ownBlock ∧ wx = w' := fun x y r hy hx hyb v wx hv => by
  have h1 : tv (x :: td r) = y := by rw [tv_cons, tv_td, hy]
  have h2 : (td r).length ≤ 1001 := Nat.le_trans (td_mono (show r ≤ y by omega)) (hyl y hyb)
  have := trim_blk v (x :: td r) (fun d hd => by
   rcases List.mem_cons.1 hd with rfl | hd
   ·exact hx
   ·exact td_lt r d hd) (by rw [List.length_cons]; omega) wx hv
  rw [h1] at this
  refine Calls.mono this ?_
  rintro e w' ⟨v', rfl, h, h', rfl⟩
  exact ⟨v', rfl, h, h', rfl⟩
 replace hTR := Lib.hid hTR
 clear hbk hyl hdrop ht
 obtain ⟨L, hL⟩ : ∃ L, L = (td a).length := ⟨_, rfl⟩
 obtain ⟨M, hM⟩ : ∃ M, M = (td b).length := ⟨_, rfl⟩
 rw [← hL] at la ha hva C hi1 hML ⊢
 rw [← hM] at lb hb C Le MB hi1 hM0 hF hML ⊢
 obtain ⟨aA, rfl, hca, hsd⟩ := hva (by omega)
 have hsd := Lib.hid hsd
 obtain ⟨ad, had⟩ : ∃ ad, ad = (if ca = i1 then aA else aA.add i1) := ⟨_, rfl⟩
 obtain ⟨r0, hr0⟩ : ∃ r0, r0 = a / 10000 ^ i1 := ⟨_, rfl⟩
 have htr : (td a).drop i1 = td r0 := by rw [hr0, td_drop]
 have hmk : ∀ w, (Instr.makeSlice 42 (.int .i64 (i1 : Int)) (.int .i64 (i1 : Int))).run Tryz.prog w = .ok (.slice (some ⟨w.heap.size, 0, none⟩) i1 i1) (w.alloc (zobjI i1)) :=
  fun w => makeN w _ i1 rfl (by omega)
 have hsf : ∀ w, (Instr.slice 42 (.slice (some aA) L ca) (some (.int .i64 (i1 : Int))) none none).run Tryz.prog w = .ok (.slice (some ad) (L - i1) (ca - i1)) w :=
  fun w => by rw [had]; exact slice_from w aA L ca i1 (by omega) hca
 have hsr : ∀ wx, Below w.heap.size w wx → Sl wx (.slice (some ad) (L - i1) (ca - i1)) (td r0) := by
  intro wx hbx
  have hlr : (td r0).length = L - i1 := by rw [← htr, List.length_drop, ← hL]
  by_cases hz : L = i1
  ·exact .inl ⟨some ad, ca - i1, by rw [hz, Nat.sub_self], List.eq_nil_of_length_eq_zero (by rw [hlr, hz, Nat.sub_self]), fun h => by simp at h⟩
  ·have hne : ca ≠ i1 := by omega
   rw [if_neg hne] at had
   refine .inr ⟨ad, ca - i1, by rw [hlr], by omega, fun j hj => ?_, ?_⟩
   ·have hjl : i1 + j < (td a).length := by omega
    have := (hsd.out.below hbx).cell (i1 + j) hjl
    rw [had, add_add, this]
    congr 3
    simp only [← htr, List.getElem_drop]
   ·rw [had, addB]; exact (hsd.out.below hbx).blk
 have hLM : (L : Int) - (M : Int) + 1 = (i1 : Int) := by omega
 obtain ⟨m1, hm1⟩ : ∃ m1, m1 = L - i1 := ⟨_, rfl⟩
 have hLi : L - i1 = m1 := hm1.symm
 have hm1b : m1 ≤ 1000 := by omega
 have hiL : (i1 : Int) ≤ (L : Int) := by omega
 have hi0 : (1 : Int) ≤ (i1 : Int) := by omega
 have hm1' := Lib.hid (show m1 = L - i1 ∧ i1 + M = L + 1 ∧ M ≤ L from ⟨hm1, hi1, by omega⟩)
 clear hm1
 have hmax : max (0 : Int) ((M : Int) - 3) = (F : Int) := by omega
 replace ha := Lib.hid ha
 replace hb := Lib.hid hb
 have hm1r : (td r0).length = m1 := by rw [← htr, List.length_drop, ← hL, hLi]
 rw [htr, tv_td] at hst
 rw [hLi] at hsr
 replace hst := Lib.hid hst
 replace hsr := Lib.hid hsr
 replace htr := Lib.hid htr
 replace hr0 := Lib.hid hr0
 replace hca := Lib.hid hca
 replace had := Lib.hid had
 clear hva
 replace hL := Lib.hid hL
 replace hM := Lib.hid hM
 replace hAlt := Lib.hid hAlt
 replace low := Lib.hid low
 replace high := Lib.hid high
 replace fb := Lib.hid fb
 have hi1' := Lib.hid hi1
 have hF' := Lib.hid hF
 have k1 : (M : Int) ≤ (L : Int) := by omega
 clear hi1 hF
 go_enter Tryz.func111, Tryz.ntmps111
 go_wp2_with fail
 with_reducible refine Calls.mono (C.out _ ha.out hb.out) ?_
 rintro e w1 ⟨rfl, hb1⟩
 go_wp2_with fail
 with_reducible refine Calls.mono (Le.out _ (hb.out.below hb1)) ?_
 rintro e w2 ⟨rfl, rfl⟩
 have hD0 := ((hb1.alloc hb1.size (zobjI i1)).alloc (by rw [World.size_alloc]; have := hb1.size; omega) (.cells #[] 3))
 have hr0S := Lib.hid (hsr.out _ hD0)
 have hm1r' : 0 + (td r0).length ≤ 1000000 := by omega
 replace hD0 := Lib.hid hD0
 replace hm1r' := Lib.hid hm1r'
 go_wp2_with (at_builtin; refine wpList_append_sl rfl _ _ rfl (w1.heap.size + 1) _ 0 [] rfl (made2 _ _) _ (td r0) rfl hr0S.out hm1r'.out (by simp) ?_)
 intro v2 w2 hown hgrow
 have hB2 : Below (w1.heap.size + 1) (w1.alloc (zobjI i1)) w2 := ((Below.refl _ _).alloc (by rw [World.size_alloc]; exact Nat.le_refl _) _).grown hgrow (by simp [World.size_alloc]) (fun j hj => by simp [Value.ownBlock] at hj; omega)
 have hX0 := (IB.zeros w1 i1).below hB2 (Nat.lt_succ_self _)
 have hgB : w.heap.size ≤ w1.heap.size := hb1.size
 have hD2 := (hb1.alloc hb1.size (zobjI i1)).trans (hB2.mono (Nat.le_trans hgB (Nat.le_succ _)))
 have hR2 : Rn w2 v2 r0 := Sl.owned hown hm1r.symm
 clear hown hgrow hB2 hD0 hr0S hsf hsr hmk hm1r'
 replace hX0 := Lib.hid hX0
 replace hR2 := Lib.hid hR2
 obtain ⟨g, hg⟩ : ∃ g, g = w1.heap.size := ⟨_, rfl⟩
 rw [← hg] at hX0 hgB ⊢
 clear hg
 go_wp2_with fail
 go_loopw [8, 10] (fun zv rv wr => ∃ (j : Nat) (X : List Nat) (r : Nat), zv = .int .i64 ((j : Int) - 1) ∧ j ≤ i1 ∧ X.length = i1 ∧ DivS a b (td a) X j r ∧ IB wr g X ∧ Rn wr rv r ∧ Below w.heap.size w wr) (fun zv _ _ => (intOf zv + 1).toNat)
 case atStart => exact ⟨i1, _, r0, (by rw [show (L : Int) - (M : Int) = (i1 : Int) - 1 by omega]), Nat.le_refl _, List.length_replicate, hst.out, hX0.out, hR2.out, hD2⟩
 case round =>
  obtain ⟨j, X, r, rfl, hj, hXl, hS, hX, hr, hbl⟩ := hrel
  clear hX0 hR2 hst hD2 C Le
  cases j with
  | zero =>
   have HT := trim_any _ X hS.lt (by rw [hXl]; omega) wr (hX.sl i1 (by omega))
   obtain ⟨hq, hrm⟩ := hS.done
   rw [hq, hXl] at HT
   replace HT := Lib.hid HT
   rw [hrm] at hr
   obtain ⟨ro, rc, erv⟩ := hr.form
   subst erv
   replace hr := Lib.hid hr
   clear hS hX hXl hq hrm
   go_wp2_with fail
   with_reducible refine Calls.mono HT.out ?_
   rintro e w3 ⟨v', rfl, hv, rfl⟩
   replace hv := Lib.hid hv
   go_wp2_with fail
   exact bodyPost_ret (v := .tuple #[v', .slice ro (td (a % b)).length rc]) (by simp [results, Tryz.results111, go_sem]) rfl ⟨_, _, rfl, hv.out, hr.out, hbl⟩
  | succ k =>
   have hki : k < i1 := by omega
   have hkL : k < L := by omega
   have e1 : (((k + 1 : Nat) : Int) - 1) = (k : Int) := by omega
   have hxb : dg (td a) k < 10000 := dg_lt hAlt.out k
   have hcell : wr.cell? (aA.add k) = some (.int .i64 ((dg (td a) k : Nat) : Int)) := by
    rw [dg_in (by rw [← hL.out]; exact hkL)]
    exact (hsd.out.below hbl).cell k (by rw [← hL.out]; exact hkL)
   have hkX : k < X.length := by rw [hXl]; exact hki
   obtain ⟨y, hy⟩ : ∃ y, y = dg (td a) k + 10000 * r := ⟨_, rfl⟩
   obtain ⟨hq9, hN⟩ := hS.step hAlt.out hkX hy
   generalize dg (td a) k = x at *
   have hrb := hS.rem
   have hyb : y < 10000 * b := by omega
   have hlr : (td r).length ≤ 1000 := Nat.le_trans (td_mono (Nat.le_of_lt hrb)) (by rw [← hM.out]; exact lb)
   obtain ⟨f, hf⟩ : ∃ f, f = y / 10000 ^ F := ⟨_, rfl⟩
   have hfb : f < 20000000000000000 := by rw [hf]; exact fb.out y hyb
   have LD := Lib.hid (fun (v : Value) (wx : World) (h : Rn wx v y) => lead.out v y hyb wx h)
   rw [td_drop, tv_td, ← hf] at LD
   obtain ⟨l0, hl0⟩ : ∃ l0, l0 = f / (t + 1) := ⟨_, rfl⟩
   obtain ⟨h0, hh0⟩ : ∃ h0, h0 = f / t := ⟨_, rfl⟩
   obtain ⟨h9, hh9⟩ : ∃ h9, h9 = min h0 9999 := ⟨_, rfl⟩
   have m1q : l0 * b ≤ y := by rw [hl0, hf]; exact low.out y
   have m2q : y / b ≤ h0 := by rw [hh0, hf]; exact high.out y
   have m3q : y / b ≤ h9 := by omega
   have m4q : l0 ≤ y / b := (Nat.le_div_iff_mul_le hb0).2 m1q
   have m5q : l0 ≤ h9 := Nat.le_trans m4q m3q
   have m6q : y < b * (h9 + 1) := by
    have := (Nat.div_lt_iff_lt_mul hb0).1 (Nat.lt_succ_of_le m3q)
    rwa [Nat.mul_comm] at this
   have m7q : h9 ≤ 9999 := by omega
   have i1q : (f : Int) / ((t : Int) + 1) = (l0 : Int) := by rw [hl0]; exact (Int.natCast_ediv f (t + 1)).symm
   have i2q : (f : Int) / (t : Int) = (h0 : Int) := by rw [hh0]; exact (Int.natCast_ediv f t).symm
   have i3q : min (h0 : Int) 9999 = (h9 : Int) := by omega
   have h0b : h0 ≤ f := by rw [hh0]; exact Nat.div_le_self _ _
   have hTR1 := Lib.hid (fun v wx h => hTR.out x y r hy hxb hyb v wx h)
   rw [Nat.mul_comm] at m1q
   replace m1q := Lib.hid m1q
   replace m6q := Lib.hid m6q
   replace hN := Lib.hid hN
   replace hy := Lib.hid hy
   replace hq9 := Lib.hid hq9
   replace hr := Lib.hid hr
   replace hkX := Lib.hid hkX
   replace hXl := Lib.hid hXl
   have hcX := hX.cell k hkX.out
   have hfX := hX.frozen k
   replace hX := Lib.hid hX
   replace hyb := Lib.hid hyb
   clear hS m2q m3q m4q hf hl0 hh0 hh9 lead hTR low high fb hrb
   rw [e1]
   have hrA := Lib.hid (hr.out.below ((Below.refl wr.heap.size wr).alloc (Nat.le_refl _) (.cells #[.int .i64 (x : Int)] 3)))
   have hlr1 := Lib.hid (show 1 + (td r).length ≤ 1000000 by omega)
   clear hlr
   go_wp2_with (at_builtin; refine wpList_append_sl rfl _ _ rfl wr.heap.size _ 1 [.int .i64 (x : Int)] rfl (own_one wr x) _ (td r) rfl hrA.out hlr1.out (by simp) ?_)
   intro v3 w3 hown hgrow
   have hs3 := Lib.hid (show Sl w3 v3 (x :: td r) from Sl.owned hown (by rw [List.length_cons, Nat.add_comm]))
   have hB3 : Below wr.heap.size wr w3 := ((Below.refl _ _).alloc (Nat.le_refl _) _).grown hgrow (by simp) (fun j hj => by simp [Value.ownBlock] at hj; omega)
   have hD3 := hbl.trans (hB3.mono hbl.size)
   have hX3 := Lib.hid (hX.out.below hB3 hX.out.lt)
   have ho3 : v3.ownBlock ≠ some g := fun e => by
    have := (hown.lt g e).1
    have := hX.out.lt
    omega
   clear hown hgrow hB3 hX hbl hcX hfX hcell hrA hr hlr1
   go_wp2_with fail
   with_reducible refine Calls.mono (hTR1.out _ _ hs3.out) ?_
   rintro e w4 ⟨v4, rfl, hv4, ho4, rfl⟩
   rw [← ho4] at ho3
   replace ho3 := Lib.hid ho3
   clear ho4
   replace hv4 := Lib.hid hv4
   clear hs3
   go_wp2_with fail
   with_reducible refine Calls.mono (LD.out _ _ hv4.out) ?_
   rintro e w4 ⟨rfl, rfl⟩
   have t1 : ¬ (t : Int) + 1 = 0 := by omega
   have t2 : ¬ (t : Int) = 0 := by omega
   go_wp2_with fail
   go_quiet (fail)
   go_wp2_with fail
   have hX3' := Lib.hid (hX3.out.drewN nq)
   have hD3' := ibdrew hD3 nq
   have hv4' := Lib.hid (show Rn (w3.drewN nq) v4 y from hv4.out.below (ibdrew (Below.refl _ _) nq))
   generalize hW4 : w3.drewN nq = w4 at *
   clear hW4 hX3 hD3 hv4
   go_loopw [12, 13] (fun lv hv wx => ∃ (l h : Nat), lv = .int .i64 (l : Int) ∧ hv = .int .i64 (h : Int) ∧ l ≤ h ∧ h ≤ 9999 ∧ b * l ≤ y ∧ y < b * (h + 1) ∧ IB wx g X ∧ Rn wx v4 y ∧ Below w.heap.size w wx) (fun lv hv _ => (intOf hv - intOf lv).toNat)
   case atStart => exact ⟨l0, h9, rfl, rfl, m5q, m7q, m1q.out, m6q.out, hX3'.out, hv4'.out, hD3'⟩
   case round =>
    obtain ⟨l, h, rfl, rfl, hlh, hh9, hq1, hq2, hXb, hvb, hbl⟩ := hrel
    replace hq1 := Lib.hid hq1
    replace hq2 := Lib.hid hq2
    have hXlt := hXb.lt
    clear hX3' hD3' hv4' m1q m6q m5q m7q i1q i2q i3q h0b hfb t1 t2 LD hTR1
    rcases Nat.lt_or_ge l h with hlt | hge
    ·have k2 : (l : Int) < (h : Int) := by omega
     obtain ⟨mid, hmid⟩ : ∃ mid, mid = (l + h + 1) / 2 := ⟨_, rfl⟩
     have hmv : ((l : Int) + (h : Int) + 1) / 2 = (mid : Int) := by omega
     have hm1 : l < mid := by omega
     have hm2 : mid ≤ h := by omega
     have hm9 : mid ≤ 9999 := by omega
     have hmidy : mid = (mid - 1) + 1 := by omega
     have OF := Lib.hid (fun wx => rof_any mid (by omega) wx)
     have hmB := Lib.hid (fun vx wx h1 h2 => MB.out mid hm9 vx wx h1 h2)
     have hcM := Lib.hid (fun vx wx h1 h2 => CM.out mid hm9 y hyb.out vx v4 wx h1 h2)
     replace hmid := Lib.hid hmid
     replace hmidy := Lib.hid hmidy
     replace hXb := Lib.hid hXb
     replace hvb := Lib.hid hvb
     go_wp2_with fail
     with_reducible refine Calls.mono (OF.out _) ?_
     rintro e w5 ⟨v5, rfl, hv5, hb5⟩
     replace hv5 := Lib.hid hv5
     have B5 := hbl.trans (hb5.mono hbl.size)
     have hvb5 := Lib.hid (hvb.out.below hb5)
     have hX5 := Lib.hid (hXb.out.below hb5 hXb.out.lt)
     clear hb5
     go_wp2_with fail
     with_reducible refine Calls.mono (hmB.out _ _ (hb.out.below B5) hv5.out) ?_
     rintro e w6 ⟨v6, rfl, hv6, hb6⟩
     replace hv6 := Lib.hid hv6
     have B6 := B5.trans (hb6.mono B5.size)
     have hvb6 := Lib.hid (hvb5.out.below hb6)
     have hX6 := Lib.hid (hX5.out.below hb6 hX5.out.lt)
     clear hb6 B5
     by_cases hle : b * mid ≤ y
     ·have k3 : decide (cmpI (b * mid) y ≤ 0) = true := decide_eq_true (by unfold cmpI; split <;> (try split) <;> omega)
      replace hle := Lib.hid hle
      generalize cmpI (b * mid) y = zz at *
      go_wp2_with fail
      with_reducible refine Calls.mono (hcM.out _ _ hv6.out hvb6.out) ?_
      rintro e w7 ⟨rfl, hb7⟩
      have B7 := B6.trans (hb7.mono B6.size)
      have hvb7 := Lib.hid (hvb6.out.below hb7)
      have hX7 := Lib.hid (hX6.out.below hb7 hX6.out.lt)
      clear hb7 B6
      go_wp2_with fail
      go_roundw
      case rel => exact ⟨mid, h, rfl, rfl, hm2, hh9, hle.out, hq2.out, hX7.out, hvb7.out, B7⟩
      case measure => simp [intOf]; omega
     ·have k3 : decide (cmpI (b * mid) y ≤ 0) = false := decide_eq_false (by rw [cmpI_gt (by omega)]; omega)
      replace hle := Lib.hid hle
      generalize cmpI (b * mid) y = zz at *
      go_wp2_with fail
      with_reducible refine Calls.mono (hcM.out _ _ hv6.out hvb6.out) ?_
      rintro e w7 ⟨rfl, hb7⟩
      have B7 := B6.trans (hb7.mono B6.size)
      have hvb7 := Lib.hid (hvb6.out.below hb7)
      have hX7 := Lib.hid (hX6.out.below hb7 hX6.out.lt)
      clear hb7 B6
      go_wp2_with fail
      go_roundw
      case rel => exact ⟨l, mid - 1, rfl, by first | rfl | go_num, by omega, by omega, hq1.out, (by rw [← hmidy.out]; exact Nat.lt_of_not_le hle.out), hX7.out, hvb7.out, B7⟩
      case measure => simp [intOf]; omega
    ·obtain rfl : l = h := by omega
     have k2 : ¬ (l : Int) < (l : Int) := by omega
     have hyd : y / b = l := Nat.div_eq_of_lt_le (by rw [Nat.mul_comm]; exact hq1.out) (by rw [Nat.mul_comm]; exact hq2.out)
     rw [hyd] at hN hq9
     have OF := Lib.hid (fun wx => rof_any l (by omega) wx)
     have hmB := Lib.hid (fun vx wx h1 h2 => MB.out l hh9 vx wx h1 h2)
     have hsB := Lib.hid (fun vx wx h1 h2 => SB.out l y hyb.out hq1.out vx v4 wx h1 h2)
     have hcX := hXb.cell k hkX.out
     have hfX := hXb.frozen k
     have hb1 := hbl.setCell (p := ⟨g, k, none⟩) hgB (.int .i64 (l : Int))
     have hXs := Lib.hid (hXb.set k l)
     have hvs := Lib.hid (Sl.set_off (k := k) (u := .int .i64 (l : Int)) hvb ho3.out)
     replace hXb := Lib.hid hXb
     go_wp2_with fail
     with_reducible refine Calls.mono (OF.out _) ?_
     rintro e w5 ⟨v5, rfl, hv5, hb5⟩
     replace hv5 := Lib.hid hv5
     have B5 := hb1.trans (hb5.mono hb1.size)
     have hvb5 := Lib.hid (hvs.out.below hb5)
     have hX5 := Lib.hid (hXs.out.below hb5 hXs.out.lt)
     clear hb5 hXs hvs hcX hfX hb1
     go_wp2_with fail
     with_reducible refine Calls.mono (hmB.out _ _ (hb.out.below B5) hv5.out) ?_
     rintro e w6 ⟨v6, rfl, hv6, hb6⟩
     replace hv6 := Lib.hid hv6
     have B6 := B5.trans (hb6.mono B5.size)
     have hvb6 := Lib.hid (hvb5.out.below hb6)
     have hX6 := Lib.hid (hX5.out.below hb6 hX5.out.lt)
     clear hb6 B5
     go_wp2_with fail
     with_reducible refine Calls.mono (hsB.out _ _ hvb6.out hv6.out) ?_
     rintro e w7 ⟨v7, rfl, hv7, hb7⟩
     replace hv7 := Lib.hid hv7
     have B7 := B6.trans (hb7.mono B6.size)
     have hX7 := Lib.hid (hX6.out.below hb7 hX6.out.lt)
     clear hb7 B6
     go_wp2_with fail
     go_roundw
     case rel => exact ⟨k, X.set k l, y - b * l, by first | rfl | go_num, by omega, by rw [List.length_set]; exact hXl.out, hN.out, hX7.out, hv7.out, B7⟩
     case measure => simp [intOf]
set_option maxHeartbeats 4000000 in
/-- Div, for b above 0. -/
theorem rdiv_any (va vb : Value) (a b : Nat) (hb0 : 0 < b) (la : (td a).length ≤ 1000) (lb : (td b).length ≤ 1000) (w : World) (ha : Rn w va a) (hb : Rn w vb b) :
  Calls Tryz.prog 111 #[va, vb] w fun e w' => ∃ v1 v2, e = .returned (.tuple #[v1, v2]) ∧ Rn w' v1 (a / b) ∧ Rn w' v2 (a % b) ∧ Below w.heap.size w w' := by
 rcases Nat.lt_or_ge a b with h | h
 ·refine (rdiv_small va vb a b h la lb w ha hb).mono ?_
  rintro e w' ⟨rfl, hbl⟩
  refine ⟨_, _, rfl, ?_, ?_, hbl⟩
  ·rw [Nat.div_eq_of_lt h]
   show Sl w' _ (td 0)
   rw [td_zero]; exact Sl.nil w'
  ·rw [Nat.mod_eq_of_lt h]; exact ha.below hbl
 ·exact rdiv_big va vb a b h hb0 la w ha hb
end Go.Proofs.YtdmoadfnogdfnaaGreatDoor.Rx
namespace Go.Proofs.YtdmoadfnogdfnaaGreatDoor.Rx
open Go.RowKit
attribute [local irreducible] tv dg cmpI txt decB nb isq
open Classical in
noncomputable def dec (w : World) (v : Value) : Nat := if h : ∃ y, Rn w v y then h.choose else 0
theorem dec_eq {w : World} {v : Value} {y : Nat} (h : Rn w v y) : dec w v = y := by
 unfold dec
 rw [dif_pos ⟨y, h⟩]
 exact Rn.inj (Exists.choose_spec (⟨y, h⟩ : ∃ y, Rn w v y)) h
set_option maxHeartbeats 4000000 in
set_option maxRecDepth 100000 in
theorem rgcd_any (va vb : Value) (a b : Nat) (la : (td a).length ≤ 1000) (lb : (td b).length ≤ 1000) (w : World) (ha : Rn w va a) (hb : Rn w vb b) :
  Calls Tryz.prog 110 #[va, vb] w fun e w' => ∃ v, e = .returned v ∧ Rn w' v (Nat.gcd a b) ∧ Below w.heap.size w w' := by
 replace ha := Lib.hid ha
 replace hb := Lib.hid hb
 go_enter Tryz.func110, Tryz.ntmps110
 go_wp2_with fail
 go_loopw [0, 1] (fun av bv wr => ∃ (x y : Nat), Rn wr av x ∧ Rn wr bv y ∧ Nat.gcd x y = Nat.gcd a b ∧ (td x).length ≤ 1000 ∧ (td y).length ≤ 1000 ∧ Below w.heap.size w wr) (fun _ bv wr => dec wr bv)
 case atStart => exact ⟨a, b, ha.out, hb.out, rfl, la, lb, Below.refl _ _⟩
 case round =>
  obtain ⟨x, y, hx, hy, hg, lx, ly, hbl⟩ := hrel
  clear ha hb
  have hm := Lib.hid (dec_eq hy)
  obtain ⟨yo, yc, ey⟩ := hy.form
  obtain ⟨xo, xc, ex⟩ := hx.form
  subst ey ex
  obtain ⟨M, hM⟩ : ∃ M, M = (td y).length := ⟨_, rfl⟩
  rcases Nat.eq_zero_or_pos y with h0 | h0
  ·have hM0 : M = 0 := by rw [hM, h0, td_zero]; rfl
   have hgx : x = Nat.gcd a b := by rw [← hg, h0, Nat.gcd_zero_right]
   rw [← hM, hM0]
   rw [hgx] at hx
   rw [hgx]
   replace hx := Lib.hid hx
   clear hy hm hM hM0 hg hgx
   go_wp2_with fail
   go_ret
   exact ⟨_, rfl, hx.out, hbl⟩
  ·have D := Lib.hid (rdiv_any _ _ x y h0 lx ly wr hx hy)
   rw [← hM] at hy ly D hm ⊢
   have hMp : (0 : Int) < (M : Int) := by
    have : M ≠ 0 := fun h => by
     have := td_nil.1 (List.eq_nil_of_length_eq_zero (hM.symm.trans h))
     omega
    omega
   replace hy := Lib.hid hy
   replace hM := Lib.hid hM
   clear hx
   generalize (td x).length = N at *
   go_wp2_with fail
   with_reducible refine Calls.mono D.out ?_
   rintro e w1 ⟨v1, v2, rfl, h1, h2, hb1⟩
   replace h2 := Lib.hid h2
   clear h1
   have hyb := Lib.hid (hy.out.below hb1)
   have hD := hbl.trans (hb1.mono hbl.size)
   go_wp2_with fail
   go_roundw
   case rel => exact ⟨y, x % y, hyb.out, h2.out, (by rw [← hg, Nat.gcd_comm x y, Nat.gcd_rec y x, Nat.gcd_comm]), (by rw [← hM.out]; exact ly), Nat.le_trans (td_mono (Nat.le_of_lt (Nat.mod_lt x h0))) (by rw [← hM.out]; exact ly), hD⟩
   case measure => rw [dec_eq h2.out, hm.out]; exact Nat.mod_lt x h0
end Go.Proofs.YtdmoadfnogdfnaaGreatDoor.Rx
namespace Go.Proofs.YtdmoadfnogdfnaaGreatDoor
open Go.RowKit Go.Proofs.YtdmoadfnogdfnaaGreatDoor.Rx
attribute [local irreducible] lo hs sm s64 c64 d64 b64 mh ml pd pc qd qc val hiB str cmpI srD lz nb isq decB zl zh zs dval
theorem Sz.tn {q : Rat} {k : Nat} (h : Sz q k) : (td q.num.natAbs).length ≤ 5 * k := td_of_digs h.1
theorem Sz.tdn {q : Rat} {k : Nat} (h : Sz q k) : (td q.den).length ≤ 5 * k := td_of_digs h.2
theorem Sz.tf {q : Rat} {k : Nat} (h : Sz q k) : (td (fd q)).length ≤ 5 * k := Nat.le_trans (td_mono (Nat.sub_le _ _)) h.tdn
theorem fd_succ (q : Rat) : fd q + 1 = q.den := by have := q.den_nz; unfold fd; omega
theorem td_one : (td 1).length ≤ 1 := by rw [td_length]; omega
theorem one_r (w : World) : Calls Tryz.prog 152 #[.int .u64 1] w fun e w' => ∃ v, e = .returned v ∧ Rn w' v 1 ∧ Below w.heap.size w w' := rof_val 1 1 rfl (by omega) w
theorem rone (w : World) : Calls Tryz.prog 153 #[] w fun e w' => ∃ v, e = .returned v ∧ Rn w' v 1 ∧ Below w.heap.size w w' := rone_w one_r w
theorem rden (q : Rat) {k : Nat} (hq : Sz q k) (hk : k ≤ 1000) (v : Value) (w : World) (h : RF w v q) :
  Calls Tryz.prog 85 #[v] w fun e w' => ∃ v, e = .returned v ∧ Rn w' v q.den ∧ Below w.heap.size w w' :=
 rfden_w q q.den rone (fun v1 v2 w h1 h2 => by rw [← fd_succ q]; exact radd_any v1 v2 _ 1 (Nat.le_trans hq.tf (by omega)) (Nat.le_trans td_one (by omega)) w h1 h2) v w h
theorem rfrom (z : Int) (d : Nat) (h0 : d ≠ 0) (lz : (Rx.td z.natAbs).length ≤ 1000) (ld : (Rx.td d).length ≤ 1000) (v1 v2 : Value) (w : World) (h1 : RZ w v1 z) (h2 : Rn w v2 d) :
  Calls Tryz.prog 141 #[v1, v2] w fun e w' => ∃ v, e = .returned v ∧ RF w' v (mkRat z d) ∧ Below w.heap.size w w' := by
 obtain ⟨c1, c2⟩ := canc (z := z) h0
 have hg : 0 < Nat.gcd z.natAbs d := Nat.gcd_pos_of_pos_right _ (by omega)
 have hgl : (Rx.td (Nat.gcd z.natAbs d)).length ≤ 1000 := Nat.le_trans (td_mono (Nat.gcd_le_right _ (by omega))) ld
 have e1 : d / Nat.gcd z.natAbs d = (mkRat z d).den := c2.symm
 have e2 : (mkRat z d).num.natAbs = z.natAbs / Nat.gcd z.natAbs d := by rw [c1, Int.natAbs_tdiv]; rfl
 have e3 : (zs z && decide (z.natAbs / Nat.gcd z.natAbs d ≠ 0)) = decide ((mkRat z d).num < 0) := by
  rw [c1, tdiv_sgn]
  generalize z.natAbs / Nat.gcd z.natAbs d = x
  unfold zs
  by_cases h : z < 0 <;> by_cases h' : x = 0 <;> simp [h, h'] <;> omega
 exact rffrom_w z d (Nat.gcd z.natAbs d) (z.natAbs / Nat.gcd z.natAbs d) (z.natAbs % Nat.gcd z.natAbs d) (d / Nat.gcd z.natAbs d) (d % Nat.gcd z.natAbs d) (mkRat z d)
  (fun a b w ha hb => rgcd_any a b _ _ lz ld w ha hb) (fun a b w ha hb => rdiv_any a b _ _ hg lz hgl w ha hb) (fun a b w ha hb => rdiv_any a b _ _ hg ld hgl w ha hb)
  (fun a w ha => rz_from _ _ _ e3 e2.symm a w ha) rone
  (fun a b w ha hb => by
   have h3 := (mkRat z d).den_nz
   have := rsub_any a b _ 1 (by rw [e1]; exact Nat.le_trans (td_mono (by rw [c2]; exact Nat.div_le_self _ _)) (Nat.le_trans ld (by omega))) (by omega) w ha hb
   rw [e1] at this
   exact this) v1 v2 w h1 h2
end Go.Proofs.YtdmoadfnogdfnaaGreatDoor
namespace Go.Proofs.YtdmoadfnogdfnaaGreatDoor
open Go.RowKit
attribute [local irreducible] lo hs sm s64 c64 d64 b64 mh ml pd pc qd qc val hiB str cmpI srD lz nb isq decB zl zh zs
theorem szc (q : Rat) (h1 : q.num.natAbs < 18446744073709551616) (h2 : q.den < 18446744073709551616) : Sz q 1 :=
 ⟨digs_length_iff.2 (by rw [Nat.pow_one]; exact h1), digs_length_iff.2 (by rw [Nat.pow_one]; exact h2)⟩
theorem frV_q0 : fracV 0 = .agg #[.int .u64 0, .string ⟨#[]⟩, .bool false, .int .u64 0, .string ⟨#[]⟩] := frV_00
theorem lof_0 (i j c : Int) (HF : RT 138 #[.int .i64 i, .int .i64 j] (.tuple #[.agg #[.int .u64 0, .string ⟨#[]⟩, .bool false, .int .u64 0, .string ⟨#[]⟩], .int .i64 c])) (w : World) :
  Calls Tryz.prog 137 #[.int .i64 i, .int .i64 j] w fun xe w' => xe = .returned (.agg #[.int .u64 0, .string ⟨#[]⟩, .bool false, .int .u64 0, .string ⟨#[]⟩]) ∧ Below w.heap.size w w' := by
 simp only [← frV_q0] at HF ⊢
 exact lof_w i j c (0 : Rat).num (fe 0) HF w
theorem ltext_0 (s : ByteArray) (HT : RK Tab 143 #[.agg #[.int .u64 0, .string ⟨#[]⟩, .bool false, .int .u64 0, .string ⟨#[]⟩]] (.string s)) (w : World) (htab : Tab w) :
  Calls Tryz.prog 139 #[.agg #[.int .u64 0, .string ⟨#[]⟩, .bool false, .int .u64 0, .string ⟨#[]⟩], .string s] w fun xe w' => xe = .returned (.bool true) ∧ Below w.heap.size w w' := by
 simp only [← frV_q0] at HT ⊢
 exact ltext_true (0 : Rat).num (fe 0) s HT w htab
theorem txt1 (d : Nat) (h : d < 10) : txt d = ⟨#[dch d]⟩ := by unfold txt; rw [dec_small h]
theorem zt_pos (d : Nat) (h : d < 10) : ztxt (d : Int) = ⟨#[dch d]⟩ := by unfold ztxt; rw [if_neg (by omega), Int.natAbs_natCast, txt1 d h]
theorem zt_neg (d : Nat) (h : d < 10) (h0 : 0 < d) : ztxt (-(d : Int)) = ⟨#[45, dch d]⟩ := by
 unfold ztxt; rw [if_pos (by omega), Int.natAbs_neg, Int.natAbs_natCast, txt1 d h]; rfl
theorem qt_int {q : Rat} {z : Int} (h1 : q.den = 1) (h2 : q.num = z) : qtxt q = ztxt z := by unfold qtxt; rw [if_pos h1, h2]
theorem qt_part {q : Rat} {z : Int} {d : Nat} (h1 : q.den = d) (hd : d ≠ 1) (h2 : q.num = z) : qtxt q = ztxt z ++ ByteArray.mk #[47] ++ txt d := by unfold qtxt; rw [if_neg (by rw [h1]; exact hd), h1, h2]
theorem zt_n2 : ztxt (-2 : Int) = (ByteArray.mk #[45, 50]) := zt_neg 2 (by decide) (by decide)
theorem zt_n1 : ztxt (-1 : Int) = (ByteArray.mk #[45, 49]) := zt_neg 1 (by decide) (by decide)
theorem qt_n3_2 : qtxt (mkRat (-3) 2) = (ByteArray.mk #[45, 51, 47, 50]) := by
 rw [qt_part (d := 2) (z := -3) (by decide +kernel) (by decide) (by decide +kernel), txt1 2 (by decide), show ztxt (-3 : Int) = _ from zt_neg 3 (by decide) (by decide)]; rfl
theorem qt_1 : qtxt ((1 : Int) : Rat) = (ByteArray.mk #[49]) := (qt_int (by decide +kernel) (by decide +kernel)).trans (zt_pos 1 (by decide))
theorem qt_5_6 : qtxt (mkRat (5) 6) = (ByteArray.mk #[53, 47, 54]) := by
 rw [qt_part (d := 6) (z := 5) (by decide +kernel) (by decide) (by decide +kernel), txt1 6 (by decide), show ztxt (5 : Int) = _ from zt_pos 5 (by decide)]; rfl
theorem qt_0 : qtxt (0 : Rat) = (ByteArray.mk #[48]) := (qt_int (by decide +kernel) (by decide +kernel)).trans (zt_pos 0 (by decide))
theorem qt_n2 : qtxt ((-2 : Int) : Rat) = (ByteArray.mk #[45, 50]) := (qt_int (by decide +kernel) (by decide +kernel)).trans (zt_neg 2 (by decide) (by decide))
theorem qt_9_4 : qtxt (mkRat (9) 4) = (ByteArray.mk #[57, 47, 52]) := by
 rw [qt_part (d := 4) (z := 9) (by decide +kernel) (by decide) (by decide +kernel), txt1 4 (by decide), show ztxt (9 : Int) = _ from zt_pos 9 (by decide)]; rfl
theorem qt_n1_2 : qtxt (mkRat (-1) 2) = (ByteArray.mk #[45, 49, 47, 50]) := by
 rw [qt_part (d := 2) (z := -1) (by decide +kernel) (by decide) (by decide +kernel), txt1 2 (by decide), show ztxt (-1 : Int) = _ from zt_neg 1 (by decide) (by decide)]; rfl
set_option maxHeartbeats 4000000 in
set_option maxRecDepth 100000 in
theorem fmax_w (ao : Option Addr) (n c : Nat) (x : Int) (e : Nat) (K : World → Prop) (hK : Keeps K) (HA : RK K 156 #[.agg #[.func (.func 155) #[] #[]], .slice ao n c] (frV x e)) (w : World) (kK : K w) :
  Calls Tryz.prog 89 #[.slice ao n c] w fun xe w' => xe = .returned (frV x e) ∧ Below w.heap.size w w' := by
 have hL0 : GL w w [] := GL.start w
 replace hK := Lib.hid hK
 replace HA := Lib.hid HA
 replace hL0 := (hL0.new rfl [.int .u64 0, .string ⟨#[]⟩, .bool false, .int .u64 0, .string ⟨#[]⟩] 79)
 generalize hweq : (w.alloc (.cells #[.int .u64 0, .string ⟨#[]⟩, .bool false, .int .u64 0, .string ⟨#[]⟩] 79)) = x1 at hL0
 go_enter Tryz.func89, Tryz.ntmps89
 go_wp2_with fail
 with_reducible refine Calls.mono (HA.out _ (hK.out.at hL0.bl kK)) ?_
 rintro e x2 ⟨rfl, hb⟩
 replace hL0 := hL0.call hb
 clear hb hweq
 have hA := hL0.fc
 simp only [fcG, cellsF, neK, and_true, ne_eq, Nat.zero_add, Nat.reduceAdd] at hA
 have hP := hL0.put 0 (w.heap.size) _ rfl [.int .u64 ((zl x : Nat) : Int), .string (zh x), .bool (zs x), .int .u64 ((lo e : Nat) : Int), .string (hs e)] rfl
 simp only [setAll, List.set_cons_zero, List.set_cons_succ] at hP
 generalize hput1 : (((((x2.setCell ⟨w.heap.size, 0, none⟩ (.int .u64 ((zl x : Nat) : Int))).setCell ⟨w.heap.size, 1, none⟩ (.string (zh x))).setCell ⟨w.heap.size, 2, none⟩ (.bool (zs x))).setCell ⟨w.heap.size, 3, none⟩ (.int .u64 ((lo e : Nat) : Int))).setCell ⟨w.heap.size, 4, none⟩ (.string (hs e))) = x3 at hP
 have hB1 := hP.fc
 simp only [fcG, cellsF, neK, and_true, ne_eq, Nat.zero_add, Nat.reduceAdd] at hB1
 replace hL0 := hP
 go_wp2_with fail
 exact bodyPost_ret (v := frV x e) (by simp [results, Tryz.results89, go_sem, hB1]) rfl ⟨rfl, hL0.bl⟩
theorem slq_nil (w : World) : SlQ w (.slice none 0 0) [] := .inl ⟨none, 0, rfl, rfl⟩
theorem slq_parts {w : World} {ao : Option Addr} {n c : Nat} {qs : List Rat} (h : SlQ w (.slice ao n c) qs) (hl : qs.length ≤ 1000000) : (0 < n → ∃ g, ao = some ⟨g, 0, none⟩ ∧ FS w g qs) ∧ qs.length = n ∧ n ≤ 1000000 := by
 rcases h with ⟨a, c', h1, h2⟩ | ⟨g, c', h1, h2⟩
 ·simp only [Value.slice.injEq] at h1
  obtain ⟨-, rfl, -⟩ := h1
  subst h2
  exact ⟨fun h => absurd h (Nat.lt_irrefl 0), rfl, by omega⟩
 ·simp only [Value.slice.injEq] at h1
  obtain ⟨rfl, rfl, -⟩ := h1
  exact ⟨fun _ => ⟨g, rfl, h2⟩, rfl, hl⟩
theorem maxF (ao : Option Addr) (n c : Nat) (qs : List Rat) (k : Nat) (hk : k ≤ 100000000) (hl : qs.length ≤ 1000000) (hs : ∀ q ∈ qs, Sz q k) (w : World) (h : SlQ w (.slice ao n c) qs) :
  Calls Tryz.prog 89 #[.slice ao n c] w fun xe w' => xe = .returned (fracV (amg gtQ qs)) ∧ Below w.heap.size w w' :=
 fmax_w ao n c (amg gtQ qs).num (fe (amg gtQ qs)) _ (SlQ.keeps (.slice ao n c) qs) (fun w h => among_max ao n c qs (fun p q hp hq w => greaterF p q k (hs p hp) (hs q hq) hk w) w h (slq_parts h hl)) w h
theorem max_nil (w : World) : Calls Tryz.prog 89 #[.slice none 0 0] w fun xe w' => xe = .returned (.agg #[.int .u64 0, .string ⟨#[]⟩, .bool false, .int .u64 0, .string ⟨#[]⟩]) ∧ Below w.heap.size w w' := by
 have h := maxF none 0 0 [] 1 (by decide) (by decide) (fun q hq => by cases hq) w (slq_nil w)
 rw [show amg gtQ [] = (0 : Rat) from rfl, frV_q0] at h
 exact h
theorem slq_two {w : World} {g : Nat} {p q : Rat} (h : Hd w g [.int .u64 ((zl p.num : Nat) : Int), .string (zh p.num), .bool (zs p.num), .int .u64 ((lo (fe p) : Nat) : Int), .string (hs (fe p)), .int .u64 ((zl q.num : Nat) : Int), .string (zh q.num), .bool (zs q.num), .int .u64 ((lo (fe q) : Nat) : Int), .string (hs (fe q))]) : SlQ w (.slice (some ⟨g, 0, none⟩) 2 2) [p, q] :=
 .inr ⟨g, 2, rfl, ⟨fun i hi => by
  rcases (show i = 0 ∨ i = 1 by simp at hi; omega) with rfl | rfl
  ·exact ⟨h.cell 0 (by simp), h.cell 1 (by simp), h.cell 2 (by simp), h.cell 3 (by simp), h.cell 4 (by simp)⟩
  ·exact ⟨h.cell 5 (by simp), h.cell 6 (by simp), h.cell 7 (by simp), h.cell 8 (by simp), h.cell 9 (by simp)⟩, h.lt⟩⟩
theorem max_two (p q r : Rat) (hp : Sz p 1) (hq : Sz q 1) (hr : amg gtQ [p, q] = r) (g : Nat) (w : World) (h : Hd w g [.int .u64 ((zl p.num : Nat) : Int), .string (zh p.num), .bool (zs p.num), .int .u64 ((lo (fe p) : Nat) : Int), .string (hs (fe p)), .int .u64 ((zl q.num : Nat) : Int), .string (zh q.num), .bool (zs q.num), .int .u64 ((lo (fe q) : Nat) : Int), .string (hs (fe q))]) :
  Calls Tryz.prog 89 #[.slice (some ⟨g, 0, none⟩) 2 2] w fun xe w' => xe = .returned (fracV r) ∧ Below w.heap.size w w' := by
 rw [← hr]
 exact maxF _ 2 2 [p, q] 1 (by decide) (by simp) (fun x hx => by simp only [List.mem_cons, List.not_mem_nil, or_false] at hx; rcases hx with rfl | rfl <;> assumption) w (slq_two h)
theorem maxL_of {w : World} (h : w.ShapedOpen Tryz.prog) : MaxL w := Tryz.laysM145.s1_3 w h
theorem cutF (s : ByteArray) (hs : s.size < 4294967281) (p q : ByteArray) (f : Bool) (hp : Lib.cut s.data.toList [47] = (p.data.toList, q.data.toList, f)) (w : World) (hm : MaxL w) :
  Calls Tryz.prog 151 #[.string s, .string (ByteArray.mk #[47])] w fun xe w' => xe = .returned (.tuple #[.string p, .string q, .bool f]) ∧ Below w.heap.size w w' := by
 obtain ⟨m, hm⟩ := hm
 have h := Tryz.strings_Cut s (ByteArray.mk #[47]) m w hs hm
 rw [show (ByteArray.mk #[47]).data.toList = [47] from rfl, hp] at h
 exact h.mono fun xe w' ⟨h1, n, h2⟩ => ⟨h1, by rw [h2]; exact ⟨rfl, rfl, rfl, Nat.le_refl _, fun _ _ => rfl⟩⟩
end Go.Proofs.YtdmoadfnogdfnaaGreatDoor
namespace Go.Proofs.YtdmoadfnogdfnaaGreatDoor
open Go.RowKit
attribute [local irreducible] lo hs sm s64 c64 d64 b64 mh ml pd pc qd qc val hiB str cmpI srD lz nb isq decB zl zh zs
theorem ip_dig (d : Nat) (hd : d < 10) (w : World) : Calls Tryz.prog 121 #[.string ⟨#[dch d]⟩] w fun xe w' => xe = .returned (.tuple #[intV (d : Int), .int .i64 0]) ∧ Below w.heap.size w w' := by
 have h := parse_ztxt (d : Int) (Nat.le_trans (dI_lit (by omega)) (by omega)) w
 rw [zt_pos d hd] at h
 exact h
theorem ip_neg (d : Nat) (hd : d < 10) (h0 : 0 < d) (w : World) : Calls Tryz.prog 121 #[.string ⟨#[45, dch d]⟩] w fun xe w' => xe = .returned (.tuple #[intV (-(d : Int)), .int .i64 0]) ∧ Below w.heap.size w w' := by
 have h := parse_ztxt (-(d : Int)) (Nat.le_trans (dI_lit (by omega)) (by omega)) w
 rw [zt_neg d hd h0] at h
 exact h
theorem np_dig (d : Nat) (hd : d < 10) (w : World) : Calls Tryz.prog 112 #[.string ⟨#[dch d]⟩] w fun xe w' => xe = .returned (.tuple #[natV d, .int .i64 0]) ∧ Below w.heap.size w w' := by
 have h := parse_ok (Lib.decDigits d) (by rw [dec_small hd]; exact (by decide : 1 ≤ 4096)) (dec_isDec d) w
 rw [dval_dec, dec_small hd] at h
 exact h
theorem np_bad (l : List UInt8) (hl : l.length ≤ 4096) (hd : ¬ isDec l) (w : World) : Calls Tryz.prog 112 #[.string (st l)] w fun xe w' => xe = .returned (.tuple #[natV 0, .int .i64 4]) ∧ Below w.heap.size w w' := parse_form l hl hd w
theorem ip_nil (w : World) : Calls Tryz.prog 121 #[.string ⟨#[]⟩] w fun xe w' => xe = .returned (.tuple #[intV 0, .int .i64 4]) ∧ Below w.heap.size w w' := by
 have h := iparse_p_form [] (by decide) (fun h => by rcases h.2 with h | h; exact absurd h (by decide); exact h.1 rfl) (by decide) w
 exact h
theorem parse_w0 (w : World) (hm : MaxL w) : Calls Tryz.prog 78 #[.string (ByteArray.mk #[45, 54, 47, 52])] w fun xe w' => xe = .returned (.tuple #[fracV (mkRat (-3) 2), .int .i64 0]) ∧ Below w.heap.size w w' := by
 have HC := cutF (ByteArray.mk #[45, 54, 47, 52]) (by decide) (ByteArray.mk #[45, 54]) (ByteArray.mk #[52]) true (by kernel_rfl)
 have HF := fun w => fromF (-6) 4 (by decide) (Nat.le_trans (dI_lit (by decide)) (by omega)) (Nat.le_trans (dI_lit (z := 4) (by decide)) (by omega)) w
 rw [show mkRat (-6) 4 = (mkRat (-3) 2) from by decide +kernel] at HF
 exact fparse_part _ _ _ (-6) _ 4 _ 0 MaxL MaxL.keeps HC (ip_neg 6 (by decide) (by decide)) (np_dig 4 (by decide)) HF w hm
theorem parse_w1 (w : World) (hm : MaxL w) : Calls Tryz.prog 78 #[.string (ByteArray.mk #[49, 47, 48])] w fun xe w' => xe = .returned (.tuple #[.agg #[.int .u64 0, .string ⟨#[]⟩, .bool false, .int .u64 0, .string ⟨#[]⟩], .int .i64 5]) ∧ Below w.heap.size w w' := by
 have HC := cutF (ByteArray.mk #[49, 47, 48]) (by decide) (ByteArray.mk #[49]) (ByteArray.mk #[48]) true (by kernel_rfl)
 rw [← frV_q0]
 exact fparse_part _ _ _ 1 _ 0 _ 5 MaxL MaxL.keeps HC (ip_dig 1 (by decide)) (np_dig 0 (by decide)) (fun w => from0F 1 w) w hm
theorem parse_w2 (w : World) (hm : MaxL w) : Calls Tryz.prog 78 #[.string (ByteArray.mk #[49, 47, 45, 50])] w fun xe w' => xe = .returned (.tuple #[.agg #[.int .u64 0, .string ⟨#[]⟩, .bool false, .int .u64 0, .string ⟨#[]⟩], .int .i64 4]) ∧ Below w.heap.size w w' := by
 have HC := cutF (ByteArray.mk #[49, 47, 45, 50]) (by decide) (ByteArray.mk #[49]) (ByteArray.mk #[45, 50]) true (by kernel_rfl)
 exact fparse_nat _ _ _ 1 0 4 MaxL MaxL.keeps HC (ip_dig 1 (by decide)) (fun w => np_bad [45, 50] (by decide) (by exact isDec_no (by decide)) w) (by decide) w hm
theorem parse_w3 (w : World) (hm : MaxL w) : Calls Tryz.prog 78 #[.string (ByteArray.mk #[49, 47, 50, 47, 51])] w fun xe w' => xe = .returned (.tuple #[.agg #[.int .u64 0, .string ⟨#[]⟩, .bool false, .int .u64 0, .string ⟨#[]⟩], .int .i64 4]) ∧ Below w.heap.size w w' := by
 have HC := cutF (ByteArray.mk #[49, 47, 50, 47, 51]) (by decide) (ByteArray.mk #[49]) (ByteArray.mk #[50, 47, 51]) true (by kernel_rfl)
 exact fparse_nat _ _ _ 1 0 4 MaxL MaxL.keeps HC (ip_dig 1 (by decide)) (fun w => np_bad [50, 47, 51] (by decide) (by exact isDec_no (by decide)) w) (by decide) w hm
theorem parse_w4 (w : World) (hm : MaxL w) : Calls Tryz.prog 78 #[.string (ByteArray.mk #[48, 47, 55])] w fun xe w' => xe = .returned (.tuple #[.agg #[.int .u64 0, .string ⟨#[]⟩, .bool false, .int .u64 0, .string ⟨#[]⟩], .int .i64 0]) ∧ Below w.heap.size w w' := by
 have HC := cutF (ByteArray.mk #[48, 47, 55]) (by decide) (ByteArray.mk #[48]) (ByteArray.mk #[55]) true (by kernel_rfl)
 rw [← frV_q0]
 have HF := fun w => fromF (0) 7 (by decide) (Nat.le_trans (dI_lit (by decide)) (by omega)) (Nat.le_trans (dI_lit (z := 7) (by decide)) (by omega)) w
 rw [show mkRat (0) 7 = (0 : Rat) from by decide +kernel] at HF
 exact fparse_part _ _ _ (0) _ 7 _ 0 MaxL MaxL.keeps HC (ip_dig 0 (by decide)) (np_dig 7 (by decide)) HF w hm
theorem parse_w5 (w : World) (hm : MaxL w) : Calls Tryz.prog 78 #[.string ⟨#[]⟩] w fun xe w' => xe = .returned (.tuple #[.agg #[.int .u64 0, .string ⟨#[]⟩, .bool false, .int .u64 0, .string ⟨#[]⟩], .int .i64 4]) ∧ Below w.heap.size w w' := by
 have HC := cutF (ByteArray.mk #[]) (by decide) (ByteArray.mk #[]) (ByteArray.mk #[]) false (by kernel_rfl)
 exact fparse_int _ _ _ 0 false 4 MaxL MaxL.keeps HC ip_nil (by decide) w hm
theorem parse_w6 (w : World) (hm : MaxL w) : Calls Tryz.prog 78 #[.string (ByteArray.mk #[49, 47])] w fun xe w' => xe = .returned (.tuple #[.agg #[.int .u64 0, .string ⟨#[]⟩, .bool false, .int .u64 0, .string ⟨#[]⟩], .int .i64 4]) ∧ Below w.heap.size w w' := by
 have HC := cutF (ByteArray.mk #[49, 47]) (by decide) (ByteArray.mk #[49]) (ByteArray.mk #[]) true (by kernel_rfl)
 exact fparse_nat _ _ _ 1 0 4 MaxL MaxL.keeps HC (ip_dig 1 (by decide)) (fun w => np_bad [] (by decide) (by exact isDec_no (by decide)) w) (by decide) w hm
set_option maxHeartbeats 16000000 in
set_option maxRecDepth 100000 in
theorem fworks_w  (r1 : Rat) (r2 : Rat) (r3 : Rat) (r4 : Rat) (r5 : Rat) (r6 : Rat) (r7 : Rat) (r8 : Rat) (r9 : Rat) (r10 : Rat) (z1 : Int) (z2 : Int) (r11 : Rat) (r12 : Rat) (KM : World → Prop) (hKM : Keeps KM) (P0 : RK KM 78 #[.string (ByteArray.mk #[45, 54, 47, 52])] (.tuple #[fracV r1, .int .i64 0])) (P1 : RK KM 78 #[.string (ByteArray.mk #[49, 47, 48])] (.tuple #[.agg #[.int .u64 0, .string ⟨#[]⟩, .bool false, .int .u64 0, .string ⟨#[]⟩], .int .i64 5])) (P2 : RK KM 78 #[.string (ByteArray.mk #[49, 47, 45, 50])] (.tuple #[.agg #[.int .u64 0, .string ⟨#[]⟩, .bool false, .int .u64 0, .string ⟨#[]⟩], .int .i64 4])) (P3 : RK KM 78 #[.string (ByteArray.mk #[49, 47, 50, 47, 51])] (.tuple #[.agg #[.int .u64 0, .string ⟨#[]⟩, .bool false, .int .u64 0, .string ⟨#[]⟩], .int .i64 4])) (P4 : RK KM 78 #[.string (ByteArray.mk #[48, 47, 55])] (.tuple #[.agg #[.int .u64 0, .string ⟨#[]⟩, .bool false, .int .u64 0, .string ⟨#[]⟩], .int .i64 0])) (P5 : RK KM 78 #[.string ⟨#[]⟩] (.tuple #[.agg #[.int .u64 0, .string ⟨#[]⟩, .bool false, .int .u64 0, .string ⟨#[]⟩], .int .i64 4])) (P6 : RK KM 78 #[.string (ByteArray.mk #[49, 47])] (.tuple #[.agg #[.int .u64 0, .string ⟨#[]⟩, .bool false, .int .u64 0, .string ⟨#[]⟩], .int .i64 4])) (H1 : RT 137 #[.int .i64 6, .int .i64 (-4)] (fracV r1)) (H2 : RT 137 #[.int .i64 0, .int .i64 (-5)] (.agg #[.int .u64 0, .string ⟨#[]⟩, .bool false, .int .u64 0, .string ⟨#[]⟩])) (H3 : RT 138 #[.int .i64 1, .int .i64 0] (.tuple #[.agg #[.int .u64 0, .string ⟨#[]⟩, .bool false, .int .u64 0, .string ⟨#[]⟩], .int .i64 5])) (H4 : RT 137 #[.int .i64 (-9223372036854775808), .int .i64 (-9223372036854775808)] (fracV r2)) (H5 : RT 137 #[.int .i64 1, .int .i64 2] (fracV r3)) (H6 : RT 137 #[.int .i64 (-1), .int .i64 4] (fracV r4)) (H7 : RT 58 #[fracV r3, fracV r4] (.tuple #[fracV r5, .int .i64 0])) (H8 : RT 87 #[.int .i64 1] (fracV r2)) (H9 : RT 58 #[fracV r2, .agg #[.int .u64 0, .string ⟨#[]⟩, .bool false, .int .u64 0, .string ⟨#[]⟩]] (.tuple #[.agg #[.int .u64 0, .string ⟨#[]⟩, .bool false, .int .u64 0, .string ⟨#[]⟩], .int .i64 5])) (H10 : RK Tab 139 #[fracV r1, .string (ByteArray.mk #[45, 51, 47, 50])] (.bool true)) (H11 : RK Tab 139 #[fracV r2, .string (ByteArray.mk #[49])] (.bool true)) (H12 : RT 137 #[.int .i64 1, .int .i64 3] (fracV r6)) (H13 : RT 61 #[fracV r3, fracV r6] (fracV r7)) (H14 : RK Tab 139 #[fracV r7, .string (ByteArray.mk #[53, 47, 54])] (.bool true)) (H15 : RT 63 #[fracV r3, fracV r3] (.agg #[.int .u64 0, .string ⟨#[]⟩, .bool false, .int .u64 0, .string ⟨#[]⟩])) (H16 : RK Tab 139 #[.agg #[.int .u64 0, .string ⟨#[]⟩, .bool false, .int .u64 0, .string ⟨#[]⟩], .string (ByteArray.mk #[48])] (.bool true)) (H17 : RT 137 #[.int .i64 2, .int .i64 3] (fracV r8)) (H18 : RT 137 #[.int .i64 3, .int .i64 2] (fracV r9)) (H19 : RT 65 #[fracV r8, fracV r9] (fracV r2)) (H20 : RK Tab 139 #[fracV r5, .string (ByteArray.mk #[45, 50])] (.bool true)) (H21 : RT 86 #[fracV r8, .int .i64 (-2)] (.tuple #[fracV r10, .int .i64 0])) (H22 : RT 86 #[.agg #[.int .u64 0, .string ⟨#[]⟩, .bool false, .int .u64 0, .string ⟨#[]⟩], .int .i64 (-1)] (.tuple #[.agg #[.int .u64 0, .string ⟨#[]⟩, .bool false, .int .u64 0, .string ⟨#[]⟩], .int .i64 5])) (H23 : RT 86 #[.agg #[.int .u64 0, .string ⟨#[]⟩, .bool false, .int .u64 0, .string ⟨#[]⟩], .int .i64 0] (.tuple #[fracV r2, .int .i64 0])) (H24 : RT 75 #[fracV r1] (intV z1)) (H25 : RK Tab 74 #[intV z1] (.string (ByteArray.mk #[45, 50]))) (H26 : RT 82 #[fracV r1] (intV z2)) (H27 : RK Tab 74 #[intV z2] (.string (ByteArray.mk #[45, 49]))) (H28 : RK Tab 139 #[fracV r10, .string (ByteArray.mk #[57, 47, 52])] (.bool true)) (H29 : RT 89 #[.slice none 0 0] (.agg #[.int .u64 0, .string ⟨#[]⟩, .bool false, .int .u64 0, .string ⟨#[]⟩])) (H30 : RT 87 #[.int .i64 (-1)] (fracV r11)) (H31 : RT 137 #[.int .i64 (-1), .int .i64 2] (fracV r12)) (H32 : ∀ g w, Hd w g [.int .u64 ((zl r11.num : Nat) : Int), .string (zh r11.num), .bool (zs r11.num), .int .u64 ((lo (fe r11) : Nat) : Int), .string (hs (fe r11)), .int .u64 ((zl r12.num : Nat) : Int), .string (zh r12.num), .bool (zs r12.num), .int .u64 ((lo (fe r12) : Nat) : Int), .string (hs (fe r12))] → Calls Tryz.prog 89 #[.slice (some ⟨g, 0, none⟩) 2 2] w fun xe w' => xe = .returned (fracV r12) ∧ Below w.heap.size w w') (H33 : RK Tab 139 #[fracV r12, .string (ByteArray.mk #[45, 49, 47, 50])] (.bool true)) (w : World) (htab : Tab w) (kKM : KM w) :
  Calls Tryz.prog 54 #[] w fun xe w' => xe = .returned (.bool true) ∧ Below w.heap.size w w' := by
 have hL0 : GL w w [] := GL.start w
 replace hKM := Lib.hid hKM
 replace P0 := Lib.hid P0
 replace P1 := Lib.hid P1
 replace P2 := Lib.hid P2
 replace P3 := Lib.hid P3
 replace P4 := Lib.hid P4
 replace P5 := Lib.hid P5
 replace P6 := Lib.hid P6
 replace H1 := Lib.hid H1
 replace H2 := Lib.hid H2
 replace H3 := Lib.hid H3
 replace H4 := Lib.hid H4
 replace H5 := Lib.hid H5
 replace H6 := Lib.hid H6
 replace H7 := Lib.hid H7
 replace H8 := Lib.hid H8
 replace H9 := Lib.hid H9
 replace H10 := Lib.hid H10
 replace H11 := Lib.hid H11
 replace H12 := Lib.hid H12
 replace H13 := Lib.hid H13
 replace H14 := Lib.hid H14
 replace H15 := Lib.hid H15
 replace H16 := Lib.hid H16
 replace H17 := Lib.hid H17
 replace H18 := Lib.hid H18
 replace H19 := Lib.hid H19
 replace H20 := Lib.hid H20
 replace H21 := Lib.hid H21
 replace H22 := Lib.hid H22
 replace H23 := Lib.hid H23
 replace H24 := Lib.hid H24
 replace H25 := Lib.hid H25
 replace H26 := Lib.hid H26
 replace H27 := Lib.hid H27
 replace H28 := Lib.hid H28
 replace H29 := Lib.hid H29
 replace H30 := Lib.hid H30
 replace H31 := Lib.hid H31
 replace H32 := Lib.hid H32
 replace H33 := Lib.hid H33
 go_enter Tryz.func54, Tryz.ntmps54
 go_wp2_with fail
 with_reducible refine Calls.mono (H1.out _) ?_
 rintro e x1 ⟨rfl, hb⟩
 replace hL0 := hL0.call hb
 clear hb
 go_wp2_with fail
 with_reducible refine Calls.mono (H2.out _) ?_
 rintro e x2 ⟨rfl, hb⟩
 replace hL0 := hL0.call hb
 clear hb
 replace hL0 := ((hL0.new rfl [.int .u64 ((zl r1.num : Nat) : Int), .string (zh r1.num), .bool (zs r1.num), .int .u64 ((lo (fe r1) : Nat) : Int), .string (hs (fe r1))] 79).new (K := x2.heap.size + 1) (szA _ _) [.int .u64 0, .string ⟨#[]⟩, .bool false, .int .u64 0, .string ⟨#[]⟩] 79)
 generalize hweq : ((x2.alloc (.cells #[.int .u64 ((zl r1.num : Nat) : Int), .string (zh r1.num), .bool (zs r1.num), .int .u64 ((lo (fe r1) : Nat) : Int), .string (hs (fe r1))] 79)).alloc (.cells #[.int .u64 0, .string ⟨#[]⟩, .bool false, .int .u64 0, .string ⟨#[]⟩] 79)) = x3 at hL0
 have hA := hL0.fc
 simp only [fcG, cellsF, neK, and_true, ne_eq, Nat.zero_add, Nat.reduceAdd] at hA
 have hP := hL0.put 0 (x2.heap.size + 1) _ rfl [.int .u64 0, .string ⟨#[]⟩, .bool false, .int .u64 0, .string ⟨#[]⟩] rfl
 simp only [setAll, List.set_cons_zero, List.set_cons_succ] at hP
 generalize hput1 : (((((x3.setCell ⟨x2.heap.size + 1, 0, none⟩ (.int .u64 0)).setCell ⟨x2.heap.size + 1, 1, none⟩ (.string ⟨#[]⟩)).setCell ⟨x2.heap.size + 1, 2, none⟩ (.bool false)).setCell ⟨x2.heap.size + 1, 3, none⟩ (.int .u64 0)).setCell ⟨x2.heap.size + 1, 4, none⟩ (.string ⟨#[]⟩)) = x4 at hP
 have hB1 := hP.fc
 simp only [fcG, cellsF, neK, and_true, ne_eq, Nat.zero_add, Nat.reduceAdd] at hB1
 replace hL0 := hP
 go_wp2_with fail
 clear hA
 with_reducible refine Calls.mono (H3.out _) ?_
 rintro e x5 ⟨rfl, hb⟩
 replace hL0 := hL0.call hb
 clear hb hweq hput1 hB1
 replace hL0 := (hL0.new rfl [.int .u64 0, .string ⟨#[]⟩, .bool false, .int .u64 0, .string ⟨#[]⟩] 79)
 generalize hweq : (x5.alloc (.cells #[.int .u64 0, .string ⟨#[]⟩, .bool false, .int .u64 0, .string ⟨#[]⟩] 79)) = x6 at hL0
 have hA := hL0.fc
 simp only [fcG, cellsF, neK, and_true, ne_eq, Nat.zero_add, Nat.reduceAdd] at hA
 have hP := hL0.put 0 (x5.heap.size) _ rfl [.int .u64 0, .string ⟨#[]⟩, .bool false, .int .u64 0, .string ⟨#[]⟩] rfl
 simp only [setAll, List.set_cons_zero, List.set_cons_succ] at hP
 generalize hput2 : (((((x6.setCell ⟨x5.heap.size, 0, none⟩ (.int .u64 0)).setCell ⟨x5.heap.size, 1, none⟩ (.string ⟨#[]⟩)).setCell ⟨x5.heap.size, 2, none⟩ (.bool false)).setCell ⟨x5.heap.size, 3, none⟩ (.int .u64 0)).setCell ⟨x5.heap.size, 4, none⟩ (.string ⟨#[]⟩)) = x7 at hP
 have hB2 := hP.fc
 simp only [fcG, cellsF, neK, and_true, ne_eq, Nat.zero_add, Nat.reduceAdd] at hB2
 replace hL0 := hP
 go_wp2_with fail
 clear hA
 with_reducible refine Calls.mono (H4.out _) ?_
 rintro e x8 ⟨rfl, hb⟩
 replace hL0 := hL0.call hb
 clear hb hweq hput2 hB2
 replace hL0 := (hL0.new rfl [.int .u64 ((zl r2.num : Nat) : Int), .string (zh r2.num), .bool (zs r2.num), .int .u64 ((lo (fe r2) : Nat) : Int), .string (hs (fe r2))] 79)
 generalize hweq : (x8.alloc (.cells #[.int .u64 ((zl r2.num : Nat) : Int), .string (zh r2.num), .bool (zs r2.num), .int .u64 ((lo (fe r2) : Nat) : Int), .string (hs (fe r2))] 79)) = x9 at hL0
 go_wp2_with fail
 with_reducible refine Calls.mono (H5.out _) ?_
 rintro e x10 ⟨rfl, hb⟩
 replace hL0 := hL0.call hb
 clear hb hweq
 go_wp2_with fail
 with_reducible refine Calls.mono (H6.out _) ?_
 rintro e x11 ⟨rfl, hb⟩
 replace hL0 := hL0.call hb
 clear hb
 go_wp2_with fail
 with_reducible refine Calls.mono (H7.out _) ?_
 rintro e x12 ⟨rfl, hb⟩
 replace hL0 := hL0.call hb
 clear hb
 replace hL0 := (hL0.new rfl [.int .u64 ((zl r5.num : Nat) : Int), .string (zh r5.num), .bool (zs r5.num), .int .u64 ((lo (fe r5) : Nat) : Int), .string (hs (fe r5))] 79)
 generalize hweq : (x12.alloc (.cells #[.int .u64 ((zl r5.num : Nat) : Int), .string (zh r5.num), .bool (zs r5.num), .int .u64 ((lo (fe r5) : Nat) : Int), .string (hs (fe r5))] 79)) = x13 at hL0
 go_upto_region 5 with fail
 clear hweq
 refine region_gh (by kernel_rfl) (by kernel_rfl) ?_
 refine lex_seg (gl := []) 6 (by kernel_rfl) ?_
 intro α iα F hF1 hF2
 have hq := GL.seg hF1 hL0
 simp only [fcC, cellsC, and_true, Nat.zero_add, Nat.reduceAdd] at hq
 simp only [List.take_succ_cons, List.take_zero, List.drop_succ_cons, List.drop_zero, List.take_nil, List.drop_nil]
 repeat (go_big_quiet_step (first | fail | (go_at_call 87; with_reducible exact seg_call hF2 H8.out _) | (go_at_call 58; with_reducible exact seg_call hF2 H9.out _)))
 refine wpQuiet_nil ?_
 clear hq hF1 hF2 iα F α
 refine lex_new [.int .u64 0, .string ⟨#[]⟩, .bool false, .int .u64 0, .string ⟨#[]⟩] 8 79 79 rfl rfl (of_decide_eq_true (by kernel_rfl)) (by kernel_rfl) rfl new_frac ?_
 simp only [Act.put, List.setIfInBounds_toArray, List.set_cons_succ, List.set_cons_zero]
 refine lex_put [.int .u64 0, .string ⟨#[]⟩, .bool false, .int .u64 0, .string ⟨#[]⟩] [.int .u64 0, .string ⟨#[]⟩, .bool false, .int .u64 0, .string ⟨#[]⟩] 8 79 (.tmp 38) rfl (by kernel_rfl) (by simp [toG, upd]) rfl (fun w k h => put_frac _ _ _ _ _ _ _ _ _ _ w k h) ?_
 simp only [Act.put]
 refine lex_seg (gl := [(8, [.int .u64 0, .string ⟨#[]⟩, .bool false, .int .u64 0, .string ⟨#[]⟩], true), (8, [.int .u64 0, .string ⟨#[]⟩, .bool false, .int .u64 0, .string ⟨#[]⟩], false)]) 1 (by kernel_rfl) ?_
 intro α iα F hF1 hF2
 have hq := GL.seg hF1 hL0
 simp only [fcC, cellsC, and_true, Nat.zero_add, Nat.reduceAdd] at hq
 simp only [List.take_succ_cons, List.take_zero, List.drop_succ_cons, List.drop_zero, List.take_nil, List.drop_nil]
 repeat (go_big_quiet_step (first | fail | (go_at_call 87; with_reducible exact seg_call hF2 H8.out _) | (go_at_call 58; with_reducible exact seg_call hF2 H9.out _)))
 refine wpQuiet_nil ?_
 clear hq hF1 hF2 iα F α
 refine lexG_nil ?_
 intro κ x14 hS
 replace hL0 := hL0.ghs hS [(8, [.int .u64 0, .string ⟨#[]⟩, .bool false, .int .u64 0, .string ⟨#[]⟩])] (by simp) (by intro p hp; simp only [List.mem_cons, List.not_mem_nil, or_false] at hp; rcases hp with rfl <;> exact ⟨_, by simp only [toG, upd]; rfl⟩)
 simp only [List.map_cons, List.map_nil, List.cons_append, List.nil_append] at hL0
 simp only [over_toG, over_nil, Act.put, List.setIfInBounds_toArray, List.set_cons_succ, List.set_cons_zero]
 clear hS
 generalize κ 8 = k14_8 at *
 have hN0 := cells_of _ 0 [] rfl (hL0.get _ _ (List.mem_cons_of_mem _ (List.mem_cons_of_mem _ (List.mem_cons_of_mem _ (List.mem_cons_of_mem _ (List.mem_cons_of_mem _ List.mem_cons_self))))))
 simp only [cellsF, and_true, Nat.zero_add, Nat.reduceAdd] at hN0
 go_wp2_with fail
 clear hN0
 with_reducible refine Calls.mono (H10.out _ (htab.below hL0.bl)) ?_
 rintro e x15 ⟨rfl, hb⟩
 replace hL0 := hL0.call hb
 clear hb
 have hN0 := cells_of _ 0 [] rfl (hL0.get _ _ (List.mem_cons_of_mem _ (List.mem_cons_of_mem _ List.mem_cons_self)))
 simp only [cellsF, and_true, Nat.zero_add, Nat.reduceAdd] at hN0
 have hN1 := cells_of _ 0 [] rfl (hL0.get _ _ (List.mem_cons_of_mem _ (List.mem_cons_of_mem _ (List.mem_cons_of_mem _ (List.mem_cons_of_mem _ List.mem_cons_self)))))
 simp only [cellsF, and_true, Nat.zero_add, Nat.reduceAdd] at hN1
 go_wp2_with fail
 clear hN0 hN1
 with_reducible refine Calls.mono (H11.out _ (htab.below hL0.bl)) ?_
 rintro e x16 ⟨rfl, hb⟩
 replace hL0 := hL0.call hb
 clear hb
 go_wp2_with fail
 with_reducible refine Calls.mono (H5.out _) ?_
 rintro e x17 ⟨rfl, hb⟩
 replace hL0 := hL0.call hb
 clear hb
 go_wp2_with fail
 with_reducible refine Calls.mono (H12.out _) ?_
 rintro e x18 ⟨rfl, hb⟩
 replace hL0 := hL0.call hb
 clear hb
 go_wp2_with fail
 with_reducible refine Calls.mono (H13.out _) ?_
 rintro e x19 ⟨rfl, hb⟩
 replace hL0 := hL0.call hb
 clear hb
 go_wp2_with fail
 with_reducible refine Calls.mono (H14.out _ (htab.below hL0.bl)) ?_
 rintro e x20 ⟨rfl, hb⟩
 replace hL0 := hL0.call hb
 clear hb
 go_wp2_with fail
 with_reducible refine Calls.mono (H5.out _) ?_
 rintro e x21 ⟨rfl, hb⟩
 replace hL0 := hL0.call hb
 clear hb
 go_wp2_with fail
 with_reducible refine Calls.mono (H5.out _) ?_
 rintro e x22 ⟨rfl, hb⟩
 replace hL0 := hL0.call hb
 clear hb
 go_wp2_with fail
 with_reducible refine Calls.mono (H15.out _) ?_
 rintro e x23 ⟨rfl, hb⟩
 replace hL0 := hL0.call hb
 clear hb
 go_wp2_with fail
 with_reducible refine Calls.mono (H16.out _ (htab.below hL0.bl)) ?_
 rintro e x24 ⟨rfl, hb⟩
 replace hL0 := hL0.call hb
 clear hb
 go_wp2_with fail
 with_reducible refine Calls.mono (H17.out _) ?_
 rintro e x25 ⟨rfl, hb⟩
 replace hL0 := hL0.call hb
 clear hb
 go_wp2_with fail
 with_reducible refine Calls.mono (H18.out _) ?_
 rintro e x26 ⟨rfl, hb⟩
 replace hL0 := hL0.call hb
 clear hb
 go_wp2_with fail
 with_reducible refine Calls.mono (H19.out _) ?_
 rintro e x27 ⟨rfl, hb⟩
 replace hL0 := hL0.call hb
 clear hb
 go_wp2_with fail
 with_reducible refine Calls.mono (H11.out _ (htab.below hL0.bl)) ?_
 rintro e x28 ⟨rfl, hb⟩
 replace hL0 := hL0.call hb
 clear hb
 have hN0 := cells_of _ 0 [] rfl (hL0.get _ _ (List.mem_cons_of_mem _ List.mem_cons_self))
 simp only [cellsF, and_true, Nat.zero_add, Nat.reduceAdd] at hN0
 go_wp2_with fail
 clear hN0
 with_reducible refine Calls.mono (H20.out _ (htab.below hL0.bl)) ?_
 rintro e x29 ⟨rfl, hb⟩
 replace hL0 := hL0.call hb
 clear hb
 go_wp2_with fail
 with_reducible refine Calls.mono (H17.out _) ?_
 rintro e x30 ⟨rfl, hb⟩
 replace hL0 := hL0.call hb
 clear hb
 go_wp2_with fail
 with_reducible refine Calls.mono (H21.out _) ?_
 rintro e x31 ⟨rfl, hb⟩
 replace hL0 := hL0.call hb
 clear hb
 replace hL0 := (hL0.new rfl [.int .u64 ((zl r10.num : Nat) : Int), .string (zh r10.num), .bool (zs r10.num), .int .u64 ((lo (fe r10) : Nat) : Int), .string (hs (fe r10))] 79)
 generalize hweq : (x31.alloc (.cells #[.int .u64 ((zl r10.num : Nat) : Int), .string (zh r10.num), .bool (zs r10.num), .int .u64 ((lo (fe r10) : Nat) : Int), .string (hs (fe r10))] 79)) = x32 at hL0
 have hN0 := cells_of _ 0 [] rfl (hL0.get _ _ (List.mem_cons_of_mem _ (List.mem_cons_of_mem _ (List.mem_cons_of_mem _ (List.mem_cons_of_mem _ (List.mem_cons_of_mem _ List.mem_cons_self))))))
 simp only [cellsF, and_true, Nat.zero_add, Nat.reduceAdd] at hN0
 go_wp2_with fail
 clear hN0
 with_reducible refine Calls.mono (H22.out _) ?_
 rintro e x33 ⟨rfl, hb⟩
 replace hL0 := hL0.call hb
 clear hb hweq
 replace hL0 := (hL0.new rfl [.int .u64 0, .string ⟨#[]⟩, .bool false, .int .u64 0, .string ⟨#[]⟩] 79)
 generalize hweq : (x33.alloc (.cells #[.int .u64 0, .string ⟨#[]⟩, .bool false, .int .u64 0, .string ⟨#[]⟩] 79)) = x34 at hL0
 have hA := hL0.fc
 simp only [fcG, cellsF, neK, and_true, ne_eq, Nat.zero_add, Nat.reduceAdd] at hA
 have hP := hL0.put 0 (x33.heap.size) _ rfl [.int .u64 0, .string ⟨#[]⟩, .bool false, .int .u64 0, .string ⟨#[]⟩] rfl
 simp only [setAll, List.set_cons_zero, List.set_cons_succ] at hP
 generalize hput3 : (((((x34.setCell ⟨x33.heap.size, 0, none⟩ (.int .u64 0)).setCell ⟨x33.heap.size, 1, none⟩ (.string ⟨#[]⟩)).setCell ⟨x33.heap.size, 2, none⟩ (.bool false)).setCell ⟨x33.heap.size, 3, none⟩ (.int .u64 0)).setCell ⟨x33.heap.size, 4, none⟩ (.string ⟨#[]⟩)) = x35 at hP
 have hB3 := hP.fc
 simp only [fcG, cellsF, neK, and_true, ne_eq, Nat.zero_add, Nat.reduceAdd] at hB3
 replace hL0 := hP
 go_wp2_with fail
 clear hA
 with_reducible refine Calls.mono (H23.out _) ?_
 rintro e x36 ⟨rfl, hb⟩
 replace hL0 := hL0.call hb
 clear hb hweq hput3 hB3
 replace hL0 := (hL0.new rfl [.int .u64 ((zl r2.num : Nat) : Int), .string (zh r2.num), .bool (zs r2.num), .int .u64 ((lo (fe r2) : Nat) : Int), .string (hs (fe r2))] 79)
 generalize hweq : (x36.alloc (.cells #[.int .u64 ((zl r2.num : Nat) : Int), .string (zh r2.num), .bool (zs r2.num), .int .u64 ((lo (fe r2) : Nat) : Int), .string (hs (fe r2))] 79)) = x37 at hL0
 have hN0 := cells_of _ 0 [] rfl (hL0.get _ _ (List.mem_cons_of_mem _ (List.mem_cons_of_mem _ (List.mem_cons_of_mem _ (List.mem_cons_of_mem _ (List.mem_cons_of_mem _ (List.mem_cons_of_mem _ (List.mem_cons_of_mem _ (List.mem_cons_of_mem _ List.mem_cons_self)))))))))
 simp only [cellsF, and_true, Nat.zero_add, Nat.reduceAdd] at hN0
 go_wp2_with fail
 clear hN0
 with_reducible refine Calls.mono (H24.out _) ?_
 rintro e x38 ⟨rfl, hb⟩
 replace hL0 := hL0.call hb
 clear hb hweq
 go_wp2_with fail
 with_reducible refine Calls.mono (H25.out _ (htab.below hL0.bl)) ?_
 rintro e x39 ⟨rfl, hb⟩
 replace hL0 := hL0.call hb
 clear hb
 have hN0 := cells_of _ 0 [] rfl (hL0.get _ _ (List.mem_cons_of_mem _ (List.mem_cons_of_mem _ (List.mem_cons_of_mem _ (List.mem_cons_of_mem _ (List.mem_cons_of_mem _ (List.mem_cons_of_mem _ (List.mem_cons_of_mem _ (List.mem_cons_of_mem _ List.mem_cons_self)))))))))
 simp only [cellsF, and_true, Nat.zero_add, Nat.reduceAdd] at hN0
 go_wp2_with fail
 clear hN0
 with_reducible refine Calls.mono (H26.out _) ?_
 rintro e x40 ⟨rfl, hb⟩
 replace hL0 := hL0.call hb
 clear hb
 go_wp2_with fail
 with_reducible refine Calls.mono (H27.out _ (htab.below hL0.bl)) ?_
 rintro e x41 ⟨rfl, hb⟩
 replace hL0 := hL0.call hb
 clear hb
 have hN0 := cells_of _ 0 [] rfl (hL0.get _ _ (List.mem_cons_of_mem _ (List.mem_cons_of_mem _ List.mem_cons_self)))
 simp only [cellsF, and_true, Nat.zero_add, Nat.reduceAdd] at hN0
 go_wp2_with fail
 clear hN0
 with_reducible refine Calls.mono (H28.out _ (htab.below hL0.bl)) ?_
 rintro e x42 ⟨rfl, hb⟩
 replace hL0 := hL0.call hb
 clear hb
 have hN0 := cells_of _ 0 [] rfl (hL0.get _ _ List.mem_cons_self)
 simp only [cellsF, and_true, Nat.zero_add, Nat.reduceAdd] at hN0
 go_wp2_with fail
 clear hN0
 with_reducible refine Calls.mono (H11.out _ (htab.below hL0.bl)) ?_
 rintro e x43 ⟨rfl, hb⟩
 replace hL0 := hL0.call hb
 clear hb
 go_wp2_with fail
 with_reducible refine Calls.mono (H29.out _) ?_
 rintro e x44 ⟨rfl, hb⟩
 replace hL0 := hL0.call hb
 clear hb
 go_wp2_with fail
 with_reducible refine Calls.mono (H16.out _ (htab.below hL0.bl)) ?_
 rintro e x45 ⟨rfl, hb⟩
 replace hL0 := hL0.call hb
 clear hb
 go_wp2_with fail
 with_reducible refine Calls.mono (H30.out _) ?_
 rintro e x46 ⟨rfl, hb⟩
 replace hL0 := hL0.call hb
 clear hb
 go_wp2_with fail
 with_reducible refine Calls.mono (H31.out _) ?_
 rintro e x47 ⟨rfl, hb⟩
 replace hL0 := hL0.call hb
 clear hb
 replace hL0 := (hL0.new rfl [.int .u64 ((zl r11.num : Nat) : Int), .string (zh r11.num), .bool (zs r11.num), .int .u64 ((lo (fe r11) : Nat) : Int), .string (hs (fe r11)), .int .u64 ((zl r12.num : Nat) : Int), .string (zh r12.num), .bool (zs r12.num), .int .u64 ((lo (fe r12) : Nat) : Int), .string (hs (fe r12))] 79)
 generalize hweq : (x47.alloc (.cells #[.int .u64 ((zl r11.num : Nat) : Int), .string (zh r11.num), .bool (zs r11.num), .int .u64 ((lo (fe r11) : Nat) : Int), .string (hs (fe r11)), .int .u64 ((zl r12.num : Nat) : Int), .string (zh r12.num), .bool (zs r12.num), .int .u64 ((lo (fe r12) : Nat) : Int), .string (hs (fe r12))] 79)) = x48 at hL0
 go_wp2_with fail
 with_reducible refine Calls.mono (H32.out _ _ (hL0.get _ _ List.mem_cons_self)) ?_
 rintro e x49 ⟨rfl, hb⟩
 replace hL0 := hL0.call hb
 clear hb hweq
 go_wp2_with fail
 with_reducible refine Calls.mono (H33.out _ (htab.below hL0.bl)) ?_
 rintro e x50 ⟨rfl, hb⟩
 replace hL0 := hL0.call hb
 clear hb
 replace hL0 := ((hL0.new rfl [.string (ByteArray.mk #[45, 54, 47, 52]), .string (ByteArray.mk #[49, 47, 48]), .string (ByteArray.mk #[49, 47, 45, 50]), .string (ByteArray.mk #[49, 47, 50, 47, 51]), .string (ByteArray.mk #[48, 47, 55]), .string ⟨#[]⟩, .string (ByteArray.mk #[49, 47])] 9).new (K := x50.heap.size + 1) (szA _ _) [.int .i64 0, .int .i64 5, .int .i64 4, .int .i64 4, .int .i64 0, .int .i64 4, .int .i64 4] 85)
 generalize hweq : ((x50.alloc (.cells #[.string (ByteArray.mk #[45, 54, 47, 52]), .string (ByteArray.mk #[49, 47, 48]), .string (ByteArray.mk #[49, 47, 45, 50]), .string (ByteArray.mk #[49, 47, 50, 47, 51]), .string (ByteArray.mk #[48, 47, 55]), .string ⟨#[]⟩, .string (ByteArray.mk #[49, 47])] 9)).alloc (.cells #[.int .i64 0, .int .i64 5, .int .i64 4, .int .i64 4, .int .i64 0, .int .i64 4, .int .i64 4] 85)) = x51 at hL0
 go_wp2_with fail
 clear hweq
 go_loopw [18] (fun z wr => ∃ i : Nat, i ≤ 7 ∧ z = .int .i64 (i : Int) ∧ GL w wr [(x50.heap.size + 1, [.int .i64 0, .int .i64 5, .int .i64 4, .int .i64 4, .int .i64 0, .int .i64 4, .int .i64 4]), (x50.heap.size, [.string (ByteArray.mk #[45, 54, 47, 52]), .string (ByteArray.mk #[49, 47, 48]), .string (ByteArray.mk #[49, 47, 45, 50]), .string (ByteArray.mk #[49, 47, 50, 47, 51]), .string (ByteArray.mk #[48, 47, 55]), .string ⟨#[]⟩, .string (ByteArray.mk #[49, 47])]), (x47.heap.size, [.int .u64 ((zl r11.num : Nat) : Int), .string (zh r11.num), .bool (zs r11.num), .int .u64 ((lo (fe r11) : Nat) : Int), .string (hs (fe r11)), .int .u64 ((zl r12.num : Nat) : Int), .string (zh r12.num), .bool (zs r12.num), .int .u64 ((lo (fe r12) : Nat) : Int), .string (hs (fe r12))]), (x36.heap.size, [.int .u64 ((zl r2.num : Nat) : Int), .string (zh r2.num), .bool (zs r2.num), .int .u64 ((lo (fe r2) : Nat) : Int), .string (hs (fe r2))]), (x33.heap.size, [.int .u64 0, .string ⟨#[]⟩, .bool false, .int .u64 0, .string ⟨#[]⟩]), (x31.heap.size, [.int .u64 ((zl r10.num : Nat) : Int), .string (zh r10.num), .bool (zs r10.num), .int .u64 ((lo (fe r10) : Nat) : Int), .string (hs (fe r10))]), (k14_8, [.int .u64 0, .string ⟨#[]⟩, .bool false, .int .u64 0, .string ⟨#[]⟩]), (x12.heap.size, [.int .u64 ((zl r5.num : Nat) : Int), .string (zh r5.num), .bool (zs r5.num), .int .u64 ((lo (fe r5) : Nat) : Int), .string (hs (fe r5))]), (x8.heap.size, [.int .u64 ((zl r2.num : Nat) : Int), .string (zh r2.num), .bool (zs r2.num), .int .u64 ((lo (fe r2) : Nat) : Int), .string (hs (fe r2))]), (x5.heap.size, [.int .u64 0, .string ⟨#[]⟩, .bool false, .int .u64 0, .string ⟨#[]⟩]), (x2.heap.size + 1, [.int .u64 0, .string ⟨#[]⟩, .bool false, .int .u64 0, .string ⟨#[]⟩]), (x2.heap.size, [.int .u64 ((zl r1.num : Nat) : Int), .string (zh r1.num), .bool (zs r1.num), .int .u64 ((lo (fe r1) : Nat) : Int), .string (hs (fe r1))])]) (fun z _ => 7 - (intOf z).toNat)
 case atStart => exact ⟨0, by omega, rfl, hL0⟩
 case round =>
  clear hL0
  obtain ⟨i, hi, rfl, hL0⟩ := hrel
  rcases (show i = 0 ∨ i = 1 ∨ i = 2 ∨ i = 3 ∨ i = 4 ∨ i = 5 ∨ i = 6 ∨ i = 7 by omega) with rfl | rfl | rfl | rfl | rfl | rfl | rfl | rfl
  all_goals clear hi
  ·skip
   have hN0 := cells_of _ 0 [] rfl (hL0.get _ _ (List.mem_cons_of_mem _ List.mem_cons_self))
   simp only [cellsF, and_true, Nat.zero_add, Nat.reduceAdd] at hN0
   go_wp2_with fail
   clear hN0
   with_reducible refine Calls.mono (P0.out _ (hKM.out.at hL0.bl kKM)) ?_
   rintro e x52 ⟨rfl, hb⟩
   replace hL0 := hL0.call hb
   clear hb
   replace hL0 := (hL0.new rfl [.int .u64 ((zl r1.num : Nat) : Int), .string (zh r1.num), .bool (zs r1.num), .int .u64 ((lo (fe r1) : Nat) : Int), .string (hs (fe r1))] 79)
   generalize hweq : (x52.alloc (.cells #[.int .u64 ((zl r1.num : Nat) : Int), .string (zh r1.num), .bool (zs r1.num), .int .u64 ((lo (fe r1) : Nat) : Int), .string (hs (fe r1))] 79)) = x53 at hL0
   have hN0 := cells_of _ 0 [] rfl (hL0.get _ _ List.mem_cons_self)
   simp only [cellsF, and_true, Nat.zero_add, Nat.reduceAdd] at hN0
   have hN1 := cells_of _ 0 [] rfl (hL0.get _ _ (List.mem_cons_of_mem _ List.mem_cons_self))
   simp only [cellsF, and_true, Nat.zero_add, Nat.reduceAdd] at hN1
   have hN2 := cells_of _ 0 [] rfl (hL0.get _ _ (List.mem_cons_of_mem _ (List.mem_cons_of_mem _ (List.mem_cons_of_mem _ (List.mem_cons_of_mem _ (List.mem_cons_of_mem _ (List.mem_cons_of_mem _ (List.mem_cons_of_mem _ (List.mem_cons_of_mem _ (List.mem_cons_of_mem _ (List.mem_cons_of_mem _ (List.mem_cons_of_mem _ (List.mem_cons_of_mem _ List.mem_cons_self)))))))))))))
   simp only [cellsF, and_true, Nat.zero_add, Nat.reduceAdd] at hN2
   go_wp2_with fail
   go_roundw
   case rel => exact ⟨0 + 1, by omega, by first | rfl | go_num, hL0.weak (List.Sublist.cons _ (List.Sublist.refl _))⟩
   case measure => simp [intOf]
  ·skip
   have hN0 := cells_of _ 0 [] rfl (hL0.get _ _ (List.mem_cons_of_mem _ List.mem_cons_self))
   simp only [cellsF, and_true, Nat.zero_add, Nat.reduceAdd] at hN0
   go_wp2_with fail
   clear hN0
   with_reducible refine Calls.mono (P1.out _ (hKM.out.at hL0.bl kKM)) ?_
   rintro e x54 ⟨rfl, hb⟩
   replace hL0 := hL0.call hb
   clear hb
   replace hL0 := (hL0.new rfl [.int .u64 0, .string ⟨#[]⟩, .bool false, .int .u64 0, .string ⟨#[]⟩] 79)
   generalize hweq : (x54.alloc (.cells #[.int .u64 0, .string ⟨#[]⟩, .bool false, .int .u64 0, .string ⟨#[]⟩] 79)) = x55 at hL0
   have hA := hL0.fc
   simp only [fcG, cellsF, neK, and_true, ne_eq, Nat.zero_add, Nat.reduceAdd] at hA
   have hP := hL0.put 0 (x54.heap.size) _ rfl [.int .u64 0, .string ⟨#[]⟩, .bool false, .int .u64 0, .string ⟨#[]⟩] rfl
   simp only [setAll, List.set_cons_zero, List.set_cons_succ] at hP
   generalize hput4 : (((((x55.setCell ⟨x54.heap.size, 0, none⟩ (.int .u64 0)).setCell ⟨x54.heap.size, 1, none⟩ (.string ⟨#[]⟩)).setCell ⟨x54.heap.size, 2, none⟩ (.bool false)).setCell ⟨x54.heap.size, 3, none⟩ (.int .u64 0)).setCell ⟨x54.heap.size, 4, none⟩ (.string ⟨#[]⟩)) = x56 at hP
   have hB4 := hP.fc
   simp only [fcG, cellsF, neK, and_true, ne_eq, Nat.zero_add, Nat.reduceAdd] at hB4
   replace hL0 := hP
   go_wp2_with fail
   go_roundw
   case rel => exact ⟨1 + 1, by omega, by first | rfl | go_num, hL0.weak (List.Sublist.cons _ (List.Sublist.refl _))⟩
   case measure => simp [intOf]
  ·skip
   have hN0 := cells_of _ 0 [] rfl (hL0.get _ _ (List.mem_cons_of_mem _ List.mem_cons_self))
   simp only [cellsF, and_true, Nat.zero_add, Nat.reduceAdd] at hN0
   go_wp2_with fail
   clear hN0
   with_reducible refine Calls.mono (P2.out _ (hKM.out.at hL0.bl kKM)) ?_
   rintro e x57 ⟨rfl, hb⟩
   replace hL0 := hL0.call hb
   clear hb
   replace hL0 := (hL0.new rfl [.int .u64 0, .string ⟨#[]⟩, .bool false, .int .u64 0, .string ⟨#[]⟩] 79)
   generalize hweq : (x57.alloc (.cells #[.int .u64 0, .string ⟨#[]⟩, .bool false, .int .u64 0, .string ⟨#[]⟩] 79)) = x58 at hL0
   have hA := hL0.fc
   simp only [fcG, cellsF, neK, and_true, ne_eq, Nat.zero_add, Nat.reduceAdd] at hA
   have hP := hL0.put 0 (x57.heap.size) _ rfl [.int .u64 0, .string ⟨#[]⟩, .bool false, .int .u64 0, .string ⟨#[]⟩] rfl
   simp only [setAll, List.set_cons_zero, List.set_cons_succ] at hP
   generalize hput5 : (((((x58.setCell ⟨x57.heap.size, 0, none⟩ (.int .u64 0)).setCell ⟨x57.heap.size, 1, none⟩ (.string ⟨#[]⟩)).setCell ⟨x57.heap.size, 2, none⟩ (.bool false)).setCell ⟨x57.heap.size, 3, none⟩ (.int .u64 0)).setCell ⟨x57.heap.size, 4, none⟩ (.string ⟨#[]⟩)) = x59 at hP
   have hB5 := hP.fc
   simp only [fcG, cellsF, neK, and_true, ne_eq, Nat.zero_add, Nat.reduceAdd] at hB5
   replace hL0 := hP
   go_wp2_with fail
   go_roundw
   case rel => exact ⟨2 + 1, by omega, by first | rfl | go_num, hL0.weak (List.Sublist.cons _ (List.Sublist.refl _))⟩
   case measure => simp [intOf]
  ·skip
   have hN0 := cells_of _ 0 [] rfl (hL0.get _ _ (List.mem_cons_of_mem _ List.mem_cons_self))
   simp only [cellsF, and_true, Nat.zero_add, Nat.reduceAdd] at hN0
   go_wp2_with fail
   clear hN0
   with_reducible refine Calls.mono (P3.out _ (hKM.out.at hL0.bl kKM)) ?_
   rintro e x60 ⟨rfl, hb⟩
   replace hL0 := hL0.call hb
   clear hb
   replace hL0 := (hL0.new rfl [.int .u64 0, .string ⟨#[]⟩, .bool false, .int .u64 0, .string ⟨#[]⟩] 79)
   generalize hweq : (x60.alloc (.cells #[.int .u64 0, .string ⟨#[]⟩, .bool false, .int .u64 0, .string ⟨#[]⟩] 79)) = x61 at hL0
   have hA := hL0.fc
   simp only [fcG, cellsF, neK, and_true, ne_eq, Nat.zero_add, Nat.reduceAdd] at hA
   have hP := hL0.put 0 (x60.heap.size) _ rfl [.int .u64 0, .string ⟨#[]⟩, .bool false, .int .u64 0, .string ⟨#[]⟩] rfl
   simp only [setAll, List.set_cons_zero, List.set_cons_succ] at hP
   generalize hput6 : (((((x61.setCell ⟨x60.heap.size, 0, none⟩ (.int .u64 0)).setCell ⟨x60.heap.size, 1, none⟩ (.string ⟨#[]⟩)).setCell ⟨x60.heap.size, 2, none⟩ (.bool false)).setCell ⟨x60.heap.size, 3, none⟩ (.int .u64 0)).setCell ⟨x60.heap.size, 4, none⟩ (.string ⟨#[]⟩)) = x62 at hP
   have hB6 := hP.fc
   simp only [fcG, cellsF, neK, and_true, ne_eq, Nat.zero_add, Nat.reduceAdd] at hB6
   replace hL0 := hP
   go_wp2_with fail
   go_roundw
   case rel => exact ⟨3 + 1, by omega, by first | rfl | go_num, hL0.weak (List.Sublist.cons _ (List.Sublist.refl _))⟩
   case measure => simp [intOf]
  ·skip
   have hN0 := cells_of _ 0 [] rfl (hL0.get _ _ (List.mem_cons_of_mem _ List.mem_cons_self))
   simp only [cellsF, and_true, Nat.zero_add, Nat.reduceAdd] at hN0
   go_wp2_with fail
   clear hN0
   with_reducible refine Calls.mono (P4.out _ (hKM.out.at hL0.bl kKM)) ?_
   rintro e x63 ⟨rfl, hb⟩
   replace hL0 := hL0.call hb
   clear hb
   replace hL0 := (hL0.new rfl [.int .u64 0, .string ⟨#[]⟩, .bool false, .int .u64 0, .string ⟨#[]⟩] 79)
   generalize hweq : (x63.alloc (.cells #[.int .u64 0, .string ⟨#[]⟩, .bool false, .int .u64 0, .string ⟨#[]⟩] 79)) = x64 at hL0
   have hA := hL0.fc
   simp only [fcG, cellsF, neK, and_true, ne_eq, Nat.zero_add, Nat.reduceAdd] at hA
   have hP := hL0.put 0 (x63.heap.size) _ rfl [.int .u64 0, .string ⟨#[]⟩, .bool false, .int .u64 0, .string ⟨#[]⟩] rfl
   simp only [setAll, List.set_cons_zero, List.set_cons_succ] at hP
   generalize hput7 : (((((x64.setCell ⟨x63.heap.size, 0, none⟩ (.int .u64 0)).setCell ⟨x63.heap.size, 1, none⟩ (.string ⟨#[]⟩)).setCell ⟨x63.heap.size, 2, none⟩ (.bool false)).setCell ⟨x63.heap.size, 3, none⟩ (.int .u64 0)).setCell ⟨x63.heap.size, 4, none⟩ (.string ⟨#[]⟩)) = x65 at hP
   have hB7 := hP.fc
   simp only [fcG, cellsF, neK, and_true, ne_eq, Nat.zero_add, Nat.reduceAdd] at hB7
   replace hL0 := hP
   go_wp2_with fail
   go_roundw
   case rel => exact ⟨4 + 1, by omega, by first | rfl | go_num, hL0.weak (List.Sublist.cons _ (List.Sublist.refl _))⟩
   case measure => simp [intOf]
  ·skip
   have hN0 := cells_of _ 0 [] rfl (hL0.get _ _ (List.mem_cons_of_mem _ List.mem_cons_self))
   simp only [cellsF, and_true, Nat.zero_add, Nat.reduceAdd] at hN0
   go_wp2_with fail
   clear hN0
   with_reducible refine Calls.mono (P5.out _ (hKM.out.at hL0.bl kKM)) ?_
   rintro e x66 ⟨rfl, hb⟩
   replace hL0 := hL0.call hb
   clear hb
   replace hL0 := (hL0.new rfl [.int .u64 0, .string ⟨#[]⟩, .bool false, .int .u64 0, .string ⟨#[]⟩] 79)
   generalize hweq : (x66.alloc (.cells #[.int .u64 0, .string ⟨#[]⟩, .bool false, .int .u64 0, .string ⟨#[]⟩] 79)) = x67 at hL0
   have hA := hL0.fc
   simp only [fcG, cellsF, neK, and_true, ne_eq, Nat.zero_add, Nat.reduceAdd] at hA
   have hP := hL0.put 0 (x66.heap.size) _ rfl [.int .u64 0, .string ⟨#[]⟩, .bool false, .int .u64 0, .string ⟨#[]⟩] rfl
   simp only [setAll, List.set_cons_zero, List.set_cons_succ] at hP
   generalize hput8 : (((((x67.setCell ⟨x66.heap.size, 0, none⟩ (.int .u64 0)).setCell ⟨x66.heap.size, 1, none⟩ (.string ⟨#[]⟩)).setCell ⟨x66.heap.size, 2, none⟩ (.bool false)).setCell ⟨x66.heap.size, 3, none⟩ (.int .u64 0)).setCell ⟨x66.heap.size, 4, none⟩ (.string ⟨#[]⟩)) = x68 at hP
   have hB8 := hP.fc
   simp only [fcG, cellsF, neK, and_true, ne_eq, Nat.zero_add, Nat.reduceAdd] at hB8
   replace hL0 := hP
   go_wp2_with fail
   go_roundw
   case rel => exact ⟨5 + 1, by omega, by first | rfl | go_num, hL0.weak (List.Sublist.cons _ (List.Sublist.refl _))⟩
   case measure => simp [intOf]
  ·skip
   have hN0 := cells_of _ 0 [] rfl (hL0.get _ _ (List.mem_cons_of_mem _ List.mem_cons_self))
   simp only [cellsF, and_true, Nat.zero_add, Nat.reduceAdd] at hN0
   go_wp2_with fail
   clear hN0
   with_reducible refine Calls.mono (P6.out _ (hKM.out.at hL0.bl kKM)) ?_
   rintro e x69 ⟨rfl, hb⟩
   replace hL0 := hL0.call hb
   clear hb
   replace hL0 := (hL0.new rfl [.int .u64 0, .string ⟨#[]⟩, .bool false, .int .u64 0, .string ⟨#[]⟩] 79)
   generalize hweq : (x69.alloc (.cells #[.int .u64 0, .string ⟨#[]⟩, .bool false, .int .u64 0, .string ⟨#[]⟩] 79)) = x70 at hL0
   have hA := hL0.fc
   simp only [fcG, cellsF, neK, and_true, ne_eq, Nat.zero_add, Nat.reduceAdd] at hA
   have hP := hL0.put 0 (x69.heap.size) _ rfl [.int .u64 0, .string ⟨#[]⟩, .bool false, .int .u64 0, .string ⟨#[]⟩] rfl
   simp only [setAll, List.set_cons_zero, List.set_cons_succ] at hP
   generalize hput9 : (((((x70.setCell ⟨x69.heap.size, 0, none⟩ (.int .u64 0)).setCell ⟨x69.heap.size, 1, none⟩ (.string ⟨#[]⟩)).setCell ⟨x69.heap.size, 2, none⟩ (.bool false)).setCell ⟨x69.heap.size, 3, none⟩ (.int .u64 0)).setCell ⟨x69.heap.size, 4, none⟩ (.string ⟨#[]⟩)) = x71 at hP
   have hB9 := hP.fc
   simp only [fcG, cellsF, neK, and_true, ne_eq, Nat.zero_add, Nat.reduceAdd] at hB9
   replace hL0 := hP
   go_wp2_with fail
   go_roundw
   case rel => exact ⟨6 + 1, by omega, by first | rfl | go_num, hL0.weak (List.Sublist.cons _ (List.Sublist.refl _))⟩
   case measure => simp [intOf]
  ·skip
   go_wp2_with fail
   exact bodyPost_ret (v := .bool true) (by simp [results, Tryz.results54, go_sem]) rfl ⟨rfl, hL0.bl⟩
theorem fworks_any (w : World) (htab : Tab w) (hm : MaxL w) : Calls Tryz.prog 54 #[] w fun xe w' => xe = .returned (.bool true) ∧ Below w.heap.size w w' := by
 have H1t := fun w => ofF (6) (-4) (by decide) (by decide) (by decide) (by decide) (by decide) w
 rw [show (((6 : Int)) : Rat) / (((-4 : Int)) : Rat) = (mkRat (-3) 2) from by decide +kernel] at H1t
 have H1 := fun w => lof_w _ _ _ _ _ H1t w
 have H2t := fun w => ofF (0) (-5) (by decide) (by decide) (by decide) (by decide) (by decide) w
 rw [show (((0 : Int)) : Rat) / (((-5 : Int)) : Rat) = (0 : Rat) from by decide +kernel] at H2t
 rw [frV_q0] at H2t
 have H2 := fun w => lof_0 _ _ _ H2t w
 have H3 := fun w => of0F (1) (by decide) (by decide) w
 try rw [frV_q0] at H3
 have H4t := fun w => ofF (-9223372036854775808) (-9223372036854775808) (by decide) (by decide) (by decide) (by decide) (by decide) w
 rw [show (((-9223372036854775808 : Int)) : Rat) / (((-9223372036854775808 : Int)) : Rat) = ((1 : Int) : Rat) from by decide +kernel] at H4t
 have H4 := fun w => lof_w _ _ _ _ _ H4t w
 have H5t := fun w => ofF (1) (2) (by decide) (by decide) (by decide) (by decide) (by decide) w
 rw [show (((1 : Int)) : Rat) / (((2 : Int)) : Rat) = (mkRat (1) 2) from by decide +kernel] at H5t
 have H5 := fun w => lof_w _ _ _ _ _ H5t w
 have H6t := fun w => ofF (-1) (4) (by decide) (by decide) (by decide) (by decide) (by decide) w
 rw [show (((-1 : Int)) : Rat) / (((4 : Int)) : Rat) = (mkRat (-1) 4) from by decide +kernel] at H6t
 have H6 := fun w => lof_w _ _ _ _ _ H6t w
 have H7 := fun w => divF (mkRat (1) 2) (mkRat (-1) 4) 1 ((szc (mkRat (1) 2) (by decide +kernel) (by decide +kernel)).mono (by omega)) ((szc (mkRat (-1) 4) (by decide +kernel) (by decide +kernel)).mono (by omega)) (by omega) (by decide +kernel) w
 rw [show ((mkRat (1) 2) / (mkRat (-1) 4)) = ((-2 : Int) : Rat) from by decide +kernel] at H7
 have H8 := fun w => intF (1) (by decide) (by decide) w
 have H9 := fun w => div0F ((1 : Int) : Rat) w
 try rw [frV_q0] at H9
 have H10t := fun w h => textF (mkRat (-3) 2) 1 (szc (mkRat (-3) 2) (by decide +kernel) (by decide +kernel)) (by omega) w h
 rw [show qtxt (mkRat (-3) 2) = (ByteArray.mk #[45, 51, 47, 50]) from qt_n3_2] at H10t
 have H10 := fun w h => ltext_true _ _ _ H10t w h
 have H11t := fun w h => textF ((1 : Int) : Rat) 1 (szc ((1 : Int) : Rat) (by decide +kernel) (by decide +kernel)) (by omega) w h
 rw [show qtxt ((1 : Int) : Rat) = (ByteArray.mk #[49]) from qt_1] at H11t
 have H11 := fun w h => ltext_true _ _ _ H11t w h
 have H12t := fun w => ofF (1) (3) (by decide) (by decide) (by decide) (by decide) (by decide) w
 rw [show (((1 : Int)) : Rat) / (((3 : Int)) : Rat) = (mkRat (1) 3) from by decide +kernel] at H12t
 have H12 := fun w => lof_w _ _ _ _ _ H12t w
 have H13 := fun w => addF (mkRat (1) 2) (mkRat (1) 3) 1 ((szc (mkRat (1) 2) (by decide +kernel) (by decide +kernel)).mono (by omega)) ((szc (mkRat (1) 3) (by decide +kernel) (by decide +kernel)).mono (by omega)) (by omega) w
 rw [show ((mkRat (1) 2) + (mkRat (1) 3)) = (mkRat (5) 6) from by decide +kernel] at H13
 have H14t := fun w h => textF (mkRat (5) 6) 1 (szc (mkRat (5) 6) (by decide +kernel) (by decide +kernel)) (by omega) w h
 rw [show qtxt (mkRat (5) 6) = (ByteArray.mk #[53, 47, 54]) from qt_5_6] at H14t
 have H14 := fun w h => ltext_true _ _ _ H14t w h
 have H15 := fun w => subF (mkRat (1) 2) (mkRat (1) 2) 1 ((szc (mkRat (1) 2) (by decide +kernel) (by decide +kernel)).mono (by omega)) ((szc (mkRat (1) 2) (by decide +kernel) (by decide +kernel)).mono (by omega)) (by omega) w
 rw [show ((mkRat (1) 2) - (mkRat (1) 2)) = (0 : Rat) from by decide +kernel] at H15
 try rw [frV_q0] at H15
 have H16t := fun w h => textF (0 : Rat) 1 (szc 0 (by decide) (by decide)) (by omega) w h
 rw [show qtxt (0 : Rat) = (ByteArray.mk #[48]) from qt_0] at H16t
 rw [frV_q0] at H16t
 have H16 := fun w h => ltext_0 _ H16t w h
 have H17t := fun w => ofF (2) (3) (by decide) (by decide) (by decide) (by decide) (by decide) w
 rw [show (((2 : Int)) : Rat) / (((3 : Int)) : Rat) = (mkRat (2) 3) from by decide +kernel] at H17t
 have H17 := fun w => lof_w _ _ _ _ _ H17t w
 have H18t := fun w => ofF (3) (2) (by decide) (by decide) (by decide) (by decide) (by decide) w
 rw [show (((3 : Int)) : Rat) / (((2 : Int)) : Rat) = (mkRat (3) 2) from by decide +kernel] at H18t
 have H18 := fun w => lof_w _ _ _ _ _ H18t w
 have H19 := fun w => mulF (mkRat (2) 3) (mkRat (3) 2) 1 ((szc (mkRat (2) 3) (by decide +kernel) (by decide +kernel)).mono (by omega)) ((szc (mkRat (3) 2) (by decide +kernel) (by decide +kernel)).mono (by omega)) (by omega) w
 rw [show ((mkRat (2) 3) * (mkRat (3) 2)) = ((1 : Int) : Rat) from by decide +kernel] at H19
 have H20t := fun w h => textF ((-2 : Int) : Rat) 1 (szc ((-2 : Int) : Rat) (by decide +kernel) (by decide +kernel)) (by omega) w h
 rw [show qtxt ((-2 : Int) : Rat) = (ByteArray.mk #[45, 50]) from qt_n2] at H20t
 have H20 := fun w h => ltext_true _ _ _ H20t w h
 have H21t := fun w => powerF (mkRat (2) 3)⁻¹ 2 (by decide) (.inr (by decide +kernel)) (.inr (by decide +kernel)) 1 (Sz.inv (szc (mkRat (2) 3) (by decide +kernel) (by decide +kernel)) (by decide +kernel)) (by omega) w
 rw [show ((mkRat (2) 3)⁻¹) ^ (2 : Nat) = (mkRat (9) 4) from by decide +kernel] at H21t
 have H21 := fun w => powF_neg (mkRat (2) 3) (by decide +kernel) (-2) 2 (by decide) (by decide) (by decide) _ _ H21t w
 have H22 := fun w => powF_zero (-1) (by decide) (by decide) w
 rw [frV_q0] at H22
 have H23t := fun w => powerF (0 : Rat) 0 (by decide) (.inl rfl) (.inl rfl) 1 (szc 0 (by decide) (by decide)) (by omega) w
 rw [show (0 : Rat) ^ (0 : Nat) = ((1 : Int) : Rat) from by decide +kernel] at H23t
 have H23 := fun w => powF_pos (0 : Rat) 0 (by decide) _ _ H23t w
 try rw [frV_q0] at H23
 try rw [show ((((0) : Nat)) : Int) = 0 from rfl] at H23
 have H24 := fun w => floorF (mkRat (-3) 2) 1 (szc (mkRat (-3) 2) (by decide +kernel) (by decide +kernel)) (by omega) w
 rw [show ((mkRat (-3) 2)).floor = -2 from by decide +kernel] at H24
 have H25 := fun w h => textI (-2 : Int) (Nat.le_trans (dI_lit (by decide)) (by omega)) w h
 rw [show ztxt (-2 : Int) = (ByteArray.mk #[45, 50]) from zt_n2] at H25
 have H26 := fun w => ceilF (mkRat (-3) 2) 1 (szc (mkRat (-3) 2) (by decide +kernel) (by decide +kernel)) (by omega) w
 rw [show rceil (mkRat (-3) 2) = -1 from by decide +kernel] at H26
 have H27 := fun w h => textI (-1 : Int) (Nat.le_trans (dI_lit (by decide)) (by omega)) w h
 rw [show ztxt (-1 : Int) = (ByteArray.mk #[45, 49]) from zt_n1] at H27
 have H28t := fun w h => textF (mkRat (9) 4) 1 (szc (mkRat (9) 4) (by decide +kernel) (by decide +kernel)) (by omega) w h
 rw [show qtxt (mkRat (9) 4) = (ByteArray.mk #[57, 47, 52]) from qt_9_4] at H28t
 have H28 := fun w h => ltext_true _ _ _ H28t w h
 have H29 := fun w => max_nil w
 have H30 := fun w => intF (-1) (by decide) (by decide) w
 have H31t := fun w => ofF (-1) (2) (by decide) (by decide) (by decide) (by decide) (by decide) w
 rw [show (((-1 : Int)) : Rat) / (((2 : Int)) : Rat) = (mkRat (-1) 2) from by decide +kernel] at H31t
 have H31 := fun w => lof_w _ _ _ _ _ H31t w
 have H32 := fun g w h => max_two ((-1 : Int) : Rat) (mkRat (-1) 2) (mkRat (-1) 2) (szc ((-1 : Int) : Rat) (by decide +kernel) (by decide +kernel)) (szc (mkRat (-1) 2) (by decide +kernel) (by decide +kernel)) (by decide +kernel) g w h
 have H33t := fun w h => textF (mkRat (-1) 2) 1 (szc (mkRat (-1) 2) (by decide +kernel) (by decide +kernel)) (by omega) w h
 rw [show qtxt (mkRat (-1) 2) = (ByteArray.mk #[45, 49, 47, 50]) from qt_n1_2] at H33t
 have H33 := fun w h => ltext_true _ _ _ H33t w h
 exact fworks_w (mkRat (-3) 2) ((1 : Int) : Rat) (mkRat (1) 2) (mkRat (-1) 4) ((-2 : Int) : Rat) (mkRat (1) 3) (mkRat (5) 6) (mkRat (2) 3) (mkRat (3) 2) (mkRat (9) 4) (-2 : Int) (-1 : Int) ((-1 : Int) : Rat) (mkRat (-1) 2) _ MaxL.keeps parse_w0 parse_w1 parse_w2 parse_w3 parse_w4 parse_w5 parse_w6 H1 H2 H3 H4 H5 H6 H7 H8 H9 H10 H11 H12 H13 H14 H15 H16 H17 H18 H19 H20 H21 H22 H23 H24 H25 H26 H27 H28 H29 H30 H31 H32 H33 w htab hm
end Go.Proofs.YtdmoadfnogdfnaaGreatDoor
