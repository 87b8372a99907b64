/-
  The law answers true at every input, and leaves its arguments as they were: a part of the proof. CONDITIONS: the package-level tables start as the program's text lays them (the card ties them).
-/
import Derived.Test.YtkdbhacimoaohaaGreatDoorZab
set_option linter.unusedVariables false
set_option linter.unusedSimpArgs false
set_option maxHeartbeats 16000000
set_option maxRecDepth 100000
namespace Go.Proofs.YtkdbhacimoaohaaGreatDoor
open Go.RowKit
attribute [local irreducible] lo hs sm s64 c64 d64 b64 mh ml pd pc qd qc val hiB str cmpI srD lz nb zl zh zs
theorem new_int (w : World) : (Instr.alloc 36 true (.tuple #[])).run Tryz.prog w = .ok (.pointer (some ⟨w.heap.size, 0, none⟩)) (w.alloc (.cells #[.int .u64 0, .string ⟨#[]⟩, .bool false] 36)) := by
 simp [go_sem, Instr.alloc]
theorem hd_put3 {w : World} {k : Nat} {x0 x1 x2 : Value} (h : Hd w k [x0, x1, x2]) (v0 v1 v2 : Value) : Hd (((w.setCell ⟨k, 0, none⟩ v0).setCell ⟨k, 1, none⟩ v1).setCell ⟨k, 2, none⟩ v2) k [v0, v1, v2] :=
 setAll_hd [v0, v1, v2] 0 w k [] [x0, x1, x2] rfl rfl h
theorem put_int (i0 i : Int) (s0 s : ByteArray) (b0 b : Bool) (w : World) (k : Nat) (h : Hd w k [.int .u64 i0, .string s0, .bool b0]) :
  ∃ w', (Instr.storeAt 36 (.pointer (some ⟨k, 0, none⟩)) (.agg #[.int .u64 i, .string s, .bool b])).run Tryz.prog w = .ok () w' ∧ Hd w' k [.int .u64 i, .string s, .bool b] ∧ Upd k w w' := by
 have h0 : w.cell? ⟨k, 0, none⟩ = some (.int .u64 i0) := h.cell 0 (by simp)
 have h1 : w.cell? ⟨k, 1, none⟩ = some (.string s0) := h.cell 1 (by simp)
 have h2 : w.cell? ⟨k, 2, none⟩ = some (.bool b0) := h.cell 2 (by simp)
 have hf := h.frz
 refine ⟨_, ?_, hd_put3 h (.int .u64 i) (.string s) (.bool b), (((Upd.refl k w).setCell 0 _).setCell 1 _).setCell 2 _⟩
 simp [go_sem, Instr.storeAt, Instr.sureAddr, h0, h1, h2, hf]
theorem z0 : zl 0 = 0 ∧ zh 0 = ⟨#[]⟩ ∧ zs 0 = false := ⟨by unfold zl; rw [show (0 : Int).natAbs = 0 from rfl, lo_small Bs_pos], by unfold zh; rw [show (0 : Int).natAbs = 0 from rfl, hs_small Bs_pos], by unfold zs; rfl⟩
end Go.Proofs.YtkdbhacimoaohaaGreatDoor
namespace Go.Proofs.YtkdbhacimoaohaaGreatDoor
open Go.RowKit
theorem canc {z : Int} {d : Nat} (hd : d ≠ 0) : (mkRat z d).num = z.tdiv (Nat.gcd z.natAbs d : Nat) ∧ (mkRat z d).den = d / Nat.gcd z.natAbs d := by
 have hg : ((Nat.gcd z.natAbs d : Nat) : Int) ∣ z := by rw [← Int.dvd_natAbs, Int.ofNat_dvd]; exact Nat.gcd_dvd_left _ _
 rw [Rat.num_mkRat, Rat.den_mkRat, if_neg hd, if_neg hd, Nat.gcd_comm d]
 exact ⟨(Int.tdiv_eq_ediv_of_dvd hg).symm, rfl⟩
theorem rmul_parts (a b : Rat) : (a * b).num = a.num.tdiv (Nat.gcd a.num.natAbs b.den : Nat) * b.num.tdiv (Nat.gcd b.num.natAbs a.den : Nat) ∧
  (a * b).den = b.den / Nat.gcd a.num.natAbs b.den * (a.den / Nat.gcd b.num.natAbs a.den) := by
 have h : a * b = Rat.mul a b := rfl
 rw [h]; unfold Rat.mul
 simp only [Int.divExact_eq_tdiv]
 exact ⟨trivial, Nat.mul_comm _ _⟩
theorem rinv_parts {a : Rat} (h : a ≠ 0) : (a⁻¹).num = (if a.num < 0 then -(a.den : Int) else (a.den : Int)) ∧ (a⁻¹).den = a.num.natAbs := by
 have h0 : a.num ≠ 0 := fun e => h (Rat.num_eq_zero.1 e)
 rw [Rat.num_inv, Rat.den_inv, if_neg h0]
 refine ⟨?_, rfl⟩
 split
 ·rename_i h1; rw [Int.sign_eq_neg_one_of_neg h1]; omega
 ·rw [Int.sign_eq_one_of_pos (by omega)]; omega
theorem radd_parts (a b : Rat) :
  (a + b).num = (a.num * ((b.den / Nat.gcd a.den b.den : Nat) : Int) + b.num * ((a.den / Nat.gcd a.den b.den : Nat) : Int)).tdiv (Nat.gcd (a.num * ((b.den / Nat.gcd a.den b.den : Nat) : Int) + b.num * ((a.den / Nat.gcd a.den b.den : Nat) : Int)).natAbs (Nat.gcd a.den b.den) : Nat) ∧
  (a + b).den = a.den / Nat.gcd a.den b.den * (b.den / Nat.gcd a.den b.den) * (Nat.gcd a.den b.den / Nat.gcd (a.num * ((b.den / Nat.gcd a.den b.den : Nat) : Int) + b.num * ((a.den / Nat.gcd a.den b.den : Nat) : Int)).natAbs (Nat.gcd a.den b.den)) := by
 have h : a + b = Rat.add a b := rfl
 rw [h]; unfold Rat.add
 by_cases hg : a.den.gcd b.den = 1
 ·simp only [hg, dif_pos]
  simp
 ·simp only [hg, dif_neg, not_false_eq_true, Rat.maybeNormalize_eq]
  refine ⟨Int.divExact_eq_tdiv .., ?_⟩
  generalize hx : a.num * ((b.den / Nat.gcd a.den b.den : Nat) : Int) + b.num * ((a.den / Nat.gcd a.den b.den : Nat) : Int) = x
  have e1 : b.den = b.den / Nat.gcd a.den b.den * Nat.gcd a.den b.den := (Nat.div_mul_cancel (Nat.gcd_dvd_right _ _)).symm
  generalize hg' : Nat.gcd a.den b.den = g at *
  generalize hq : b.den / g = q at *
  rw [e1, ← Nat.mul_assoc, Nat.mul_div_assoc _ (Nat.gcd_dvd_right _ _)]
def sgnQ (a : Rat) : Int := if a < 0 then -1 else if a = 0 then 0 else 1
theorem sgnQ_num (a : Rat) : sgnQ a = if a.num < 0 then -1 else if a.num = 0 then 0 else 1 := by
 unfold sgnQ
 have h1 : a < 0 ↔ a.num < 0 := by rw [← Rat.not_le, ← Rat.num_nonneg]; omega
 have h2 : a = 0 ↔ a.num = 0 := Rat.num_eq_zero.symm
 simp only [h1, h2]
theorem num_le_add (a b : Rat) : (a + b).num.natAbs ≤ (a.num * b.den + b.num * a.den).natAbs := by
 rw [Rat.num_add]; exact Int.natAbs_ediv_le_natAbs _ _
theorem den_le_add (a b : Rat) : (a + b).den ≤ a.den * b.den := by
 rw [Rat.den_add]; exact Nat.div_le_self _ _
theorem num_le_mul (a b : Rat) : (a * b).num.natAbs ≤ (a.num * b.num).natAbs := by
 rw [Rat.num_mul]; exact Int.natAbs_ediv_le_natAbs _ _
theorem den_le_mul (a b : Rat) : (a * b).den ≤ a.den * b.den := by
 rw [Rat.den_mul]; exact Nat.div_le_self _ _
/-- The denominator as it is kept: 0 stands for 1. -/
def fe (q : Rat) : Nat := if q.den = 1 then 0 else q.den
theorem fe_one {q : Rat} (h : q.den = 1) : fe q = 0 := if_pos h
theorem fe_ne {q : Rat} (h : q.den ≠ 1) : fe q = q.den := if_neg h
/-- A fraction: its numerator, and its denominator as it is kept. -/
abbrev frV (n : Int) (e : Nat) : Value := .agg #[.int .u64 ((zl n : Nat) : Int), .string (zh n), .bool (zs n), .int .u64 ((lo e : Nat) : Int), .string (hs e)]
abbrev fracV (q : Rat) : Value := frV q.num (fe q)
theorem frV_inj {m n : Int} {d e : Nat} (h : frV m d = frV n e) : m = n ∧ d = e := by
 simp only [frV, Value.agg.injEq, Array.mk.injEq, List.cons.injEq, Value.int.injEq, Value.string.injEq, Value.bool.injEq, and_true, true_and] at h
 obtain ⟨h1, h2, h3, h4, h5⟩ := h
 exact ⟨intV_inj (by unfold intV; rw [h1, h2, h3]), natV_inj (by unfold natV; rw [h4, h5])⟩
theorem fracV_inj {p q : Rat} (h : fracV p = fracV q) : p = q := by
 obtain ⟨h1, h2⟩ := frV_inj h
 refine Rat.ext h1 ?_
 unfold fe at h2
 have := p.den_nz
 have := q.den_nz
 split at h2 <;> split at h2 <;> omega
/-- What == sees of two naturals that differ. -/
theorem ne_nat {a b : Nat} (h : a ≠ b) : (((lo a : Nat) : Int) == ((lo b : Nat) : Int)) = false ∨ ((((lo a : Nat) : Int) == ((lo b : Nat) : Int)) = true ∧ ((hs a).toList == (hs b).toList) = false) := by
 by_cases h1 : lo a = lo b
 ·right
  refine ⟨by rw [h1]; exact beq_self_eq_true _, beq_eq_false_iff_ne.2 fun h3 => h ?_⟩
  rw [hs_toList, hs_toList] at h3
  have h4 := hiB_inj h3
  have h5 := divmod a
  have h6 := divmod b
  rw [h4, h1, ← h6] at h5
  exact h5
 ·left
  exact beq_eq_false_iff_ne.2 fun h2 => h1 (by omega)
/-- At most k words in the numerator and in the denominator. -/
def Sz (q : Rat) (k : Nat) : Prop := dI q.num ≤ k ∧ (digs q.den).length ≤ k
theorem Sz.n {q : Rat} {k : Nat} (h : Sz q k) : dI q.num ≤ k := h.1
theorem Sz.d {q : Rat} {k : Nat} (h : Sz q k) : (digs q.den).length ≤ k := h.2
theorem Sz.mono {q : Rat} {k m : Nat} (h : Sz q k) (hm : k ≤ m) : Sz q m := ⟨Nat.le_trans h.1 hm, Nat.le_trans h.2 hm⟩
theorem Sz.neg {q : Rat} {k : Nat} (h : Sz q k) : Sz (-q) k := ⟨by rw [Rat.neg_num, dI_neg]; exact h.1, h.2⟩
theorem Sz.add {p q : Rat} {k m : Nat} (hp : Sz p k) (hq : Sz q m) : Sz (p + q) (k + m + 1) := by
 constructor
 ·refine Nat.le_trans (dI_mono (num_le_add p q)) (dI_add (k := k + m) (dI_mul hp.1 (by rw [dI_nat]; exact hq.2)) ?_)
  rw [Nat.add_comm k m]
  exact dI_mul hq.1 (by rw [dI_nat]; exact hp.2)
 ·exact Nat.le_trans (digs_mono (den_le_add p q)) (Nat.le_trans (digs_mul_le hp.2 hq.2) (by omega))
theorem Sz.sub {p q : Rat} {k m : Nat} (hp : Sz p k) (hq : Sz q m) : Sz (p - q) (k + m + 1) := by
 rw [Rat.sub_eq_add_neg]; exact hp.add hq.neg
theorem Sz.mul {p q : Rat} {k m : Nat} (hp : Sz p k) (hq : Sz q m) : Sz (p * q) (k + m) :=
 ⟨Nat.le_trans (dI_mono (num_le_mul p q)) (dI_mul hp.1 hq.1), Nat.le_trans (digs_mono (den_le_mul p q)) (digs_mul_le hp.2 hq.2)⟩
theorem Sz.inv {q : Rat} {k : Nat} (h : Sz q k) (h0 : q ≠ 0) : Sz q⁻¹ k := by
 obtain ⟨h1, h2⟩ := rinv_parts h0
 refine ⟨?_, by rw [h2]; exact h.1⟩
 rw [h1]
 split
 ·rw [dI_neg, dI_nat]; exact h.2
 ·rw [dI_nat]; exact h.2
theorem Sz.div {p q : Rat} {k m : Nat} (hp : Sz p k) (hq : Sz q m) (h0 : q ≠ 0) : Sz (p / q) (k + m) := by
 rw [Rat.div_def]; exact hp.mul (hq.inv h0)
theorem Sz.int {z : Int} {k : Nat} (h : dI z ≤ k) (hk : 0 < k) : Sz (z : Rat) k :=
 ⟨h, Nat.le_trans (digs_length_iff (k := 1).2 (by show (z : Rat).den < _; rw [Rat.den_intCast, Nat.pow_one]; exact Bs_gt)) hk⟩
theorem Sz.mk {z : Int} {d k : Nat} (hz : dI z ≤ k) (hd : (digs d).length ≤ k) (h0 : d ≠ 0) : Sz (mkRat z d) k := by
 obtain ⟨h1, h2⟩ := canc (z := z) h0
 refine ⟨?_, ?_⟩
 ·rw [h1]
  refine Nat.le_trans (dI_mono ?_) hz
  rw [Int.natAbs_tdiv]
  exact Nat.div_le_self _ _
 ·rw [h2]; exact Nat.le_trans (digs_mono (Nat.div_le_self _ _)) hd
theorem new_natc (w : World) : (Instr.alloc 34 true (.tuple #[])).run Tryz.prog w = .ok (.pointer (some ⟨w.heap.size, 0, none⟩)) (w.alloc (.cells #[.int .u64 0, .string ⟨#[]⟩] 34)) := by
 simp [go_sem, Instr.alloc]
theorem put_natc (i0 i : Int) (s0 s : ByteArray) (w : World) (k : Nat) (h : Hd w k [.int .u64 i0, .string s0]) :
  ∃ w', (Instr.storeAt 34 (.pointer (some ⟨k, 0, none⟩)) (.agg #[.int .u64 i, .string s])).run Tryz.prog w = .ok () w' ∧ Hd w' k [.int .u64 i, .string s] ∧ Upd k w w' := by
 have h0 : w.cell? ⟨k, 0, none⟩ = some (.int .u64 i0) := h.cell 0 (by simp)
 have h1 : w.cell? ⟨k, 1, none⟩ = some (.string s0) := h.cell 1 (by simp)
 have hf := h.frz
 refine ⟨_, ?_, setAll_hd [.int .u64 i, .string s] 0 w k [] [.int .u64 i0, .string s0] rfl rfl h, (((Upd.refl k w).setCell 0 _).setCell 1 _)⟩
 simp [go_sem, Instr.storeAt, Instr.sureAddr, h0, h1, hf, setAll]
theorem new_frac (w : World) : (Instr.alloc 38 true (.tuple #[])).run Tryz.prog w = .ok (.pointer (some ⟨w.heap.size, 0, none⟩)) (w.alloc (.cells #[.int .u64 0, .string ⟨#[]⟩, .bool false, .int .u64 0, .string ⟨#[]⟩] 38)) := by
 simp [go_sem, Instr.alloc]
/-- A property of worlds that stays while memory is only made. -/
def Keeps (K : World → Prop) : Prop := ∀ w w', Below w.heap.size w w' → K w → K w'
theorem Keeps.at {K : World → Prop} (h : Keeps K) {w w' : World} (hb : Below w.heap.size w w') (hk : K w) : K w' := h _ _ hb hk
theorem Keeps.tab : Keeps Tab := fun _ _ hb h => h.below hb
theorem Keeps.and {K L : World → Prop} (h : Keeps K) (g : Keeps L) : Keeps (fun w => K w ∧ L w) := fun _ _ hb ⟨a, b⟩ => ⟨h _ _ hb a, g _ _ hb b⟩
theorem cls_callK {α : Type} {F : α → World} {w0 : World} {K : World → Prop} (hK : Keeps K) (h1 : ∀ x, Below w0.heap.size w0 (F x)) (h2 : ∀ W, Below w0.heap.size w0 W → ∃ x, W = F x) (hk : K w0) {P : Program} {f : FuncId} {args : Array Value} {v : Value}
  (h : ∀ w, K w → Calls P f args w fun e w' => e = .returned v ∧ Below w.heap.size w w') (x : α) : Calls P f args (F x) fun e w'' => e = .returned v ∧ ∃ y, w'' = F y :=
 (h (F x) (hK _ _ (h1 x) hk)).mono fun _ _ ⟨he, hb⟩ => ⟨he, h2 _ ((h1 x).trans (hb.mono (h1 x).size))⟩
end Go.Proofs.YtkdbhacimoaohaaGreatDoor
namespace Go.Proofs.YtkdbhacimoaohaaGreatDoor
open Go.RowKit
/-- Terms: the powers of x and y, the coefficient. -/
abbrev TL := List (Nat × Nat × Rat)
/-- What a sum of terms does to a function on powers: the sum of c F(i, j). -/
def pair : TL → (Nat → Nat → Rat) → Rat
 | [], _ => 0
 | t :: p, F => t.2.2 * F t.1 t.2.1 + pair p F
theorem pair_append (p q : TL) (F : Nat → Nat → Rat) : pair (p ++ q) F = pair p F + pair q F := by
 induction p with
 | nil => simp only [pair, List.nil_append]; grind
 | cons t p ih => simp only [List.cons_append, pair, ih]; grind
theorem pair_add (p : TL) (F G : Nat → Nat → Rat) : pair p (fun i j => F i j + G i j) = pair p F + pair p G := by
 induction p with
 | nil => simp only [pair, List.nil_append]; grind
 | cons t p ih => simp only [pair, ih]; grind
theorem pair_mul (p : TL) (c : Rat) (F : Nat → Nat → Rat) : pair p (fun i j => c * F i j) = c * pair p F := by
 induction p with
 | nil => simp only [pair, List.nil_append]; grind
 | cons t p ih => simp only [pair, ih]; grind
theorem pair_zero (p : TL) : pair p (fun _ _ => 0) = 0 := by
 induction p with
 | nil => rfl
 | cons t p ih => simp only [pair, ih]; grind
theorem pair_swap (p q : TL) (G : Nat → Nat → Nat → Nat → Rat) : pair p (fun i j => pair q (G i j)) = pair q (fun k l => pair p (fun i j => G i j k l)) := by
 induction p with
 | nil => simp only [pair]; exact (pair_zero q).symm
 | cons t p ih =>
  simp only [pair, ih]
  rw [pair_add q (fun k l => t.2.2 * G t.1 t.2.1 k l) (fun k l => pair p (fun i j => G i j k l)), pair_mul q t.2.2 (G t.1 t.2.1)]
theorem pair_congr (p : TL) {F G : Nat → Nat → Rat} (h : ∀ t ∈ p, F t.1 t.2.1 = G t.1 t.2.1) : pair p F = pair p G := by
 induction p with
 | nil => rfl
 | cons t p ih =>
  simp only [pair]
  rw [h t mZ, ih (fun u hu => h u (mK hu))]
/-- Two sums of terms are one polynomial. -/
def Eqv (p q : TL) : Prop := ∀ F, pair p F = pair q F
theorem Eqv.refl (p : TL) : Eqv p p := fun _ => rfl
theorem Eqv.symm {p q : TL} (h : Eqv p q) : Eqv q p := fun F => (h F).symm
theorem Eqv.trans {p q r : TL} (h : Eqv p q) (g : Eqv q r) : Eqv p r := fun F => (h F).trans (g F)
/-- Each term of p changed: its powers and its coefficient. -/
theorem pair_map (p : TL) (f : Nat × Nat × Rat → Nat × Nat × Rat) (F G : Nat → Nat → Rat) (h : ∀ t : Nat × Nat × Rat, (f t).2.2 * F (f t).1 (f t).2.1 = t.2.2 * G t.1 t.2.1) : pair (p.map f) F = pair p G := by
 induction p with
 | nil => rfl
 | cons t p ih => simp only [List.map_cons, pair, ih, h]
def scaleL (c : Rat) (p : TL) : TL := p.map fun t => (t.1, t.2.1, c * t.2.2)
theorem pair_scale (c : Rat) (p : TL) (F : Nat → Nat → Rat) : pair (scaleL c p) F = c * pair p F := by
 unfold scaleL
 rw [← pair_mul]
 exact pair_map p _ F _ fun t => by show c * t.2.2 * F t.1 t.2.1 = t.2.2 * (c * F t.1 t.2.1); grind
def timesL (s : Nat × Nat × Rat) (q : TL) : TL := q.map fun t => (s.1 + t.1, s.2.1 + t.2.1, s.2.2 * t.2.2)
def prodL : TL → TL → TL
 | [], _ => []
 | s :: p, q => timesL s q ++ prodL p q
theorem pair_prod (p q : TL) (F : Nat → Nat → Rat) : pair (prodL p q) F = pair p (fun i j => pair q (fun k l => F (i + k) (j + l))) := by
 induction p with
 | nil => rfl
 | cons s p ih =>
  simp only [prodL, pair, pair_append, ih]
  rw [← pair_mul]
  congr 1
  exact pair_map q _ F _ fun t => by show s.2.2 * t.2.2 * F (s.1 + t.1) (s.2.1 + t.2.1) = t.2.2 * (s.2.2 * F (s.1 + t.1) (s.2.1 + t.2.1)); grind
theorem prod_eqv {p p' q q' : TL} (h : Eqv p p') (g : Eqv q q') : Eqv (prodL p q) (prodL p' q') := fun F => by
 rw [pair_prod, pair_prod, h]
 exact congrArg (pair p') (funext fun i => funext fun j => g _)
theorem prod_comm (p q : TL) : Eqv (prodL p q) (prodL q p) := fun F => by
 rw [pair_prod, pair_prod, pair_swap]
 exact congrArg (pair q) (funext fun k => funext fun l => congrArg (pair p) (funext fun i => funext fun j => by rw [Nat.add_comm i k, Nat.add_comm j l]))
theorem prod_assoc (p q r : TL) : Eqv (prodL (prodL p q) r) (prodL p (prodL q r)) := fun F => by
 rw [pair_prod, pair_prod, pair_prod]
 refine congrArg (pair p) (funext fun i => funext fun j => ?_)
 rw [pair_prod]
 exact congrArg (pair q) (funext fun k => funext fun l => congrArg (pair r) (funext fun m => funext fun n => by rw [Nat.add_assoc, Nat.add_assoc]))
theorem prod_add (p q r : TL) : Eqv (prodL p (q ++ r)) (prodL p q ++ prodL p r) := fun F => by
 rw [pair_append, pair_prod, pair_prod, pair_prod, ← pair_add]
 exact congrArg (pair p) (funext fun i => funext fun j => pair_append q r _)
theorem add_eqv {p p' q q' : TL} (h : Eqv p p') (g : Eqv q q') : Eqv (p ++ q) (p' ++ q') := fun F => by rw [pair_append, pair_append, h, g]
theorem powQ_add (x : Rat) (i k : Nat) : x ^ (i + k) = x ^ i * x ^ k := by
 induction k with
 | zero => rw [Nat.add_zero, Rat.pow_zero, Rat.mul_one]
 | succ k ih => rw [Nat.add_succ, Rat.pow_succ, ih, Rat.pow_succ, Rat.mul_assoc]
/-- The value at a point. -/
def atL (p : TL) (x y : Rat) : Rat := pair p fun i j => x ^ i * y ^ j
theorem at_prod (p q : TL) (x y : Rat) : atL (prodL p q) x y = atL p x y * atL q x y := by
 unfold atL
 rw [pair_prod]
 have h : (fun i j => pair q fun k l => x ^ (i + k) * y ^ (j + l)) = fun i j => pair q (fun k l => x ^ k * y ^ l) * (x ^ i * y ^ j) := by
  funext i j
  rw [Rat.mul_comm, ← pair_mul]
  exact congrArg (pair q) (funext fun k => funext fun l => by rw [powQ_add, powQ_add]; grind)
 rw [h, pair_mul, Rat.mul_comm]
def dxL (p : TL) : TL := p.map fun t => (t.1 - 1, t.2.1, ((t.1 : Nat) : Rat) * t.2.2)
def dyL (p : TL) : TL := p.map fun t => (t.1, t.2.1 - 1, ((t.2.1 : Nat) : Rat) * t.2.2)
def dxF (F : Nat → Nat → Rat) : Nat → Nat → Rat := fun i j => ((i : Nat) : Rat) * F (i - 1) j
def dyF (F : Nat → Nat → Rat) : Nat → Nat → Rat := fun i j => ((j : Nat) : Rat) * F i (j - 1)
theorem pair_dx (p : TL) (F : Nat → Nat → Rat) : pair (dxL p) F = pair p (dxF F) := pair_map p _ F _ fun t => by show ((t.1 : Nat) : Rat) * t.2.2 * F (t.1 - 1) t.2.1 = t.2.2 * (((t.1 : Nat) : Rat) * F (t.1 - 1) t.2.1); grind
theorem pair_dy (p : TL) (F : Nat → Nat → Rat) : pair (dyL p) F = pair p (dyF F) := pair_map p _ F _ fun t => by show ((t.2.1 : Nat) : Rat) * t.2.2 * F t.1 (t.2.1 - 1) = t.2.2 * (((t.2.1 : Nat) : Rat) * F t.1 (t.2.1 - 1)); grind
theorem dx_eqv {p q : TL} (h : Eqv p q) : Eqv (dxL p) (dxL q) := fun F => by rw [pair_dx, pair_dx, h]
theorem dy_eqv {p q : TL} (h : Eqv p q) : Eqv (dyL p) (dyL q) := fun F => by rw [pair_dy, pair_dy, h]
theorem dx_dy (p : TL) : Eqv (dxL (dyL p)) (dyL (dxL p)) := fun F => by
 rw [pair_dx, pair_dy, pair_dy, pair_dx]
 exact congrArg (pair p) (funext fun i => funext fun j => by unfold dxF dyF; grind)
theorem dxF_split (F : Nat → Nat → Rat) (i j k l : Nat) : dxF F (i + k) (j + l) = ((i : Nat) : Rat) * F (i - 1 + k) (j + l) + ((k : Nat) : Rat) * F (i + (k - 1)) (j + l) := by
 unfold dxF
 rw [Rat.natCast_add]
 cases i with
 | zero =>
  cases k with
  | zero => simp; grind
  | succ k => rw [show 0 + (k + 1) - 1 = 0 + (k + 1 - 1) by omega]; simp; grind
 | succ i =>
  rw [show i + 1 + k - 1 = i + 1 - 1 + k by omega]
  cases k with
  | zero => simp; grind
  | succ k => rw [show i + 1 + (k + 1 - 1) = i + 1 - 1 + (k + 1) by omega]; grind
theorem dx_prod (p q : TL) : Eqv (dxL (prodL p q)) (prodL (dxL p) q ++ prodL p (dxL q)) := fun F => by
 rw [pair_dx, pair_prod, pair_append, pair_prod, pair_prod, pair_dx, ← pair_add]
 refine congrArg (pair p) (funext fun i => funext fun j => ?_)
 rw [pair_dx]
 show pair q (fun k l => dxF F (i + k) (j + l)) = ((i : Nat) : Rat) * pair q (fun k l => F (i - 1 + k) (j + l)) + pair q (dxF fun k l => F (i + k) (j + l))
 rw [← pair_mul, ← pair_add]
 exact congrArg (pair q) (funext fun k => funext fun l => dxF_split F i j k l)
end Go.Proofs.YtkdbhacimoaohaaGreatDoor
namespace Go.Proofs.YtkdbhacimoaohaaGreatDoor
open Go.RowKit
/-- The order of the powers: by i + j, then by j. -/
def KLt (a b : Nat × Nat) : Prop := a.1 + a.2 < b.1 + b.2 ∨ (a.1 + a.2 = b.1 + b.2 ∧ a.2 < b.2)
instance (a b : Nat × Nat) : Decidable (KLt a b) := by unfold KLt; exact inferInstance
theorem KLt.irrefl (a : Nat × Nat) : ¬ KLt a a := by unfold KLt; omega
theorem KLt.trans {a b c : Nat × Nat} (h : KLt a b) (g : KLt b c) : KLt a c := by unfold KLt at *; omega
theorem KLt.tri (a b : Nat × Nat) : KLt a b ∨ a = b ∨ KLt b a := by
 obtain ⟨a1, a2⟩ := a
 obtain ⟨b1, b2⟩ := b
 unfold KLt
 simp only [Prod.mk.injEq]
 omega
theorem KLt.add {a b c d : Nat × Nat} (h : ¬ KLt b a) (g : ¬ KLt d c) : ¬ KLt (b.1 + d.1, b.2 + d.2) (a.1 + c.1, a.2 + c.2) := by unfold KLt at *; simp only; omega
abbrev key (t : Nat × Nat × Rat) : Nat × Nat := (t.1, t.2.1)
/-- In strictly rising order, no coefficient 0. -/
structure NF (p : TL) : Prop where
 up : p.Pairwise fun s t => KLt (key s) (key t)
 nz : ∀ t ∈ p, t.2.2 ≠ 0
theorem NF.tail {t : Nat × Nat × Rat} {p : TL} (h : NF (t :: p)) : NF p := ⟨(List.pairwise_cons.1 h.up).2, fun u hu => h.nz u (mK hu)⟩
theorem NF.nil : NF [] := ⟨List.Pairwise.nil, fun t h => by cases h⟩
/-- 1 at one place. -/
def ind (k : Nat × Nat) : Nat → Nat → Rat := fun i j => if (i, j) = k then 1 else 0
theorem coef_none {p : TL} {k : Nat × Nat} (h : ∀ t ∈ p, key t ≠ k) : pair p (ind k) = 0 := by
 rw [← pair_zero p]
 exact pair_congr p fun t ht => by unfold ind; rw [if_neg (h t ht)]
theorem coef_head {t : Nat × Nat × Rat} {p : TL} (h : NF (t :: p)) : pair (t :: p) (ind (key t)) = t.2.2 := by
 simp only [pair]
 rw [coef_none fun u hu e => KLt.irrefl _ (by have := (List.pairwise_cons.1 h.up).1 u hu; rwa [e] at this)]
 unfold ind
 rw [if_pos rfl]; grind
theorem nf_uniq : ∀ {p q : TL}, NF p → NF q → Eqv p q → p = q
 | [], [], _, _, _ => rfl
 | [], t :: q, _, hq, e => by
  have h := e (ind (key t))
  rw [coef_head hq] at h
  exact absurd h.symm (hq.nz t mZ)
 | s :: p, [], hp, _, e => by
  have h := e (ind (key s))
  rw [coef_head hp] at h
  exact absurd h (hp.nz s mZ)
 | s :: p, t :: q, hp, hq, e => by
  have low : ∀ {s t : Nat × Nat × Rat} {p q : TL}, NF (s :: p) → NF (t :: q) → Eqv (s :: p) (t :: q) → ¬ KLt (key s) (key t) := by
   intro s t p q hp hq e hlt
   have h := e (ind (key s))
   rw [coef_head hp, coef_none (p := t :: q)] at h
   ·exact hp.nz s mZ h
   ·intro u hu e2
    rcases List.mem_cons.1 hu with rfl | hu
    ·rw [e2] at hlt; exact KLt.irrefl _ hlt
    ·have := hlt.trans ((List.pairwise_cons.1 hq.up).1 u hu)
     rw [e2] at this; exact KLt.irrefl _ this
  have hk : key s = key t := by
   rcases KLt.tri (key s) (key t) with h | h | h
   ·exact absurd h (low hp hq e)
   ·exact h
   ·exact absurd h (low hq hp e.symm)
  have hc : s.2.2 = t.2.2 := by
   have h := e (ind (key s))
   rw [coef_head hp, hk, coef_head hq] at h; exact h
  have hst : s = t := by
   obtain ⟨s1, s2, s3⟩ := s
   obtain ⟨t1, t2, t3⟩ := t
   simp only [key, Prod.mk.injEq] at hk hc ⊢
   exact ⟨hk.1, hk.2, hc⟩
  subst hst
  have ht : Eqv p q := fun F => by
   have h := e F
   simp only [pair] at h
   grind
  rw [nf_uniq hp.tail hq.tail ht]
/-- The greatest powers with a coefficient. -/
def TopK (p : TL) (m : Nat × Nat) : Prop := pair p (ind m) ≠ 0 ∧ ∀ k, KLt m k → pair p (ind k) = 0
theorem TopK.uniq {p : TL} {m n : Nat × Nat} (h : TopK p m) (g : TopK p n) : m = n := by
 rcases KLt.tri m n with q | q | q
 ·exact absurd (h.2 n q) g.1
 ·exact q
 ·exact absurd (g.2 m q) h.1
theorem nf_top : ∀ {p : TL} (hp : NF p) (h0 : p ≠ []), TopK p (key (p.getLast h0)) ∧ (∀ t ∈ p, ¬ KLt (key (p.getLast h0)) (key t))
 | [], _, h0 => absurd rfl h0
 | [t], hp, _ => by
  refine ⟨⟨by show pair [t] (ind (key t)) ≠ 0; rw [coef_head hp]; exact hp.nz t mZ, fun k hk => coef_none fun u hu e => ?_⟩, fun u hu => ?_⟩
  ·have : u = t := by simpa using hu
   rw [← e, this] at hk; exact KLt.irrefl _ hk
  ·have : u = t := by simpa using hu
   rw [this]; exact KLt.irrefl _
 | s :: t :: p, hp, _ => by
  obtain ⟨⟨h1, h2⟩, h3⟩ := nf_top hp.tail (List.cons_ne_nil t p)
  have hl : (s :: t :: p).getLast (List.cons_ne_nil _ _) = (t :: p).getLast (List.cons_ne_nil _ _) := rfl
  have hs : KLt (key s) (key ((t :: p).getLast (List.cons_ne_nil _ _))) := (List.pairwise_cons.1 hp.up).1 _ (List.getLast_mem _)
  have z : ∀ k, key s ≠ k → pair (s :: t :: p) (ind k) = pair (t :: p) (ind k) := fun k hk => by
   show s.2.2 * ind k s.1 s.2.1 + pair (t :: p) (ind k) = _
   have : ind k s.1 s.2.1 = 0 := if_neg hk
   rw [this]; grind
  refine ⟨⟨?_, fun k hk => ?_⟩, fun u hu => ?_⟩
  ·rw [hl, z _ (fun e => by rw [e] at hs; exact KLt.irrefl _ hs)]; exact h1
  ·rw [hl] at hk
   rw [z _ (fun e => KLt.irrefl _ (by have := hs.trans hk; rwa [e] at this))]
   exact h2 k hk
  ·rw [hl]
   rcases List.mem_cons.1 hu with rfl | hu
   ·exact fun h => KLt.irrefl _ (h.trans hs)
   ·exact h3 u hu
end Go.Proofs.YtkdbhacimoaohaaGreatDoor
namespace Go.Proofs.YtkdbhacimoaohaaGreatDoor
open Go.RowKit
def oneL : TL := [(0, 0, 1)]
theorem pair_one (F : Nat → Nat → Rat) : pair oneL F = F 0 0 := by unfold oneL; simp only [pair]; grind
def powL (u : TL) : Nat → TL
 | 0 => oneL
 | n + 1 => prodL (powL u n) u
theorem prod_one (p : TL) : Eqv (prodL p oneL) p := fun F => by
 rw [pair_prod]
 exact congrArg (pair p) (funext fun i => funext fun j => pair_one _)
theorem one_prod (p : TL) : Eqv (prodL oneL p) p := fun F => by
 rw [pair_prod, pair_one]
 exact congrArg (pair p) (funext fun i => funext fun j => by rw [Nat.zero_add, Nat.zero_add])
theorem powL_add (u : TL) (m : Nat) : ∀ n, Eqv (powL u (m + n)) (prodL (powL u m) (powL u n))
 | 0 => (prod_one _).symm
 | n + 1 => fun F => by
  show pair (prodL (powL u (m + n)) u) F = _
  rw [prod_eqv (powL_add u m n) (Eqv.refl u) F, prod_assoc]; rfl
/-- u^i v^j. -/
def mono (u v : TL) (i j : Nat) : TL := prodL (powL u i) (powL v j)
theorem prod_four (a b c d : TL) : Eqv (prodL (prodL a b) (prodL c d)) (prodL (prodL a c) (prodL b d)) := fun F => by
 rw [prod_assoc, prod_assoc, pair_prod, pair_prod (p := a)]
 refine congrArg (pair a) (funext fun i => funext fun j => ?_)
 rw [← prod_assoc b c d, ← prod_assoc c b d]
 exact prod_eqv (prod_comm b c) (Eqv.refl d) _
theorem mono_add (u v : TL) (i j k l : Nat) : Eqv (mono u v (i + k) (j + l)) (prodL (mono u v i j) (mono u v k l)) :=
 (prod_eqv (powL_add u i k) (powL_add v j l)).trans (prod_four _ _ _ _)
/-- p with u for x and v for y. -/
def subL (p u v : TL) : TL := p.flatMap fun t => scaleL t.2.2 (mono u v t.1 t.2.1)
theorem pair_sub (p u v : TL) (F : Nat → Nat → Rat) : pair (subL p u v) F = pair p (fun i j => pair (mono u v i j) F) := by
 induction p with
 | nil => rfl
 | cons t p ih =>
  unfold subL at ih ⊢
  rw [List.flatMap_cons, pair_append, pair_scale, ih]; rfl
theorem sub_eqv {p q : TL} (h : Eqv p q) (u v : TL) : Eqv (subL p u v) (subL q u v) := fun F => by rw [pair_sub, pair_sub, h]
theorem powL_eqv {u u' : TL} (h : Eqv u u') : ∀ n, Eqv (powL u n) (powL u' n)
 | 0 => Eqv.refl _
 | n + 1 => prod_eqv (powL_eqv h n) h
theorem sub_eqv2 (p : TL) {u u' v v' : TL} (h : Eqv u u') (g : Eqv v v') : Eqv (subL p u v) (subL p u' v') := fun F => by
 rw [pair_sub, pair_sub]
 exact congrArg (pair p) (funext fun i => funext fun j => prod_eqv (powL_eqv h i) (powL_eqv g j) F)
theorem at_one (x y : Rat) : atL oneL x y = 1 := by unfold atL; rw [pair_one, Rat.pow_zero, Rat.pow_zero]; grind
theorem at_pow (u : TL) (x y : Rat) : ∀ n, atL (powL u n) x y = atL u x y ^ n
 | 0 => by rw [Rat.pow_zero]; exact at_one x y
 | n + 1 => by show atL (prodL (powL u n) u) x y = _; rw [at_prod, at_pow u x y n, Rat.pow_succ]
/-- The value of a substitution is the value at the image. -/
theorem at_sub (p u v : TL) (x y : Rat) : atL (subL p u v) x y = atL p (atL u x y) (atL v x y) := by
 unfold atL
 rw [pair_sub]
 refine congrArg (pair p) (funext fun i => funext fun j => ?_)
 have h := at_prod (powL u i) (powL v j) x y
 rw [at_pow, at_pow] at h
 exact h
theorem sub_prod (a b u v : TL) : Eqv (subL (prodL a b) u v) (prodL (subL a u v) (subL b u v)) := fun F => by
 rw [pair_sub, pair_prod, pair_prod, pair_sub]
 refine congrArg (pair a) (funext fun i => funext fun j => ?_)
 have h : (fun m n => pair (subL b u v) fun k l => F (m + k) (n + l)) = fun m n => pair b fun k l => pair (mono u v k l) fun k l => F (m + k) (n + l) := by
  funext m n; exact pair_sub b u v _
 rw [h, pair_swap (mono u v i j) b (fun m n k l => pair (mono u v k l) fun k l => F (m + k) (n + l))]
 refine congrArg (pair b) (funext fun k => funext fun l => ?_)
 rw [mono_add u v i j k l F, pair_prod]
theorem sub_one (u v : TL) : Eqv (subL oneL u v) oneL := fun F => by
 rw [pair_sub, pair_one]
 exact prod_one oneL F
theorem sub_pow (w u v : TL) : ∀ n, Eqv (subL (powL w n) u v) (powL (subL w u v) n)
 | 0 => sub_one u v
 | n + 1 => (sub_prod (powL w n) w u v).trans (prod_eqv (sub_pow w u v n) (Eqv.refl _))
/-- Substitutions one behind the other. -/
theorem sub_sub (p u v s t : TL) : Eqv (subL (subL p u v) s t) (subL p (subL u s t) (subL v s t)) := fun F => by
 rw [pair_sub, pair_sub, pair_sub]
 refine congrArg (pair p) (funext fun i => funext fun j => ?_)
 have h := (sub_prod (powL u i) (powL v j) s t).trans (prod_eqv (sub_pow u s t i) (sub_pow v s t j)) F
 rw [pair_sub] at h
 exact h
theorem dy_pow_of {u : TL} {a : Rat} (D : TL → TL) (DF : (Nat → Nat → Rat) → Nat → Nat → Rat) (hD : ∀ p F, pair (D p) F = pair p (DF F)) (h0 : ∀ F, DF F 0 0 = 0) (hp : ∀ p q, Eqv (D (prodL p q)) (prodL (D p) q ++ prodL p (D q))) (h : Eqv (D u) [(0, 0, a)]) : ∀ n, Eqv (D (powL u n)) (scaleL (((n : Nat) : Rat) * a) (powL u (n - 1)))
 | 0 => fun F => by
  rw [hD, pair_scale]
  show pair oneL (DF F) = _
  rw [pair_one, h0]; first | (simp; done) | (simp; grind)
 | n + 1 => fun F => by
  show pair (D (prodL (powL u n) u)) F = _
  rw [hp, pair_append, prod_eqv (dy_pow_of D DF hD h0 hp h n) (Eqv.refl u) F, prod_eqv (Eqv.refl (powL u n)) h F, pair_prod, pair_scale, pair_scale, pair_prod (p := powL u n)]
  have e2 : pair (powL u n) (fun i j => pair [(0, 0, a)] fun k l => F (i + k) (j + l)) = a * pair (powL u n) F := by
   rw [← pair_mul]
   exact congrArg (pair (powL u n)) (funext fun i => funext fun j => by simp only [pair, Nat.add_zero]; grind)
  rw [e2, Nat.add_sub_cancel, Rat.natCast_add]
  cases n with
  | zero => first | (simp; done) | (simp; grind)
  | succ n =>
   have e1 : pair (powL u (n + 1 - 1)) (fun i j => pair u fun k l => F (i + k) (j + l)) = pair (powL u (n + 1)) F := (pair_prod (powL u n) u F).symm
   rw [e1]; grind
/-- The chain rule. -/
theorem chain {u v : TL} {a b : Rat} (D : TL → TL) (DF : (Nat → Nat → Rat) → Nat → Nat → Rat) (hD : ∀ p F, pair (D p) F = pair p (DF F)) (h0 : ∀ F, DF F 0 0 = 0) (hp : ∀ p q, Eqv (D (prodL p q)) (prodL (D p) q ++ prodL p (D q)))
  (hu : Eqv (D u) [(0, 0, a)]) (hv : Eqv (D v) [(0, 0, b)]) (p : TL) : Eqv (D (subL p u v)) (scaleL a (subL (dxL p) u v) ++ scaleL b (subL (dyL p) u v)) := fun F => by
 rw [hD, pair_sub, pair_append, pair_scale, pair_scale, pair_sub, pair_sub, pair_dx, pair_dy, ← pair_mul, ← pair_mul, ← pair_add]
 refine congrArg (pair p) (funext fun i => funext fun j => ?_)
 have h : pair (mono u v i j) (DF F) = pair (D (mono u v i j)) F := (hD _ F).symm
 rw [h]
 unfold mono
 rw [hp, pair_append, prod_eqv (dy_pow_of D DF hD h0 hp hu i) (Eqv.refl (powL v j)) F, prod_eqv (Eqv.refl (powL u i)) (dy_pow_of D DF hD h0 hp hv j) F, pair_prod, pair_scale, pair_prod]
 have e2 : pair (powL u i) (fun m n => pair (scaleL (((j : Nat) : Rat) * b) (powL v (j - 1))) fun k l => F (m + k) (n + l)) = ((j : Nat) : Rat) * b * pair (powL u i) (fun m n => pair (powL v (j - 1)) fun k l => F (m + k) (n + l)) := by
  rw [← pair_mul]
  exact congrArg (pair (powL u i)) (funext fun m => funext fun n => pair_scale _ _ _)
 rw [e2]
 unfold dxF dyF
 simp only []
 rw [pair_prod, pair_prod]
 grind
def TB (p : TL) (d : Nat) : Prop := ∀ t ∈ p, t.1 + t.2.1 ≤ d
theorem tb_prod {p q : TL} {a b : Nat} (h : TB p a) (g : TB q b) : TB (prodL p q) (a + b) := by
 induction p with
 | nil => intro t ht; cases ht
 | cons s p ih =>
  intro t ht
  rcases List.mem_append.1 ht with h1 | h1
  ·obtain ⟨u, hu, rfl⟩ := List.mem_map.1 h1
   have := h s mZ
   have := g u hu
   show s.1 + u.1 + (s.2.1 + u.2.1) ≤ a + b
   omega
  ·exact ih (fun x hx => h x (mK hx)) t h1
theorem tb_one : TB oneL 0 := by
 intro t ht
 unfold oneL at ht
 have : t = (0, 0, 1) := by simpa using ht
 rw [this]; decide
theorem tb_pow {u : TL} (h : TB u 1) : ∀ n, TB (powL u n) n
 | 0 => tb_one
 | n + 1 => tb_prod (tb_pow h n) h
theorem tb_sub {p u v : TL} {d : Nat} (hp : TB p d) (hu : TB u 1) (hv : TB v 1) : TB (subL p u v) d := by
 intro t ht
 obtain ⟨s, hs, h1⟩ := List.mem_flatMap.1 ht
 obtain ⟨x, hx, rfl⟩ := List.mem_map.1 h1
 have h2 := tb_prod (tb_pow hu s.1) (tb_pow hv s.2.1) x hx
 have := hp s hs
 show x.1 + x.2.1 ≤ d
 omega
end Go.Proofs.YtkdbhacimoaohaaGreatDoor
namespace Go.Proofs.YtkdbhacimoaohaaGreatDoor
open Go.RowKit
theorem dxF_zero (F : Nat → Nat → Rat) : dxF F 0 0 = 0 := by unfold dxF; first | (simp; done) | (simp; grind)
/-- a x + b y + c. -/
def linL (a b c : Rat) : TL := [(1, 0, a), (0, 1, b), (0, 0, c)]
theorem tb_lin (a b c : Rat) : TB (linL a b c) 1 := by
 intro t ht
 unfold linL at ht
 simp only [List.mem_cons, List.not_mem_nil, or_false] at ht
 rcases ht with rfl | rfl | rfl
 ·exact Nat.le_refl 1
 ·exact Nat.le_refl 1
 ·exact Nat.zero_le 1
theorem at_lin (a b c x y : Rat) : atL (linL a b c) x y = a * x + b * y + c := by
 unfold atL linL
 simp only [pair]
 have h1 : ∀ z : Rat, z ^ 1 = z := fun z => by rw [Rat.pow_succ, Rat.pow_zero, Rat.one_mul]
 rw [h1, h1, Rat.pow_zero, Rat.pow_zero]; grind
theorem dx_lin (a b c : Rat) : Eqv (dxL (linL a b c)) [(0, 0, a)] := fun F => by
 rw [pair_dx]; unfold linL dxF; simp only [pair]; first | (simp; done) | (simp; grind)
/-- The chain rule for affine substitutions. -/
theorem chain_x (p : TL) (a b c d f g : Rat) : Eqv (dxL (subL p (linL a b c) (linL d f g))) (scaleL a (subL (dxL p) (linL a b c) (linL d f g)) ++ scaleL d (subL (dyL p) (linL a b c) (linL d f g))) :=
 chain dxL dxF pair_dx dxF_zero dx_prod (dx_lin a b c) (dx_lin d f g) p
def sumN : Nat → (Nat → Rat) → Rat
 | 0, _ => 0
 | n + 1, f => sumN n f + f n
theorem sumN_congr {f g : Nat → Rat} : ∀ {n : Nat}, (∀ i, i < n → f i = g i) → sumN n f = sumN n g
 | 0, _ => rfl
 | n + 1, h => by simp only [sumN]; rw [sumN_congr fun i hi => h i (by omega), h n (by omega)]
theorem sumN_zero : ∀ n, sumN n (fun _ => 0) = 0
 | 0 => rfl
 | n + 1 => by simp only [sumN, sumN_zero n]; grind
theorem sumN_add (f g : Nat → Rat) : ∀ n, sumN n (fun i => f i + g i) = sumN n f + sumN n g
 | 0 => by simp only [sumN]; grind
 | n + 1 => by simp only [sumN, sumN_add f g n]; grind
theorem sumN_shift (f : Nat → Rat) : ∀ n, sumN (n + 1) f = f 0 + sumN n (fun i => f (i + 1))
 | 0 => by simp only [sumN]; grind
 | n + 1 => by
  show sumN (n + 1) f + f (n + 1) = _
  rw [sumN_shift f n]; simp only [sumN]; grind
theorem sumN_pick {f : Nat → Rat} : ∀ {n k : Nat}, k < n → (∀ i, i < n → i ≠ k → f i = 0) → sumN n f = f k
 | n + 1, k, hk, h => by
  simp only [sumN]
  by_cases e : k = n
  ·subst e
   rw [sumN_congr (g := fun _ => 0) fun i hi => h i (by omega) (by omega), sumN_zero]; grind
  ·rw [sumN_pick (n := n) (k := k) (by omega) fun i hi => h i (by omega), h n (by omega) (fun q => e q.symm)]; grind
/-- A polynomial by its coefficients. -/
theorem expand (d : Nat) (G : Nat → Nat → Rat) : ∀ p : TL, TB p d → pair p G = sumN (d + 1) (fun i => sumN (d - i + 1) fun j => pair p (ind (i, j)) * G i j)
 | [], _ => by
  rw [sumN_congr (g := fun _ => 0) fun i _ => (sumN_congr (g := fun _ => 0) fun j _ => by simp only [pair]; grind).trans (sumN_zero _), sumN_zero]; rfl
 | t :: p, h => by
  have ih := expand d G p fun u hu => h u (mK hu)
  have ht := h t mZ
  have e : ∀ i, (sumN (d - i + 1) fun j => pair (t :: p) (ind (i, j)) * G i j) = (sumN (d - i + 1) fun j => t.2.2 * ind (i, j) t.1 t.2.1 * G i j) + (sumN (d - i + 1) fun j => pair p (ind (i, j)) * G i j) := fun i => by
   rw [← sumN_add]
   exact sumN_congr fun j _ => by simp only [pair]; grind
  rw [sumN_congr fun i _ => e i, sumN_add, ← ih]
  show t.2.2 * G t.1 t.2.1 + pair p G = _
  congr 1
  rw [sumN_pick (k := t.1) (by omega), sumN_pick (k := t.2.1) (by omega)]
  ·unfold ind; rw [if_pos rfl]; grind
  ·intro j _ hj
   unfold ind; rw [if_neg (by simp only [Prod.mk.injEq]; omega)]; grind
  ·intro i _ hi
   refine (sumN_congr (g := fun _ => 0) fun j _ => ?_).trans (sumN_zero _)
   unfold ind; rw [if_neg (by simp only [Prod.mk.injEq]; omega)]; grind
/-- What Horner's scheme has after k rounds. -/
def hornL (d : Nat) (u : TL) (co : Nat → TL) : Nat → TL
 | 0 => []
 | k + 1 => prodL (hornL d u co k) u ++ co (d - k)
theorem horn_sum (d : Nat) (u : TL) (co : Nat → TL) (F : Nat → Nat → Rat) : ∀ k, k ≤ d + 1 → ∀ w : TL, pair (prodL (hornL d u co k) w) F = sumN k fun m => pair (prodL (prodL (co (d + 1 - k + m)) (powL u m)) w) F
 | 0, _, w => rfl
 | k + 1, hk, w => by
  have e1 : Eqv (prodL (hornL d u co (k + 1)) w) (prodL (hornL d u co k) (prodL u w) ++ prodL (co (d - k)) w) := fun F => by
   show pair (prodL (prodL (hornL d u co k) u ++ co (d - k)) w) F = _
   rw [prod_comm, prod_add, pair_append, pair_append, prod_comm w, prod_comm w, prod_assoc]
  rw [e1, pair_append, horn_sum d u co F k (by omega), sumN_shift]
  have e0 : pair (prodL (prodL (co (d + 1 - (k + 1) + 0)) (powL u 0)) w) F = pair (prodL (co (d - k)) w) F := by
   rw [show d + 1 - (k + 1) + 0 = d - k by omega]
   exact prod_eqv (prod_one _) (Eqv.refl w) F
  rw [e0, Rat.add_comm]
  congr 1
  refine sumN_congr fun m hm => ?_
  rw [show d + 1 - (k + 1) + (m + 1) = d + 1 - k + m by omega]
  show _ = pair (prodL (prodL (co (d + 1 - k + m)) (prodL (powL u m) u)) w) F
  rw [← prod_assoc _ u w F]
  exact prod_eqv (prod_assoc _ _ _) (Eqv.refl w) F
theorem horn_all (d : Nat) (u : TL) (co : Nat → TL) (F : Nat → Nat → Rat) : pair (hornL d u co (d + 1)) F = sumN (d + 1) fun m => pair (prodL (co m) (powL u m)) F := by
 rw [← prod_one (hornL d u co (d + 1)) F, horn_sum d u co F (d + 1) (Nat.le_refl _) oneL]
 refine sumN_congr fun m _ => ?_
 rw [prod_one, show d + 1 - (d + 1) + m = m by omega]
/-- Horner's scheme in both letters is the substitution. -/
theorem horn_sub (p u v : TL) (d : Nat) (hp : TB p d) : Eqv (hornL d u (fun i => hornL (d - i) v (fun j => [(0, 0, pair p (ind (i, j)))]) (d - i + 1)) (d + 1)) (subL p u v) := fun F => by
 rw [horn_all, pair_sub, expand d _ p hp]
 refine sumN_congr fun i hi => ?_
 rw [pair_prod, horn_all]
 refine sumN_congr fun j hj => ?_
 rw [pair_prod]
 simp only [pair]
 unfold mono
 rw [prod_comm, pair_prod]
 have e : ∀ a b c : Nat, a + 0 + b = a + b := fun a b _ => by omega
 simp only [Nat.zero_add]
 grind
end Go.Proofs.YtkdbhacimoaohaaGreatDoor
namespace Go.Proofs.YtkdbhacimoaohaaGreatDoor
theorem eqv_of_coef {p q : TL} {d : Nat} (hp : TB p d) (hq : TB q d) (h : ∀ i j, pair p (ind (i, j)) = pair q (ind (i, j))) : Eqv p q := fun F => by
 rw [expand d F p hp, expand d F q hq]; simp only [h]
theorem key_ext {s t : Nat × Nat × Rat} (h : key s = key t) : s.1 = t.1 ∧ s.2.1 = t.2.1 := by simpa [key] using h
/-- A term put into a normal form. -/
def insT (t : Nat × Nat × Rat) : TL → TL
 | [] => if t.2.2 = 0 then [] else [t]
 | u :: p => if KLt (key t) (key u) then (if t.2.2 = 0 then u :: p else t :: u :: p)
  else if key t = key u then (if t.2.2 + u.2.2 = 0 then p else (u.1, u.2.1, t.2.2 + u.2.2) :: p)
  else u :: insT t p
def nfL : TL → TL
 | [] => []
 | t :: p => insT t (nfL p)
theorem ins_key (t : Nat × Nat × Rat) : ∀ (p : TL), ∀ u ∈ insT t p, key u = key t ∨ ∃ v ∈ p, key u = key v
 | [], u, hu => by
  unfold insT at hu
  split at hu
  ·cases hu
  ·rw [List.mem_singleton.1 hu]; exact .inl rfl
 | v :: p, u, hu => by
  unfold insT at hu
  split at hu
  ·split at hu
   ·exact .inr ⟨u, hu, rfl⟩
   ·rcases List.mem_cons.1 hu with rfl | hu
    ·exact .inl rfl
    ·exact .inr ⟨u, hu, rfl⟩
  ·split at hu
   ·split at hu
    ·exact .inr ⟨u, mK hu, rfl⟩
    ·rcases List.mem_cons.1 hu with rfl | hu
     ·exact .inr ⟨v, mZ, rfl⟩
     ·exact .inr ⟨u, mK hu, rfl⟩
   ·rcases List.mem_cons.1 hu with rfl | hu
    ·exact .inr ⟨u, mZ, rfl⟩
    ·rcases ins_key t p u hu with h | ⟨x, hx, h⟩
     ·exact .inl h
     ·exact .inr ⟨x, mK hx, h⟩
theorem ins_nf (t : Nat × Nat × Rat) : ∀ {p : TL}, NF p → NF (insT t p)
 | [], h => by
  unfold insT
  split
  ·exact NF.nil
  ·rename_i hc
   exact ⟨List.pairwise_cons.2 ⟨fun _ h => (by cases h), List.Pairwise.nil⟩, fun u hu => by rw [List.mem_singleton.1 hu]; exact hc⟩
 | u :: p, h => by
  have hu := List.pairwise_cons.1 h.up
  unfold insT
  split
  ·rename_i hk
   split
   ·exact h
   ·rename_i hc
    refine ⟨List.pairwise_cons.2 ⟨fun x hx => ?_, h.up⟩, fun x hx => ?_⟩
    ·rcases List.mem_cons.1 hx with rfl | hx
     ·exact hk
     ·exact KLt.trans hk (hu.1 x hx)
    ·rcases List.mem_cons.1 hx with rfl | hx
     ·exact hc
     ·exact h.nz x hx
  ·rename_i hk
   split
   ·rename_i he
    split
    ·exact h.tail
    ·rename_i hc
     refine ⟨List.pairwise_cons.2 ⟨fun x hx => hu.1 x hx, hu.2⟩, fun x hx => ?_⟩
     rcases List.mem_cons.1 hx with rfl | hx
     ·exact hc
     ·exact h.nz x (mK hx)
   ·rename_i he
    have ih := ins_nf t h.tail
    refine ⟨List.pairwise_cons.2 ⟨fun x hx => ?_, ih.up⟩, fun x hx => ?_⟩
    ·rcases ins_key t p x hx with h1 | ⟨y, hy, h1⟩
     ·show KLt (key u) (key x)
      rw [h1]
      rcases KLt.tri (key t) (key u) with h2 | h2 | h2
      ·exact absurd h2 hk
      ·exact absurd h2 he
      ·exact h2
     ·show KLt (key u) (key x)
      rw [h1]; exact hu.1 y hy
    ·rcases List.mem_cons.1 hx with rfl | hx
     ·exact h.nz x mZ
     ·exact ih.nz x hx
theorem ins_eqv (t : Nat × Nat × Rat) (F : Nat → Nat → Rat) : ∀ (p : TL), pair (insT t p) F = t.2.2 * F t.1 t.2.1 + pair p F
 | [] => by
  unfold insT
  split
  ·rename_i h; simp only [pair, h]; grind
  ·simp only [pair]
 | u :: p => by
  unfold insT
  split
  ·split
   ·rename_i h; rw [h]; grind
   ·simp only [pair]
  ·split
   ·rename_i he
    obtain ⟨e1, e2⟩ := key_ext he
    split
    ·rename_i hc
     simp only [pair, e1, e2]
     have : t.2.2 * F u.1 u.2.1 + u.2.2 * F u.1 u.2.1 = 0 := by rw [← Rat.add_mul, hc, Rat.zero_mul]
     grind
    ·simp only [pair, e1, e2]; grind
   ·simp only [pair]
    rw [ins_eqv t F p]; grind
theorem nfL_nf : ∀ p : TL, NF (nfL p)
 | [] => NF.nil
 | t :: p => ins_nf t (nfL_nf p)
theorem nfL_eqv : ∀ p : TL, Eqv (nfL p) p
 | [] => Eqv.refl _
 | t :: p => fun F => by
  show pair (insT t (nfL p)) F = _
  rw [ins_eqv, nfL_eqv p F]; rfl
theorem nfL_of {p q : TL} (hp : NF p) (h : Eqv p q) : nfL q = p := nf_uniq (nfL_nf q) hp ((nfL_eqv q).trans h.symm)
theorem nfL_self {p : TL} (hp : NF p) : nfL p = p := nfL_of hp (Eqv.refl p)
theorem nfL_key : ∀ (p : TL), ∀ u ∈ nfL p, ∃ v ∈ p, key u = key v
 | [], u, h => by cases h
 | t :: p, u, h => by
  rcases ins_key t (nfL p) u h with h1 | ⟨v, hv, h1⟩
  ·exact ⟨t, mZ, h1⟩
  ·obtain ⟨x, hx, h2⟩ := nfL_key p v hv
   exact ⟨x, mK hx, h1.trans h2⟩
theorem tb_nfL {p : TL} {d : Nat} (h : TB p d) : TB (nfL p) d := fun u hu => by
 obtain ⟨v, hv, e⟩ := nfL_key p u hu
 obtain ⟨e1, e2⟩ := key_ext e
 rw [e1, e2]; exact h v hv
theorem ins_len (t : Nat × Nat × Rat) : ∀ q : TL, (insT t q).length ≤ q.length + 1
 | [] => by unfold insT; split <;> simp
 | u :: q => by
  have ih := ins_len t q
  unfold insT
  split
  ·split <;> simp only [List.length_cons] <;> omega
  ·split
   ·split <;> simp only [List.length_cons] <;> omega
   ·simp only [List.length_cons]; omega
theorem nfL_len : ∀ p : TL, (nfL p).length ≤ p.length
 | [] => Nat.le_refl _
 | t :: p => by
  have := nfL_len p
  have h1 := ins_len t (nfL p)
  show (insT t (nfL p)).length ≤ _
  rw [List.length_cons]; omega
end Go.Proofs.YtkdbhacimoaohaaGreatDoor
namespace Go.Proofs.YtkdbhacimoaohaaGreatDoor
open Go.RowKit
attribute [local irreducible] lo hs sm s64 c64 d64 b64 mh ml pd pc qd qc val hiB str cmpI srD lz nb zl zh zs
theorem cls_box {α : Type} {F : α → World} {z : World} (h1 : ∀ x, Below z.heap.size z (F x)) {w : World} {L : List (Nat × List Value)} (hL : GL w z L) (k : Nat) (c : List Value) (hm : (k, c) ∈ L) : cellsC F k 0 c :=
 cellsC_of c 0 fun x => cells_of c 0 [] rfl ((hL.get k c hm).below (h1 x))
end Go.Proofs.YtkdbhacimoaohaaGreatDoor
namespace Go.Proofs.YtkdbhacimoaohaaGreatDoor
open Go.RowKit
attribute [local irreducible] lo hs sm s64 c64 d64 b64 mh ml pd pc qd qc val hiB str cmpI srD lz nb zl zh zs dval
end Go.Proofs.YtkdbhacimoaohaaGreatDoor
namespace Go.Proofs.YtkdbhacimoaohaaGreatDoor
open Go.RowKit
attribute [local irreducible] lo hs zl zh zs
theorem Ws.len {w : World} {a : Option Addr} {n c : Nat} {l : List Nat} (h : Ws w (.slice a n c) l) : l.length = n := by
 rcases h with ⟨ao, c1, h1, h2⟩ | ⟨a1, c1, h1, h2⟩
 ·simp only [Value.slice.injEq] at h1; rw [h2, h1.2.1]; rfl
 ·simp only [Value.slice.injEq] at h1; rw [h1.2.1]
end Go.Proofs.YtkdbhacimoaohaaGreatDoor
namespace Go.Proofs.YtkdbhacimoaohaaGreatDoor
open Go.RowKit
attribute [local irreducible] lo hs sm s64 c64 d64 b64 mh ml pd pc qd qc val hiB str cmpI srD lz nb zl zh zs
theorem whole_yes (n : Int) (w : World) :
  Calls Tryz.prog 91 #[frV n 0] w fun xe w' => xe = .returned (.bool true) ∧ Below w.heap.size w w' := by
 have hL0 : GL w w [] := GL.start w
 have e0 : (((lo 0 : Nat) : Int) == 0) = true := by rw [lo_small Bs_pos]; rfl
 have e1 : ((hs 0).toList == []) = true := by rw [hs_small Bs_pos, ByteArray.toList_eq]; rfl
 obtain ⟨x1, hweq, hL0⟩ := GL.named (hL0.new rfl [.int .u64 ((zl n : Nat) : Int), .string (zh n), .bool (zs n), .int .u64 ((lo 0 : Nat) : Int), .string (hs 0)] 38)
 go_enter Tryz.func91, Tryz.ntmps91
 have hN0 := cells_of _ 0 [] rfl (hL0.get _ _ mZ)
 simp only [zF, Nat.reduceAdd] at hN0
 go_wp2_with fail
 exact bodyPost_ret (v := .bool true) (by simp [results, Tryz.results91, go_sem, hN0]) rfl ⟨rfl, hL0.bl⟩
theorem whole_no (n : Int) (e : Nat) (he : e ≠ 0) (w : World) :
  Calls Tryz.prog 91 #[frV n e] w fun xe w' => xe = .returned (.bool false) ∧ Below w.heap.size w w' := by
 have hL0 : GL w w [] := GL.start w
 have hz := ne0 he
 clear he
 rcases hz with e0 | ⟨e0, e1⟩
 all_goals (
  obtain ⟨x1, hweq, hL0⟩ := GL.named (hL0.new rfl [.int .u64 ((zl n : Nat) : Int), .string (zh n), .bool (zs n), .int .u64 ((lo e : Nat) : Int), .string (hs e)] 38)
  go_enter Tryz.func91, Tryz.ntmps91
  have hN0 := cells_of _ 0 [] rfl (hL0.get _ _ mZ)
  simp only [zF, Nat.reduceAdd] at hN0
  go_wp2_with fail
  exact bodyPost_ret (v := .bool false) (by simp [results, Tryz.results91, go_sem, hN0]) rfl ⟨rfl, hL0.bl⟩)
theorem den_one_w (n : Int) (HW : RT 91 #[frV n 0] (.bool true)) (HO : RT 88 #[.int .u64 1] (natV 1)) (w : World) :
  Calls Tryz.prog 63 #[frV n 0] w fun xe w' => xe = .returned (natV 1) ∧ Below w.heap.size w w' := by
 have hL0 : GL w w [] := GL.start w
 replace HW := Lib.hid HW
 replace HO := Lib.hid HO
 obtain ⟨x1, hweq, hL0⟩ := GL.named ((hL0.new rfl [.int .u64 ((zl n : Nat) : Int), .string (zh n), .bool (zs n), .int .u64 ((lo 0 : Nat) : Int), .string (hs 0)] 38).new (K := w.heap.size + 1) (szA _ _) [.int .u64 0, .string ⟨#[]⟩] 34)
 go_enter Tryz.func63, Tryz.ntmps63
 have hN0 := cells_of _ 0 [] rfl (hL0.get _ _ (mK mZ))
 simp only [zF, Nat.reduceAdd] at hN0
 go_wp2_with fail
 clear hN0
 with_reducible refine Calls.mono (HW.out _) ?_
 rintro e x2 ⟨rfl, hb⟩
 replace hL0 := hL0.call hb
 clear hb hweq
 go_wp2_with fail
 with_reducible refine Calls.mono (HO.out _) ?_
 rintro e x3 ⟨rfl, hb⟩
 replace hL0 := hL0.call hb
 clear hb
 have hA := hL0.fc
 simp only [zF, Nat.reduceAdd] at hA
 obtain ⟨x4, hput1, hP⟩ := GL.named (hL0.put 0 (w.heap.size + 1) _ rfl [.int .u64 ((lo 1 : Nat) : Int), .string (hs 1)] rfl)
 simp only [setAll] at hput1
 simp only [List.set_cons_zero, List.set_cons_succ] at hP
 have hB1 := hP.fc
 simp only [zF, Nat.reduceAdd] at hB1
 replace hL0 := hP
 go_wp2_with fail
 exact bodyPost_ret (v := natV 1) (by simp [results, Tryz.results63, go_sem, hB1]) rfl ⟨rfl, hL0.bl⟩
theorem den_part_w (n : Int) (e : Nat) (HW : RT 91 #[frV n e] (.bool false)) (w : World) :
  Calls Tryz.prog 63 #[frV n e] w fun xe w' => xe = .returned (natV e) ∧ Below w.heap.size w w' := by
 have hL0 : GL w w [] := GL.start w
 replace HW := Lib.hid HW
 obtain ⟨x1, hweq, hL0⟩ := GL.named ((hL0.new rfl [.int .u64 ((zl n : Nat) : Int), .string (zh n), .bool (zs n), .int .u64 ((lo e : Nat) : Int), .string (hs e)] 38).new (K := w.heap.size + 1) (szA _ _) [.int .u64 0, .string ⟨#[]⟩] 34)
 go_enter Tryz.func63, Tryz.ntmps63
 have hN0 := cells_of _ 0 [] rfl (hL0.get _ _ (mK mZ))
 simp only [zF, Nat.reduceAdd] at hN0
 go_wp2_with fail
 clear hN0
 with_reducible refine Calls.mono (HW.out _) ?_
 rintro e x2 ⟨rfl, hb⟩
 replace hL0 := hL0.call hb
 clear hb hweq
 have hA := hL0.fc
 simp only [zF, Nat.reduceAdd] at hA
 obtain ⟨x3, hput1, hP⟩ := GL.named (hL0.put 0 (w.heap.size + 1) _ rfl [.int .u64 ((lo e : Nat) : Int), .string (hs e)] rfl)
 simp only [setAll] at hput1
 simp only [List.set_cons_zero, List.set_cons_succ] at hP
 have hB1 := hP.fc
 simp only [zF, Nat.reduceAdd] at hB1
 replace hL0 := hP
 go_wp2_with fail
 exact bodyPost_ret (v := natV e) (by simp [results, Tryz.results63, go_sem, hB1]) rfl ⟨rfl, hL0.bl⟩
theorem lowest_one (n : Int) (HO : RT 88 #[.int .u64 1] (natV 1)) (w : World) :
  Calls Tryz.prog 64 #[intV n, natV 1] w fun xe w' => xe = .returned (.agg #[.int .u64 ((zl n : Nat) : Int), .string (zh n), .bool (zs n), .int .u64 0, .string ⟨#[]⟩]) ∧ Below w.heap.size w w' := by
 have hL0 : GL w w [] := GL.start w
 replace HO := Lib.hid HO
 obtain ⟨x1, hweq, hL0⟩ := GL.named (((hL0.new rfl [.int .u64 ((zl n : Nat) : Int), .string (zh n), .bool (zs n)] 36).new (K := w.heap.size + 1) (szA _ _) [.int .u64 ((lo 1 : Nat) : Int), .string (hs 1)] 34).new (K := w.heap.size + 1 + 1) (by simp only [World.size_alloc]) [.int .u64 0, .string ⟨#[]⟩, .bool false, .int .u64 0, .string ⟨#[]⟩] 38)
 go_enter Tryz.func64, Tryz.ntmps64
 go_upto_region 1 with fail
 clear hweq
 obtain ⟨α, iα, F, hF1, hF2⟩ := cls x1
 have hq0 := cls_box hF1 hL0 _ _ (mK mZ)
 simp only [zC, Nat.reduceAdd] at hq0
 refine region_qs 3 (C := fun w' => ∃ x, w' = F x) (by kernel_rfl) (by kernel_rfl) (cls_drew hF2) ?_
 simp only [zT]
 repeat (go_big_quiet_step (first | fail | (go_at_call 88; with_reducible exact cls_call hF1 hF2 HO.out _)))
 refine wpQuiet_nil ?_
 rintro wq ⟨xq, rfl⟩
 replace hL0 := hL0.call (hF1 xq)
 clear  hq0 hF2
 generalize F xq = x2 at hL0 ⊢
 clear hF1 xq iα F α
 have hA := hL0.fc
 simp only [zF, Nat.reduceAdd] at hA
 obtain ⟨x3, hput1, hP⟩ := GL.named (hL0.put 0 (w.heap.size + 1 + 1) _ rfl [.int .u64 ((zl n : Nat) : Int), .string (zh n), .bool (zs n), .int .u64 0, .string ⟨#[]⟩] rfl)
 simp only [setAll] at hput1
 simp only [List.set_cons_zero, List.set_cons_succ] at hP
 have hB1 := hP.fc
 simp only [zF, Nat.reduceAdd] at hB1
 replace hL0 := hP
 go_wp2_with fail
 exact bodyPost_ret (v := .agg #[.int .u64 ((zl n : Nat) : Int), .string (zh n), .bool (zs n), .int .u64 0, .string ⟨#[]⟩]) (by simp [results, Tryz.results64, go_sem, hB1]) rfl ⟨rfl, hL0.bl⟩
theorem lowest_part (n : Int) (d : Nat) (HO : RT 88 #[.int .u64 1] (natV 1)) (hd : d ≠ 1) (w : World) :
  Calls Tryz.prog 64 #[intV n, natV d] w fun xe w' => xe = .returned (frV n d) ∧ Below w.heap.size w w' := by
 have hL0 : GL w w [] := GL.start w
 replace HO := Lib.hid HO
 have hz := ne_nat hd
 clear hd
 rcases hz with e0 | ⟨e0, e1⟩
 all_goals (
  obtain ⟨x1, hweq, hL0⟩ := GL.named (((hL0.new rfl [.int .u64 ((zl n : Nat) : Int), .string (zh n), .bool (zs n)] 36).new (K := w.heap.size + 1) (szA _ _) [.int .u64 ((lo d : Nat) : Int), .string (hs d)] 34).new (K := w.heap.size + 1 + 1) (by simp only [World.size_alloc]) [.int .u64 0, .string ⟨#[]⟩, .bool false, .int .u64 0, .string ⟨#[]⟩] 38)
  go_enter Tryz.func64, Tryz.ntmps64
  go_upto_region 1 with fail
  clear hweq
  obtain ⟨α, iα, F, hF1, hF2⟩ := cls x1
  have hq0 := cls_box hF1 hL0 _ _ (mK mZ)
  simp only [zC, Nat.reduceAdd] at hq0
  refine region_qs 3 (C := fun w' => ∃ x, w' = F x) (by kernel_rfl) (by kernel_rfl) (cls_drew hF2) ?_
  simp only [zT]
  repeat (go_big_quiet_step (first | fail | (go_at_call 88; with_reducible exact cls_call hF1 hF2 HO.out _)))
  refine wpQuiet_nil ?_
  rintro wq ⟨xq, rfl⟩
  replace hL0 := hL0.call (hF1 xq)
  clear  hq0 hF2
  generalize F xq = x2 at hL0 ⊢
  clear hF1 xq iα F α
  have hA := hL0.fc
  simp only [zF, Nat.reduceAdd] at hA
  obtain ⟨x3, hput1, hP⟩ := GL.named (hL0.put 0 (w.heap.size + 1 + 1) _ rfl [.int .u64 ((zl n : Nat) : Int), .string (zh n), .bool (zs n), .int .u64 ((lo d : Nat) : Int), .string (hs d)] rfl)
  simp only [setAll] at hput1
  simp only [List.set_cons_zero, List.set_cons_succ] at hP
  have hB1 := hP.fc
  simp only [zF, Nat.reduceAdd] at hB1
  replace hL0 := hP
  go_wp2_with fail
  exact bodyPost_ret (v := frV n d) (by simp [results, Tryz.results64, go_sem, hB1]) rfl ⟨rfl, hL0.bl⟩)
theorem pon_one (n : Nat) (HO : RT 88 #[.int .u64 1] (natV 1)) (w : World) :
  Calls Tryz.prog 81 #[natV n, natV 1] w fun xe w' => xe = .returned (natV n) ∧ Below w.heap.size w w' := by
 have hL0 : GL w w [] := GL.start w
 replace HO := Lib.hid HO
 obtain ⟨x1, hweq, hL0⟩ := GL.named (((hL0.new rfl [.int .u64 ((lo n : Nat) : Int), .string (hs n)] 34).new (K := w.heap.size + 1) (szA _ _) [.int .u64 ((lo 1 : Nat) : Int), .string (hs 1)] 34).new (K := w.heap.size + 1 + 1) (by simp only [World.size_alloc]) [.int .u64 0, .string ⟨#[]⟩] 34)
 go_enter Tryz.func81, Tryz.ntmps81
 go_upto_region 1 with fail
 clear hweq
 obtain ⟨α, iα, F, hF1, hF2⟩ := cls x1
 have hq0 := cls_box hF1 hL0 _ _ (mK mZ)
 simp only [zC, Nat.reduceAdd] at hq0
 refine region_qs 3 (C := fun w' => ∃ x, w' = F x) (by kernel_rfl) (by kernel_rfl) (cls_drew hF2) ?_
 simp only [zT]
 repeat (go_big_quiet_step (first | fail | (go_at_call 88; with_reducible exact cls_call hF1 hF2 HO.out _)))
 refine wpQuiet_nil ?_
 rintro wq ⟨xq, rfl⟩
 replace hL0 := hL0.call (hF1 xq)
 clear  hq0 hF2
 generalize F xq = x2 at hL0 ⊢
 clear hF1 xq iα F α
 have hA := hL0.fc
 simp only [zF, Nat.reduceAdd] at hA
 obtain ⟨x3, hput1, hP⟩ := GL.named (hL0.put 0 (w.heap.size + 1 + 1) _ rfl [.int .u64 ((lo n : Nat) : Int), .string (hs n)] rfl)
 simp only [setAll] at hput1
 simp only [List.set_cons_zero, List.set_cons_succ] at hP
 have hB1 := hP.fc
 simp only [zF, Nat.reduceAdd] at hB1
 replace hL0 := hP
 go_wp2_with fail
 exact bodyPost_ret (v := natV n) (by simp [results, Tryz.results81, go_sem, hB1]) rfl ⟨rfl, hL0.bl⟩
theorem pon_div (n d q r : Nat) (HO : RT 88 #[.int .u64 1] (natV 1)) (HD : RT 110 #[natV n, natV d] (.tuple #[natV q, natV r, .bool true])) (hd : d ≠ 1) (w : World) :
  Calls Tryz.prog 81 #[natV n, natV d] w fun xe w' => xe = .returned (natV q) ∧ Below w.heap.size w w' := by
 have hL0 : GL w w [] := GL.start w
 replace HO := Lib.hid HO
 replace HD := Lib.hid HD
 have hz := ne_nat hd
 clear hd
 rcases hz with e0 | ⟨e0, e1⟩
 all_goals (
  obtain ⟨x1, hweq, hL0⟩ := GL.named (((hL0.new rfl [.int .u64 ((lo n : Nat) : Int), .string (hs n)] 34).new (K := w.heap.size + 1) (szA _ _) [.int .u64 ((lo d : Nat) : Int), .string (hs d)] 34).new (K := w.heap.size + 1 + 1) (by simp only [World.size_alloc]) [.int .u64 0, .string ⟨#[]⟩] 34)
  go_enter Tryz.func81, Tryz.ntmps81
  go_upto_region 1 with fail
  clear hweq
  obtain ⟨α, iα, F, hF1, hF2⟩ := cls x1
  have hq0 := cls_box hF1 hL0 _ _ (mK mZ)
  simp only [zC, Nat.reduceAdd] at hq0
  refine region_qs 3 (C := fun w' => ∃ x, w' = F x) (by kernel_rfl) (by kernel_rfl) (cls_drew hF2) ?_
  simp only [zT]
  repeat (go_big_quiet_step (first | fail | (go_at_call 88; with_reducible exact cls_call hF1 hF2 HO.out _)))
  refine wpQuiet_nil ?_
  rintro wq ⟨xq, rfl⟩
  replace hL0 := hL0.call (hF1 xq)
  clear  hq0 hF2
  generalize F xq = x2 at hL0 ⊢
  clear hF1 xq iα F α
  have hN0 := cells_of _ 0 [] rfl (hL0.get _ _ (mK mZ))
  simp only [zF, Nat.reduceAdd] at hN0
  have hN1 := cells_of _ 0 [] rfl (hL0.get _ _ (mK (mK mZ)))
  simp only [zF, Nat.reduceAdd] at hN1
  go_wp2_with fail
  clear hN0 hN1
  with_reducible refine Calls.mono (HD.out _) ?_
  rintro e x3 ⟨rfl, hb⟩
  replace hL0 := hL0.call hb
  clear hb
  obtain ⟨x4, hweq, hL0⟩ := GL.named ((hL0.new rfl [.int .u64 ((lo q : Nat) : Int), .string (hs q)] 34).new (K := x3.heap.size + 1) (szA _ _) [.int .u64 ((lo r : Nat) : Int), .string (hs r)] 34)
  have hA := hL0.fc
  simp only [zF, Nat.reduceAdd] at hA
  obtain ⟨x5, hput1, hP⟩ := GL.named (hL0.put 2 (w.heap.size + 1 + 1) _ rfl [.int .u64 ((lo q : Nat) : Int), .string (hs q)] rfl)
  simp only [setAll] at hput1
  simp only [List.set_cons_zero, List.set_cons_succ] at hP
  have hB1 := hP.fc
  simp only [zF, Nat.reduceAdd] at hB1
  replace hL0 := hP
  go_wp2_with fail
  exact bodyPost_ret (v := natV q) (by simp [results, Tryz.results81, go_sem, hB1]) rfl ⟨rfl, hL0.bl⟩)
theorem part_true (z s u : Int) (a g q : Nat) (HS : RT 98 #[intV z] (.int .i64 s)) (HA : RT 89 #[intV z] (natV a)) (HP : RT 81 #[natV a, natV g] (natV q)) (HF : RT 86 #[.bool true, natV q] (intV u)) (hsg : decide (s < 0) = true) (w : World) :
  Calls Tryz.prog 90 #[intV z, natV g] w fun xe w' => xe = .returned (intV u) ∧ Below w.heap.size w w' := by
 have hL0 : GL w w [] := GL.start w
 replace HS := Lib.hid HS
 replace HA := Lib.hid HA
 replace HP := Lib.hid HP
 replace HF := Lib.hid HF
 obtain ⟨x1, hweq, hL0⟩ := GL.named (((hL0.new rfl [.int .u64 ((zl z : Nat) : Int), .string (zh z), .bool (zs z)] 36).new (K := w.heap.size + 1) (szA _ _) [.int .u64 ((lo g : Nat) : Int), .string (hs g)] 34).new (K := w.heap.size + 1 + 1) (by simp only [World.size_alloc]) [.int .u64 0, .string ⟨#[]⟩, .bool false] 36)
 go_enter Tryz.func90, Tryz.ntmps90
 go_upto_region 1 with fail
 clear hweq
 obtain ⟨α, iα, F, hF1, hF2⟩ := cls x1
 have hq0 := cls_box hF1 hL0 _ _ (mK mZ)
 simp only [zC, Nat.reduceAdd] at hq0
 have hq1 := cls_box hF1 hL0 _ _ (mK (mK mZ))
 simp only [zC, Nat.reduceAdd] at hq1
 refine region_qs 8 (C := fun w' => ∃ x, w' = F x) (by kernel_rfl) (by kernel_rfl) (cls_drew hF2) ?_
 simp only [zT]
 repeat (go_big_quiet_step (first | fail | (go_at_call 98; with_reducible exact cls_call hF1 hF2 HS.out _) | (go_at_call 89; with_reducible exact cls_call hF1 hF2 HA.out _) | (go_at_call 81; with_reducible exact cls_call hF1 hF2 HP.out _) | (go_at_call 86; with_reducible exact cls_call hF1 hF2 HF.out _)))
 refine wpQuiet_nil ?_
 rintro wq ⟨xq, rfl⟩
 replace hL0 := hL0.call (hF1 xq)
 clear  hq0 hq1 hF2
 generalize F xq = x2 at hL0 ⊢
 clear hF1 xq iα F α
 have hA := hL0.fc
 simp only [zF, Nat.reduceAdd] at hA
 obtain ⟨x3, hput1, hP⟩ := GL.named (hL0.put 0 (w.heap.size + 1 + 1) _ rfl [.int .u64 ((zl u : Nat) : Int), .string (zh u), .bool (zs u)] rfl)
 simp only [setAll] at hput1
 simp only [List.set_cons_zero, List.set_cons_succ] at hP
 have hB1 := hP.fc
 simp only [zF, Nat.reduceAdd] at hB1
 replace hL0 := hP
 go_wp2_with fail
 exact bodyPost_ret (v := intV u) (by simp [results, Tryz.results90, go_sem, hB1]) rfl ⟨rfl, hL0.bl⟩
theorem part_false (z s u : Int) (a g q : Nat) (HS : RT 98 #[intV z] (.int .i64 s)) (HA : RT 89 #[intV z] (natV a)) (HP : RT 81 #[natV a, natV g] (natV q)) (HF : RT 86 #[.bool false, natV q] (intV u)) (hsg : decide (s < 0) = false) (w : World) :
  Calls Tryz.prog 90 #[intV z, natV g] w fun xe w' => xe = .returned (intV u) ∧ Below w.heap.size w w' := by
 have hL0 : GL w w [] := GL.start w
 replace HS := Lib.hid HS
 replace HA := Lib.hid HA
 replace HP := Lib.hid HP
 replace HF := Lib.hid HF
 obtain ⟨x1, hweq, hL0⟩ := GL.named (((hL0.new rfl [.int .u64 ((zl z : Nat) : Int), .string (zh z), .bool (zs z)] 36).new (K := w.heap.size + 1) (szA _ _) [.int .u64 ((lo g : Nat) : Int), .string (hs g)] 34).new (K := w.heap.size + 1 + 1) (by simp only [World.size_alloc]) [.int .u64 0, .string ⟨#[]⟩, .bool false] 36)
 go_enter Tryz.func90, Tryz.ntmps90
 go_upto_region 1 with fail
 clear hweq
 obtain ⟨α, iα, F, hF1, hF2⟩ := cls x1
 have hq0 := cls_box hF1 hL0 _ _ (mK mZ)
 simp only [zC, Nat.reduceAdd] at hq0
 have hq1 := cls_box hF1 hL0 _ _ (mK (mK mZ))
 simp only [zC, Nat.reduceAdd] at hq1
 refine region_qs 8 (C := fun w' => ∃ x, w' = F x) (by kernel_rfl) (by kernel_rfl) (cls_drew hF2) ?_
 simp only [zT]
 repeat (go_big_quiet_step (first | fail | (go_at_call 98; with_reducible exact cls_call hF1 hF2 HS.out _) | (go_at_call 89; with_reducible exact cls_call hF1 hF2 HA.out _) | (go_at_call 81; with_reducible exact cls_call hF1 hF2 HP.out _) | (go_at_call 86; with_reducible exact cls_call hF1 hF2 HF.out _)))
 refine wpQuiet_nil ?_
 rintro wq ⟨xq, rfl⟩
 replace hL0 := hL0.call (hF1 xq)
 clear  hq0 hq1 hF2
 generalize F xq = x2 at hL0 ⊢
 clear hF1 xq iα F α
 have hA := hL0.fc
 simp only [zF, Nat.reduceAdd] at hA
 obtain ⟨x3, hput1, hP⟩ := GL.named (hL0.put 0 (w.heap.size + 1 + 1) _ rfl [.int .u64 ((zl u : Nat) : Int), .string (zh u), .bool (zs u)] rfl)
 simp only [setAll] at hput1
 simp only [List.set_cons_zero, List.set_cons_succ] at hP
 have hB1 := hP.fc
 simp only [zF, Nat.reduceAdd] at hB1
 replace hL0 := hP
 go_wp2_with fail
 exact bodyPost_ret (v := intV u) (by simp [results, Tryz.results90, go_sem, hB1]) rfl ⟨rfl, hL0.bl⟩
theorem cancel_w (z u : Int) (a d g v : Nat) (HA : RT 89 #[intV z] (natV a)) (HG : RT 80 #[natV a, natV d] (natV g)) (HP : RT 90 #[intV z, natV g] (intV u)) (HQ : RT 81 #[natV d, natV g] (natV v)) (w : World) :
  Calls Tryz.prog 62 #[intV z, natV d] w fun xe w' => xe = .returned (.tuple #[intV u, natV v]) ∧ Below w.heap.size w w' := by
 have hL0 : GL w w [] := GL.start w
 replace HA := Lib.hid HA
 replace HG := Lib.hid HG
 replace HP := Lib.hid HP
 replace HQ := Lib.hid HQ
 obtain ⟨x1, hweq, hL0⟩ := GL.named ((((hL0.new rfl [.int .u64 ((zl z : Nat) : Int), .string (zh z), .bool (zs z)] 36).new (K := w.heap.size + 1) (szA _ _) [.int .u64 ((lo d : Nat) : Int), .string (hs d)] 34).new (K := w.heap.size + 1 + 1) (by simp only [World.size_alloc]) [.int .u64 0, .string ⟨#[]⟩, .bool false] 36).new (K := w.heap.size + 1 + 1 + 1) (by simp only [World.size_alloc]) [.int .u64 0, .string ⟨#[]⟩] 34)
 go_enter Tryz.func62, Tryz.ntmps62
 go_upto_region 1 with fail
 clear hweq
 refine region_gh (by kernel_rfl) (by kernel_rfl) ?_
 refine lex_seg (gl := []) 4 (by kernel_rfl) ?_
 intro α iα F hF1 hF2
 have hq := GL.seg hF1 hL0
 simp only [zC, Nat.reduceAdd] at hq
 simp only [zT]
 repeat (go_big_quiet_step (first | fail | (go_at_call 89; with_reducible exact seg_call hF2 HA.out _) | (go_at_call 80; with_reducible exact seg_call hF2 HG.out _)))
 refine wpQuiet_nil ?_
 clear hq hF1 hF2 iα F α
 refine lex_new [.int .u64 0, .string ⟨#[]⟩] 6 34 34 rfl rfl (of_decide_eq_true (by kernel_rfl)) (by kernel_rfl) rfl new_natc ?_
 simp only [Act.put, zP]
 refine lex_put [.int .u64 ((lo g : Nat) : Int), .string (hs g)] [.int .u64 0, .string ⟨#[]⟩] 6 34 (.tmp 10) rfl (by kernel_rfl) (by simp [toG, upd]) rfl (fun w k h => put_natc _ _ _ _ w k h) ?_
 simp only [Act.put]
 refine lexG_nil ?_
 intro κ x2 hS
 replace hL0 := hL0.ghs hS [(6, [.int .u64 ((lo g : Nat) : Int), .string (hs g)])] (by simp) (by intro p hp; simp only [List.mem_cons, List.not_mem_nil, or_false] at hp; rcases hp with rfl <;> exact ⟨_, by simp only [toG, upd]; rfl⟩)
 simp only [List.map_cons, List.map_nil, List.cons_append, List.nil_append] at hL0
 simp only [over_toG, over_nil, Act.put, zP]
 clear hS
 generalize κ 6 = k2_6 at *
 go_upto_region 2 with fail
 obtain ⟨α, iα, F, hF1, hF2⟩ := cls x2
 have hq0 := cls_box hF1 hL0 _ _ mZ
 simp only [zC, Nat.reduceAdd] at hq0
 have hq1 := cls_box hF1 hL0 _ _ (mK (mK (mK mZ)))
 simp only [zC, Nat.reduceAdd] at hq1
 have hq2 := cls_box hF1 hL0 _ _ (mK (mK (mK (mK mZ))))
 simp only [zC, Nat.reduceAdd] at hq2
 refine region_qs 6 (C := fun w' => ∃ x, w' = F x) (by kernel_rfl) (by kernel_rfl) (cls_drew hF2) ?_
 simp only [zT]
 repeat (go_big_quiet_step (first | fail | (go_at_call 90; with_reducible exact cls_call hF1 hF2 HP.out _) | (go_at_call 81; with_reducible exact cls_call hF1 hF2 HQ.out _)))
 refine wpQuiet_nil ?_
 rintro wq ⟨xq, rfl⟩
 replace hL0 := hL0.call (hF1 xq)
 clear  hq0 hq1 hq2 hF2
 generalize F xq = x3 at hL0 ⊢
 clear hF1 xq iα F α
 have hA := hL0.fc
 simp only [zF, Nat.reduceAdd] at hA
 obtain ⟨x4, hput1, hP⟩ := GL.named (hL0.put 2 (w.heap.size + 1 + 1) _ rfl [.int .u64 ((zl u : Nat) : Int), .string (zh u), .bool (zs u)] rfl)
 simp only [setAll] at hput1
 simp only [List.set_cons_zero, List.set_cons_succ] at hP
 have hB1 := hP.fc
 simp only [zF, Nat.reduceAdd] at hB1
 replace hL0 := hP
 obtain ⟨x5, hput2, hP⟩ := GL.named (hL0.put 1 (w.heap.size + 1 + 1 + 1) _ rfl [.int .u64 ((lo v : Nat) : Int), .string (hs v)] rfl)
 simp only [setAll] at hput2
 simp only [List.set_cons_zero, List.set_cons_succ] at hP
 have hB2 := hP.fc
 simp only [zF, Nat.reduceAdd] at hB2
 replace hL0 := hP
 go_wp2_with fail
 exact bodyPost_ret (v := .tuple #[intV u, natV v]) (by simp [results, Tryz.results62, go_sem, hB2]) rfl ⟨rfl, hL0.bl⟩
theorem times_one (z : Int) (HO : RT 88 #[.int .u64 1] (natV 1)) (w : World) :
  Calls Tryz.prog 82 #[intV z, natV 1] w fun xe w' => xe = .returned (intV z) ∧ Below w.heap.size w w' := by
 have hL0 : GL w w [] := GL.start w
 replace HO := Lib.hid HO
 obtain ⟨x1, hweq, hL0⟩ := GL.named (((hL0.new rfl [.int .u64 ((zl z : Nat) : Int), .string (zh z), .bool (zs z)] 36).new (K := w.heap.size + 1) (szA _ _) [.int .u64 ((lo 1 : Nat) : Int), .string (hs 1)] 34).new (K := w.heap.size + 1 + 1) (by simp only [World.size_alloc]) [.int .u64 0, .string ⟨#[]⟩, .bool false] 36)
 go_enter Tryz.func82, Tryz.ntmps82
 go_upto_region 1 with fail
 clear hweq
 obtain ⟨α, iα, F, hF1, hF2⟩ := cls x1
 have hq0 := cls_box hF1 hL0 _ _ (mK mZ)
 simp only [zC, Nat.reduceAdd] at hq0
 refine region_qs 3 (C := fun w' => ∃ x, w' = F x) (by kernel_rfl) (by kernel_rfl) (cls_drew hF2) ?_
 simp only [zT]
 repeat (go_big_quiet_step (first | fail | (go_at_call 88; with_reducible exact cls_call hF1 hF2 HO.out _)))
 refine wpQuiet_nil ?_
 rintro wq ⟨xq, rfl⟩
 replace hL0 := hL0.call (hF1 xq)
 clear  hq0 hF2
 generalize F xq = x2 at hL0 ⊢
 clear hF1 xq iα F α
 have hA := hL0.fc
 simp only [zF, Nat.reduceAdd] at hA
 obtain ⟨x3, hput1, hP⟩ := GL.named (hL0.put 0 (w.heap.size + 1 + 1) _ rfl [.int .u64 ((zl z : Nat) : Int), .string (zh z), .bool (zs z)] rfl)
 simp only [setAll] at hput1
 simp only [List.set_cons_zero, List.set_cons_succ] at hP
 have hB1 := hP.fc
 simp only [zF, Nat.reduceAdd] at hB1
 replace hL0 := hP
 go_wp2_with fail
 exact bodyPost_ret (v := intV z) (by simp [results, Tryz.results82, go_sem, hB1]) rfl ⟨rfl, hL0.bl⟩
theorem times_mul (z f p : Int) (d : Nat) (HO : RT 88 #[.int .u64 1] (natV 1)) (HF : RT 86 #[.bool false, natV d] (intV f)) (HM : RT 65 #[intV z, intV f] (intV p)) (hd : d ≠ 1) (w : World) :
  Calls Tryz.prog 82 #[intV z, natV d] w fun xe w' => xe = .returned (intV p) ∧ Below w.heap.size w w' := by
 have hL0 : GL w w [] := GL.start w
 replace HO := Lib.hid HO
 replace HF := Lib.hid HF
 replace HM := Lib.hid HM
 have hz := ne_nat hd
 clear hd
 rcases hz with e0 | ⟨e0, e1⟩
 all_goals (
  obtain ⟨x1, hweq, hL0⟩ := GL.named (((hL0.new rfl [.int .u64 ((zl z : Nat) : Int), .string (zh z), .bool (zs z)] 36).new (K := w.heap.size + 1) (szA _ _) [.int .u64 ((lo d : Nat) : Int), .string (hs d)] 34).new (K := w.heap.size + 1 + 1) (by simp only [World.size_alloc]) [.int .u64 0, .string ⟨#[]⟩, .bool false] 36)
  go_enter Tryz.func82, Tryz.ntmps82
  go_upto_region 1 with fail
  clear hweq
  obtain ⟨α, iα, F, hF1, hF2⟩ := cls x1
  have hq0 := cls_box hF1 hL0 _ _ (mK mZ)
  simp only [zC, Nat.reduceAdd] at hq0
  refine region_qs 3 (C := fun w' => ∃ x, w' = F x) (by kernel_rfl) (by kernel_rfl) (cls_drew hF2) ?_
  simp only [zT]
  repeat (go_big_quiet_step (first | fail | (go_at_call 88; with_reducible exact cls_call hF1 hF2 HO.out _)))
  refine wpQuiet_nil ?_
  rintro wq ⟨xq, rfl⟩
  replace hL0 := hL0.call (hF1 xq)
  clear  hq0 hF2
  generalize F xq = x2 at hL0 ⊢
  clear hF1 xq iα F α
  go_upto_region 3 with fail
  obtain ⟨α, iα, F, hF1, hF2⟩ := cls x2
  have hq0 := cls_box hF1 hL0 _ _ (mK mZ)
  simp only [zC, Nat.reduceAdd] at hq0
  have hq1 := cls_box hF1 hL0 _ _ (mK (mK mZ))
  simp only [zC, Nat.reduceAdd] at hq1
  refine region_qs 4 (C := fun w' => ∃ x, w' = F x) (by kernel_rfl) (by kernel_rfl) (cls_drew hF2) ?_
  simp only [zT]
  repeat (go_big_quiet_step (first | fail | (go_at_call 86; with_reducible exact cls_call hF1 hF2 HF.out _) | (go_at_call 65; with_reducible exact cls_call hF1 hF2 HM.out _)))
  refine wpQuiet_nil ?_
  rintro wq ⟨xq, rfl⟩
  replace hL0 := hL0.call (hF1 xq)
  clear  hq0 hq1 hF2
  generalize F xq = x3 at hL0 ⊢
  clear hF1 xq iα F α
  have hA := hL0.fc
  simp only [zF, Nat.reduceAdd] at hA
  obtain ⟨x4, hput1, hP⟩ := GL.named (hL0.put 0 (w.heap.size + 1 + 1) _ rfl [.int .u64 ((zl p : Nat) : Int), .string (zh p), .bool (zs p)] rfl)
  simp only [setAll] at hput1
  simp only [List.set_cons_zero, List.set_cons_succ] at hP
  have hB1 := hP.fc
  simp only [zF, Nat.reduceAdd] at hB1
  replace hL0 := hP
  go_wp2_with fail
  exact bodyPost_ret (v := intV p) (by simp [results, Tryz.results82, go_sem, hB1]) rfl ⟨rfl, hL0.bl⟩)
theorem int_w (k z : Int) (HO : RT 55 #[.int .i64 k] (intV z)) (w : World) :
  Calls Tryz.prog 20 #[.int .i64 k] w fun xe w' => xe = .returned (.agg #[.int .u64 ((zl z : Nat) : Int), .string (zh z), .bool (zs z), .int .u64 0, .string ⟨#[]⟩]) ∧ Below w.heap.size w w' := by
 have hL0 : GL w w [] := GL.start w
 replace HO := Lib.hid HO
 obtain ⟨x1, hweq, hL0⟩ := GL.named (hL0.new rfl [.int .u64 0, .string ⟨#[]⟩, .bool false, .int .u64 0, .string ⟨#[]⟩] 38)
 go_enter Tryz.func20, Tryz.ntmps20
 go_wp2_with fail
 with_reducible refine Calls.mono (HO.out _) ?_
 rintro e x2 ⟨rfl, hb⟩
 replace hL0 := hL0.call hb
 clear hb hweq
 have hA := hL0.fc
 simp only [zF, Nat.reduceAdd] at hA
 obtain ⟨x3, hput1, hP⟩ := GL.named (hL0.put 0 (w.heap.size) _ rfl [.int .u64 ((zl z : Nat) : Int), .string (zh z), .bool (zs z), .int .u64 0, .string ⟨#[]⟩] rfl)
 simp only [setAll] at hput1
 simp only [List.set_cons_zero, List.set_cons_succ] at hP
 have hB1 := hP.fc
 simp only [zF, Nat.reduceAdd] at hB1
 replace hL0 := hP
 go_wp2_with fail
 exact bodyPost_ret (v := .agg #[.int .u64 ((zl z : Nat) : Int), .string (zh z), .bool (zs z), .int .u64 0, .string ⟨#[]⟩]) (by simp [results, Tryz.results20, go_sem, hB1]) rfl ⟨rfl, hL0.bl⟩
theorem fof_true (x y s z p : Int) (a b : Int) (d e : Nat) (c : Int) (HO : RT 55 #[.int .i64 a] (intV x)) (HQ : RT 55 #[.int .i64 b] (intV y)) (HS : RT 98 #[intV y] (.int .i64 s)) (HN : RT 52 #[intV x] (intV z)) (HA : RT 89 #[intV y] (natV d)) (HF : RT 99 #[intV z, natV d] (.tuple #[frV p e, .int .i64 c])) (hsg : decide (s < 0) = true) (w : World) :
  Calls Tryz.prog 67 #[.int .i64 a, .int .i64 b] w fun xe w' => xe = .returned (.tuple #[frV p e, .int .i64 c]) ∧ Below w.heap.size w w' := by
 have hL0 : GL w w [] := GL.start w
 replace HO := Lib.hid HO
 replace HQ := Lib.hid HQ
 replace HS := Lib.hid HS
 replace HN := Lib.hid HN
 replace HA := Lib.hid HA
 replace HF := Lib.hid HF
 obtain ⟨x1, hweq, hL0⟩ := GL.named (hL0.new rfl [.int .u64 0, .string ⟨#[]⟩, .bool false, .int .u64 0, .string ⟨#[]⟩] 38)
 go_enter Tryz.func67, Tryz.ntmps67
 go_wp2_with fail
 with_reducible refine Calls.mono (HO.out _) ?_
 rintro e x2 ⟨rfl, hb⟩
 replace hL0 := hL0.call hb
 clear hb hweq
 go_wp2_with fail
 with_reducible refine Calls.mono (HQ.out _) ?_
 rintro e x3 ⟨rfl, hb⟩
 replace hL0 := hL0.call hb
 clear hb
 obtain ⟨x4, hweq, hL0⟩ := GL.named ((hL0.new rfl [.int .u64 ((zl x : Nat) : Int), .string (zh x), .bool (zs x)] 36).new (K := x3.heap.size + 1) (szA _ _) [.int .u64 ((zl y : Nat) : Int), .string (zh y), .bool (zs y)] 36)
 have hN0 := cells_of _ 0 [] rfl (hL0.get _ _ mZ)
 simp only [zF, Nat.reduceAdd] at hN0
 go_wp2_with fail
 clear hN0
 with_reducible refine Calls.mono (HS.out _) ?_
 rintro e x5 ⟨rfl, hb⟩
 replace hL0 := hL0.call hb
 clear hb hweq
 have hN0 := cells_of _ 0 [] rfl (hL0.get _ _ (mK mZ))
 simp only [zF, Nat.reduceAdd] at hN0
 go_wp2_with fail
 clear hN0
 with_reducible refine Calls.mono (HN.out _) ?_
 rintro e x6 ⟨rfl, hb⟩
 replace hL0 := hL0.call hb
 clear hb
 have hA := hL0.fc
 simp only [zF, Nat.reduceAdd] at hA
 obtain ⟨x7, hput1, hP⟩ := GL.named (hL0.put 1 (x3.heap.size) _ rfl [.int .u64 ((zl z : Nat) : Int), .string (zh z), .bool (zs z)] rfl)
 simp only [setAll] at hput1
 simp only [List.set_cons_zero, List.set_cons_succ] at hP
 have hB1 := hP.fc
 simp only [zF, Nat.reduceAdd] at hB1
 replace hL0 := hP
 go_upto_region 4 with fail
 clear hA
 clear hput1 hB1
 obtain ⟨α, iα, F, hF1, hF2⟩ := cls x7
 have hq0 := cls_box hF1 hL0 _ _ mZ
 simp only [zC, Nat.reduceAdd] at hq0
 have hq1 := cls_box hF1 hL0 _ _ (mK mZ)
 simp only [zC, Nat.reduceAdd] at hq1
 refine region_qs 6 (C := fun w' => ∃ x, w' = F x) (by kernel_rfl) (by kernel_rfl) (cls_drew hF2) ?_
 simp only [zT]
 repeat (go_big_quiet_step (first | fail | (go_at_call 89; with_reducible exact cls_call hF1 hF2 HA.out _) | (go_at_call 99; with_reducible exact cls_call hF1 hF2 HF.out _)))
 refine wpQuiet_nil ?_
 rintro wq ⟨xq, rfl⟩
 replace hL0 := hL0.call (hF1 xq)
 clear  hq0 hq1 hF2
 generalize F xq = x8 at hL0 ⊢
 clear hF1 xq iα F α
 have hA := hL0.fc
 simp only [zF, Nat.reduceAdd] at hA
 obtain ⟨x9, hput2, hP⟩ := GL.named (hL0.put 2 (w.heap.size) _ rfl [.int .u64 ((zl p : Nat) : Int), .string (zh p), .bool (zs p), .int .u64 ((lo e : Nat) : Int), .string (hs e)] rfl)
 simp only [setAll] at hput2
 simp only [List.set_cons_zero, List.set_cons_succ] at hP
 have hB2 := hP.fc
 simp only [zF, Nat.reduceAdd] at hB2
 replace hL0 := hP
 go_wp2_with fail
 exact bodyPost_ret (v := .tuple #[frV p e, .int .i64 c]) (by simp [results, Tryz.results67, go_sem, hB2]) rfl ⟨rfl, hL0.bl⟩
theorem fof_false (x y s z p : Int) (a b : Int) (d e : Nat) (c : Int) (HO : RT 55 #[.int .i64 a] (intV x)) (HQ : RT 55 #[.int .i64 b] (intV y)) (HS : RT 98 #[intV y] (.int .i64 s)) (HA : RT 89 #[intV y] (natV d)) (HF : RT 99 #[intV x, natV d] (.tuple #[frV p e, .int .i64 c])) (hsg : decide (s < 0) = false) (w : World) :
  Calls Tryz.prog 67 #[.int .i64 a, .int .i64 b] w fun xe w' => xe = .returned (.tuple #[frV p e, .int .i64 c]) ∧ Below w.heap.size w w' := by
 have hL0 : GL w w [] := GL.start w
 replace HO := Lib.hid HO
 replace HQ := Lib.hid HQ
 replace HS := Lib.hid HS
 replace HA := Lib.hid HA
 replace HF := Lib.hid HF
 obtain ⟨x1, hweq, hL0⟩ := GL.named (hL0.new rfl [.int .u64 0, .string ⟨#[]⟩, .bool false, .int .u64 0, .string ⟨#[]⟩] 38)
 go_enter Tryz.func67, Tryz.ntmps67
 go_wp2_with fail
 with_reducible refine Calls.mono (HO.out _) ?_
 rintro e x2 ⟨rfl, hb⟩
 replace hL0 := hL0.call hb
 clear hb hweq
 go_wp2_with fail
 with_reducible refine Calls.mono (HQ.out _) ?_
 rintro e x3 ⟨rfl, hb⟩
 replace hL0 := hL0.call hb
 clear hb
 obtain ⟨x4, hweq, hL0⟩ := GL.named ((hL0.new rfl [.int .u64 ((zl x : Nat) : Int), .string (zh x), .bool (zs x)] 36).new (K := x3.heap.size + 1) (szA _ _) [.int .u64 ((zl y : Nat) : Int), .string (zh y), .bool (zs y)] 36)
 have hN0 := cells_of _ 0 [] rfl (hL0.get _ _ mZ)
 simp only [zF, Nat.reduceAdd] at hN0
 go_wp2_with fail
 clear hN0
 with_reducible refine Calls.mono (HS.out _) ?_
 rintro e x5 ⟨rfl, hb⟩
 replace hL0 := hL0.call hb
 clear hb hweq
 go_upto_region 4 with fail
 obtain ⟨α, iα, F, hF1, hF2⟩ := cls x5
 have hq0 := cls_box hF1 hL0 _ _ mZ
 simp only [zC, Nat.reduceAdd] at hq0
 have hq1 := cls_box hF1 hL0 _ _ (mK mZ)
 simp only [zC, Nat.reduceAdd] at hq1
 refine region_qs 6 (C := fun w' => ∃ x, w' = F x) (by kernel_rfl) (by kernel_rfl) (cls_drew hF2) ?_
 simp only [zT]
 repeat (go_big_quiet_step (first | fail | (go_at_call 89; with_reducible exact cls_call hF1 hF2 HA.out _) | (go_at_call 99; with_reducible exact cls_call hF1 hF2 HF.out _)))
 refine wpQuiet_nil ?_
 rintro wq ⟨xq, rfl⟩
 replace hL0 := hL0.call (hF1 xq)
 clear  hq0 hq1 hF2
 generalize F xq = x6 at hL0 ⊢
 clear hF1 xq iα F α
 have hA := hL0.fc
 simp only [zF, Nat.reduceAdd] at hA
 obtain ⟨x7, hput1, hP⟩ := GL.named (hL0.put 2 (w.heap.size) _ rfl [.int .u64 ((zl p : Nat) : Int), .string (zh p), .bool (zs p), .int .u64 ((lo e : Nat) : Int), .string (hs e)] rfl)
 simp only [setAll] at hput1
 simp only [List.set_cons_zero, List.set_cons_succ] at hP
 have hB1 := hP.fc
 simp only [zF, Nat.reduceAdd] at hB1
 replace hL0 := hP
 go_wp2_with fail
 exact bodyPost_ret (v := .tuple #[frV p e, .int .i64 c]) (by simp [results, Tryz.results67, go_sem, hB1]) rfl ⟨rfl, hL0.bl⟩
theorem fsign_w (n s : Int) (e : Nat) (HS : RT 98 #[intV n] (.int .i64 s)) (w : World) :
  Calls Tryz.prog 141 #[frV n e] w fun xe w' => xe = .returned (.int .i64 s) ∧ Below w.heap.size w w' := by
 have hL0 : GL w w [] := GL.start w
 replace HS := Lib.hid HS
 obtain ⟨x1, hweq, hL0⟩ := GL.named (hL0.new rfl [.int .u64 ((zl n : Nat) : Int), .string (zh n), .bool (zs n), .int .u64 ((lo e : Nat) : Int), .string (hs e)] 38)
 go_enter Tryz.func141, Tryz.ntmps141
 have hN0 := cells_of _ 0 [] rfl (hL0.get _ _ mZ)
 simp only [zF, Nat.reduceAdd] at hN0
 go_wp2_with fail
 clear hN0
 with_reducible refine Calls.mono (HS.out _) ?_
 rintro e x2 ⟨rfl, hb⟩
 replace hL0 := hL0.call hb
 clear hb hweq
 go_wp2_with fail
 exact bodyPost_ret (v := .int .i64 s) (by simp [results, Tryz.results141, go_sem]) rfl ⟨rfl, hL0.bl⟩
end Go.Proofs.YtkdbhacimoaohaaGreatDoor
namespace Go.Proofs.YtkdbhacimoaohaaGreatDoor
open Go.RowKit
attribute [local irreducible] lo hs sm s64 c64 d64 b64 mh ml pd pc qd qc val hiB str cmpI srD lz nb zl zh zs
theorem finv_true (n s m x : Int) (e d a f : Nat) (HS : RT 141 #[frV n e] (.int .i64 s)) (HD : RT 63 #[frV n e] (natV d)) (HF : RT 86 #[.bool true, natV d] (intV m)) (HA : RT 89 #[intV n] (natV a)) (HL : RT 64 #[intV m, natV a] (frV x f)) (hsg : decide (s < 0) = true) (w : World) :
  Calls Tryz.prog 113 #[frV n e] w fun xe w' => xe = .returned (frV x f) ∧ Below w.heap.size w w' := by
 have hL0 : GL w w [] := GL.start w
 replace HS := Lib.hid HS
 replace HD := Lib.hid HD
 replace HF := Lib.hid HF
 replace HA := Lib.hid HA
 replace HL := Lib.hid HL
 obtain ⟨x1, hweq, hL0⟩ := GL.named ((hL0.new rfl [.int .u64 ((zl n : Nat) : Int), .string (zh n), .bool (zs n), .int .u64 ((lo e : Nat) : Int), .string (hs e)] 38).new (K := w.heap.size + 1) (szA _ _) [.int .u64 0, .string ⟨#[]⟩, .bool false, .int .u64 0, .string ⟨#[]⟩] 38)
 go_enter Tryz.func113, Tryz.ntmps113
 go_upto_region 1 with fail
 clear hweq
 obtain ⟨α, iα, F, hF1, hF2⟩ := cls x1
 have hq0 := cls_box hF1 hL0 _ _ (mK mZ)
 simp only [zC, Nat.reduceAdd] at hq0
 refine region_qs 10 (C := fun w' => ∃ x, w' = F x) (by kernel_rfl) (by kernel_rfl) (cls_drew hF2) ?_
 simp only [zT]
 repeat (go_big_quiet_step (first | fail | (go_at_call 141; with_reducible exact cls_call hF1 hF2 HS.out _) | (go_at_call 63; with_reducible exact cls_call hF1 hF2 HD.out _) | (go_at_call 86; with_reducible exact cls_call hF1 hF2 HF.out _) | (go_at_call 89; with_reducible exact cls_call hF1 hF2 HA.out _) | (go_at_call 64; with_reducible exact cls_call hF1 hF2 HL.out _)))
 refine wpQuiet_nil ?_
 rintro wq ⟨xq, rfl⟩
 replace hL0 := hL0.call (hF1 xq)
 clear  hq0 hF2
 generalize F xq = x2 at hL0 ⊢
 clear hF1 xq iα F α
 have hA := hL0.fc
 simp only [zF, Nat.reduceAdd] at hA
 obtain ⟨x3, hput1, hP⟩ := GL.named (hL0.put 0 (w.heap.size + 1) _ rfl [.int .u64 ((zl x : Nat) : Int), .string (zh x), .bool (zs x), .int .u64 ((lo f : Nat) : Int), .string (hs f)] rfl)
 simp only [setAll] at hput1
 simp only [List.set_cons_zero, List.set_cons_succ] at hP
 have hB1 := hP.fc
 simp only [zF, Nat.reduceAdd] at hB1
 replace hL0 := hP
 go_wp2_with fail
 exact bodyPost_ret (v := frV x f) (by simp [results, Tryz.results113, go_sem, hB1]) rfl ⟨rfl, hL0.bl⟩
theorem finv_false (n s m x : Int) (e d a f : Nat) (HS : RT 141 #[frV n e] (.int .i64 s)) (HD : RT 63 #[frV n e] (natV d)) (HF : RT 86 #[.bool false, natV d] (intV m)) (HA : RT 89 #[intV n] (natV a)) (HL : RT 64 #[intV m, natV a] (frV x f)) (hsg : decide (s < 0) = false) (w : World) :
  Calls Tryz.prog 113 #[frV n e] w fun xe w' => xe = .returned (frV x f) ∧ Below w.heap.size w w' := by
 have hL0 : GL w w [] := GL.start w
 replace HS := Lib.hid HS
 replace HD := Lib.hid HD
 replace HF := Lib.hid HF
 replace HA := Lib.hid HA
 replace HL := Lib.hid HL
 obtain ⟨x1, hweq, hL0⟩ := GL.named ((hL0.new rfl [.int .u64 ((zl n : Nat) : Int), .string (zh n), .bool (zs n), .int .u64 ((lo e : Nat) : Int), .string (hs e)] 38).new (K := w.heap.size + 1) (szA _ _) [.int .u64 0, .string ⟨#[]⟩, .bool false, .int .u64 0, .string ⟨#[]⟩] 38)
 go_enter Tryz.func113, Tryz.ntmps113
 go_upto_region 1 with fail
 clear hweq
 obtain ⟨α, iα, F, hF1, hF2⟩ := cls x1
 have hq0 := cls_box hF1 hL0 _ _ (mK mZ)
 simp only [zC, Nat.reduceAdd] at hq0
 refine region_qs 10 (C := fun w' => ∃ x, w' = F x) (by kernel_rfl) (by kernel_rfl) (cls_drew hF2) ?_
 simp only [zT]
 repeat (go_big_quiet_step (first | fail | (go_at_call 141; with_reducible exact cls_call hF1 hF2 HS.out _) | (go_at_call 63; with_reducible exact cls_call hF1 hF2 HD.out _) | (go_at_call 86; with_reducible exact cls_call hF1 hF2 HF.out _) | (go_at_call 89; with_reducible exact cls_call hF1 hF2 HA.out _) | (go_at_call 64; with_reducible exact cls_call hF1 hF2 HL.out _)))
 refine wpQuiet_nil ?_
 rintro wq ⟨xq, rfl⟩
 replace hL0 := hL0.call (hF1 xq)
 clear  hq0 hF2
 generalize F xq = x2 at hL0 ⊢
 clear hF1 xq iα F α
 have hA := hL0.fc
 simp only [zF, Nat.reduceAdd] at hA
 obtain ⟨x3, hput1, hP⟩ := GL.named (hL0.put 0 (w.heap.size + 1) _ rfl [.int .u64 ((zl x : Nat) : Int), .string (zh x), .bool (zs x), .int .u64 ((lo f : Nat) : Int), .string (hs f)] rfl)
 simp only [setAll] at hput1
 simp only [List.set_cons_zero, List.set_cons_succ] at hP
 have hB1 := hP.fc
 simp only [zF, Nat.reduceAdd] at hB1
 replace hL0 := hP
 go_wp2_with fail
 exact bodyPost_ret (v := frV x f) (by simp [results, Tryz.results113, go_sem, hB1]) rfl ⟨rfl, hL0.bl⟩
theorem fmul_w (m n u v x y : Int) (d e p q g h k f : Nat) (HD : RT 63 #[frV m d] (natV p)) (HE : RT 63 #[frV n e] (natV q)) (HX : RT 62 #[intV m, natV q] (.tuple #[intV u, natV g])) (HY : RT 62 #[intV n, natV p] (.tuple #[intV v, natV h])) (HM : RT 65 #[intV u, intV v] (intV x)) (HP : RT 66 #[natV h, natV g] (natV k)) (HL : RT 64 #[intV x, natV k] (frV y f)) (w : World) :
  Calls Tryz.prog 24 #[frV m d, frV n e] w fun xe w' => xe = .returned (frV y f) ∧ Below w.heap.size w w' := by
 have hL0 : GL w w [] := GL.start w
 replace HD := Lib.hid HD
 replace HE := Lib.hid HE
 replace HX := Lib.hid HX
 replace HY := Lib.hid HY
 replace HM := Lib.hid HM
 replace HP := Lib.hid HP
 replace HL := Lib.hid HL
 obtain ⟨x1, hweq, hL0⟩ := GL.named (((hL0.new rfl [.int .u64 ((zl m : Nat) : Int), .string (zh m), .bool (zs m), .int .u64 ((lo d : Nat) : Int), .string (hs d)] 38).new (K := w.heap.size + 1) (szA _ _) [.int .u64 ((zl n : Nat) : Int), .string (zh n), .bool (zs n), .int .u64 ((lo e : Nat) : Int), .string (hs e)] 38).new (K := w.heap.size + 1 + 1) (by simp only [World.size_alloc]) [.int .u64 0, .string ⟨#[]⟩, .bool false, .int .u64 0, .string ⟨#[]⟩] 38)
 go_enter Tryz.func24, Tryz.ntmps24
 go_upto_region 1 with fail
 clear hweq
 refine region_gh (by kernel_rfl) (by kernel_rfl) ?_
 refine lex_seg (gl := []) 8 (by kernel_rfl) ?_
 intro α iα F hF1 hF2
 have hq := GL.seg hF1 hL0
 simp only [zC, Nat.reduceAdd] at hq
 simp only [zT]
 repeat (go_big_quiet_step (first | fail | (go_at_call 63; with_reducible exact seg_call hF2 HE.out _) | (go_at_call 62; with_reducible exact seg_call hF2 HX.out _)))
 refine wpQuiet_nil ?_
 clear hq hF1 hF2 iα F α
 refine lex_new [.int .u64 0, .string ⟨#[]⟩, .bool false] 5 36 36 rfl rfl (of_decide_eq_true (by kernel_rfl)) (by kernel_rfl) rfl new_int ?_
 simp only [Act.put, zP]
 refine lex_new [.int .u64 0, .string ⟨#[]⟩] 6 34 34 rfl rfl (of_decide_eq_true (by kernel_rfl)) (by kernel_rfl) rfl new_natc ?_
 simp only [Act.put, zP]
 refine lex_put [.int .u64 ((zl u : Nat) : Int), .string (zh u), .bool (zs u)] [.int .u64 0, .string ⟨#[]⟩, .bool false] 5 36 (.tmp 15) rfl (by kernel_rfl) (by simp [toG, upd]) rfl (fun w k h => put_int _ _ _ _ _ _ w k h) ?_
 simp only [Act.put]
 refine lex_put [.int .u64 ((lo g : Nat) : Int), .string (hs g)] [.int .u64 0, .string ⟨#[]⟩] 6 34 (.tmp 16) rfl (by kernel_rfl) (by simp [toG, upd]) rfl (fun w k h => put_natc _ _ _ _ w k h) ?_
 simp only [Act.put]
 refine lexG_nil ?_
 intro κ x2 hS
 replace hL0 := hL0.ghs hS [(6, [.int .u64 ((lo g : Nat) : Int), .string (hs g)]), (5, [.int .u64 ((zl u : Nat) : Int), .string (zh u), .bool (zs u)])] (by simp) (by intro p hp; simp only [List.mem_cons, List.not_mem_nil, or_false] at hp; rcases hp with rfl | rfl <;> exact ⟨_, by simp only [toG, upd]; rfl⟩)
 simp only [List.map_cons, List.map_nil, List.cons_append, List.nil_append] at hL0
 simp only [over_toG, over_nil, Act.put, zP]
 clear hS
 generalize κ 6 = k2_6 at *
 generalize κ 5 = k2_5 at *
 go_upto_region 2 with fail
 refine region_gh (by kernel_rfl) (by kernel_rfl) ?_
 refine lex_seg (gl := []) 8 (by kernel_rfl) ?_
 intro α iα F hF1 hF2
 have hq := GL.seg hF1 hL0
 simp only [zC, Nat.reduceAdd] at hq
 simp only [zT]
 repeat (go_big_quiet_step (first | fail | (go_at_call 63; with_reducible exact seg_call hF2 HD.out _) | (go_at_call 62; with_reducible exact seg_call hF2 HY.out _)))
 refine wpQuiet_nil ?_
 clear hq hF1 hF2 iα F α
 refine lex_new [.int .u64 0, .string ⟨#[]⟩, .bool false] 7 36 36 rfl rfl (of_decide_eq_true (by kernel_rfl)) (by kernel_rfl) rfl new_int ?_
 simp only [Act.put, zP]
 refine lex_new [.int .u64 0, .string ⟨#[]⟩] 8 34 34 rfl rfl (of_decide_eq_true (by kernel_rfl)) (by kernel_rfl) rfl new_natc ?_
 simp only [Act.put, zP]
 refine lex_put [.int .u64 ((zl v : Nat) : Int), .string (zh v), .bool (zs v)] [.int .u64 0, .string ⟨#[]⟩, .bool false] 7 36 (.tmp 23) rfl (by kernel_rfl) (by simp [toG, upd]) rfl (fun w k h => put_int _ _ _ _ _ _ w k h) ?_
 simp only [Act.put]
 refine lex_put [.int .u64 ((lo h : Nat) : Int), .string (hs h)] [.int .u64 0, .string ⟨#[]⟩] 8 34 (.tmp 24) rfl (by kernel_rfl) (by simp [toG, upd]) rfl (fun w k h => put_natc _ _ _ _ w k h) ?_
 simp only [Act.put]
 refine lexG_nil ?_
 intro κ x3 hS
 replace hL0 := hL0.ghs hS [(8, [.int .u64 ((lo h : Nat) : Int), .string (hs h)]), (7, [.int .u64 ((zl v : Nat) : Int), .string (zh v), .bool (zs v)])] (by simp) (by intro p hp; simp only [List.mem_cons, List.not_mem_nil, or_false] at hp; rcases hp with rfl | rfl <;> exact ⟨_, by simp only [toG, upd]; rfl⟩)
 simp only [List.map_cons, List.map_nil, List.cons_append, List.nil_append] at hL0
 simp only [over_toG, over_nil, Act.put, zP]
 clear hS
 generalize κ 8 = k3_8 at *
 generalize κ 7 = k3_7 at *
 go_upto_region 3 with fail
 obtain ⟨α, iα, F, hF1, hF2⟩ := cls x3
 have hq0 := cls_box hF1 hL0 _ _ mZ
 simp only [zC, Nat.reduceAdd] at hq0
 have hq1 := cls_box hF1 hL0 _ _ (mK mZ)
 simp only [zC, Nat.reduceAdd] at hq1
 have hq2 := cls_box hF1 hL0 _ _ (mK (mK mZ))
 simp only [zC, Nat.reduceAdd] at hq2
 have hq3 := cls_box hF1 hL0 _ _ (mK (mK (mK mZ)))
 simp only [zC, Nat.reduceAdd] at hq3
 refine region_qs 7 (C := fun w' => ∃ x, w' = F x) (by kernel_rfl) (by kernel_rfl) (cls_drew hF2) ?_
 simp only [zT]
 repeat (go_big_quiet_step (first | fail | (go_at_call 65; with_reducible exact cls_call hF1 hF2 HM.out _) | (go_at_call 66; with_reducible exact cls_call hF1 hF2 HP.out _) | (go_at_call 64; with_reducible exact cls_call hF1 hF2 HL.out _)))
 refine wpQuiet_nil ?_
 rintro wq ⟨xq, rfl⟩
 replace hL0 := hL0.call (hF1 xq)
 clear  hq0 hq1 hq2 hq3 hF2
 generalize F xq = x4 at hL0 ⊢
 clear hF1 xq iα F α
 have hA := hL0.fc
 simp only [zF, Nat.reduceAdd] at hA
 obtain ⟨x5, hput1, hP⟩ := GL.named (hL0.put 4 (w.heap.size + 1 + 1) _ rfl [.int .u64 ((zl y : Nat) : Int), .string (zh y), .bool (zs y), .int .u64 ((lo f : Nat) : Int), .string (hs f)] rfl)
 simp only [setAll] at hput1
 simp only [List.set_cons_zero, List.set_cons_succ] at hP
 have hB1 := hP.fc
 simp only [zF, Nat.reduceAdd] at hB1
 replace hL0 := hP
 go_wp2_with fail
 exact bodyPost_ret (v := frV y f) (by simp [results, Tryz.results24, go_sem, hB1]) rfl ⟨rfl, hL0.bl⟩
theorem fdiv_w (m n x y : Int) (d e f g : Nat) (HI : RT 20 #[.int .i64 0] (frV 0 0)) (HV : RT 113 #[frV n e] (frV x f)) (HM : RT 24 #[frV m d, frV x f] (frV y g)) (hn : n ≠ 0) (w : World) :
  Calls Tryz.prog 87 #[frV m d, frV n e] w fun xe w' => xe = .returned (.tuple #[frV y g, .int .i64 0]) ∧ Below w.heap.size w w' := by
 have hL0 : GL w w [] := GL.start w
 replace HI := Lib.hid HI
 replace HV := Lib.hid HV
 replace HM := Lib.hid HM
 have hz := ne_int hn
 clear hn
 rcases hz with e0 | ⟨e0, e1⟩ | ⟨e0, e1, e2⟩
 all_goals (
  obtain ⟨x1, hweq, hL0⟩ := GL.named (((hL0.new rfl [.int .u64 ((zl m : Nat) : Int), .string (zh m), .bool (zs m), .int .u64 ((lo d : Nat) : Int), .string (hs d)] 38).new (K := w.heap.size + 1) (szA _ _) [.int .u64 ((zl n : Nat) : Int), .string (zh n), .bool (zs n), .int .u64 ((lo e : Nat) : Int), .string (hs e)] 38).new (K := w.heap.size + 1 + 1) (by simp only [World.size_alloc]) [.int .u64 0, .string ⟨#[]⟩, .bool false, .int .u64 0, .string ⟨#[]⟩] 38)
  go_enter Tryz.func87, Tryz.ntmps87
  go_upto_region 1 with fail
  clear hweq
  obtain ⟨α, iα, F, hF1, hF2⟩ := cls x1
  have hq0 := cls_box hF1 hL0 _ _ (mK mZ)
  simp only [zC, Nat.reduceAdd] at hq0
  refine region_qs 3 (C := fun w' => ∃ x, w' = F x) (by kernel_rfl) (by kernel_rfl) (cls_drew hF2) ?_
  simp only [zT]
  repeat (go_big_quiet_step (first | fail | (go_at_call 20; with_reducible exact cls_call hF1 hF2 HI.out _)))
  refine wpQuiet_nil ?_
  rintro wq ⟨xq, rfl⟩
  replace hL0 := hL0.call (hF1 xq)
  clear  hq0 hF2
  generalize F xq = x2 at hL0 ⊢
  clear hF1 xq iα F α
  go_upto_region 3 with fail
  obtain ⟨α, iα, F, hF1, hF2⟩ := cls x2
  have hq0 := cls_box hF1 hL0 _ _ (mK mZ)
  simp only [zC, Nat.reduceAdd] at hq0
  have hq1 := cls_box hF1 hL0 _ _ (mK (mK mZ))
  simp only [zC, Nat.reduceAdd] at hq1
  refine region_qs 4 (C := fun w' => ∃ x, w' = F x) (by kernel_rfl) (by kernel_rfl) (cls_drew hF2) ?_
  simp only [zT]
  repeat (go_big_quiet_step (first | fail | (go_at_call 113; with_reducible exact cls_call hF1 hF2 HV.out _) | (go_at_call 24; with_reducible exact cls_call hF1 hF2 HM.out _)))
  refine wpQuiet_nil ?_
  rintro wq ⟨xq, rfl⟩
  replace hL0 := hL0.call (hF1 xq)
  clear  hq0 hq1 hF2
  generalize F xq = x3 at hL0 ⊢
  clear hF1 xq iα F α
  have hA := hL0.fc
  simp only [zF, Nat.reduceAdd] at hA
  obtain ⟨x4, hput1, hP⟩ := GL.named (hL0.put 0 (w.heap.size + 1 + 1) _ rfl [.int .u64 ((zl y : Nat) : Int), .string (zh y), .bool (zs y), .int .u64 ((lo g : Nat) : Int), .string (hs g)] rfl)
  simp only [setAll] at hput1
  simp only [List.set_cons_zero, List.set_cons_succ] at hP
  have hB1 := hP.fc
  simp only [zF, Nat.reduceAdd] at hB1
  replace hL0 := hP
  go_wp2_with fail
  exact bodyPost_ret (v := .tuple #[frV y g, .int .i64 0]) (by simp [results, Tryz.results87, go_sem, hB1]) rfl ⟨rfl, hL0.bl⟩)
theorem fcombine_add (m n x y s u z : Int) (d e p0 q0 g p q r t v f : Nat) (HD : RT 63 #[frV m d] (natV p0)) (HE : RT 63 #[frV n e] (natV q0)) (HG : RT 80 #[natV p0, natV q0] (natV g)) (HP : RT 81 #[natV p0, natV g] (natV p)) (HQ : RT 81 #[natV q0, natV g] (natV q)) (HS : RT 82 #[intV m, natV q] (intV x)) (HT : RT 82 #[intV n, natV p] (intV y)) (HB : RT 51 #[intV x, intV y] (intV s)) (HC : RT 62 #[intV s, natV g] (.tuple #[intV u, natV r])) (HU : RT 66 #[natV p, natV q] (natV t)) (HV : RT 66 #[natV t, natV r] (natV v)) (HL : RT 64 #[intV u, natV v] (frV z f)) (w : World) :
  Calls Tryz.prog 50 #[frV m d, frV n e, .func (.func 51) #[] #[]] w fun xe w' => xe = .returned (frV z f) ∧ Below w.heap.size w w' := by
 have hL0 : GL w w [] := GL.start w
 replace HD := Lib.hid HD
 replace HE := Lib.hid HE
 replace HG := Lib.hid HG
 replace HP := Lib.hid HP
 replace HQ := Lib.hid HQ
 replace HS := Lib.hid HS
 replace HT := Lib.hid HT
 replace HB := Lib.hid HB
 replace HC := Lib.hid HC
 replace HU := Lib.hid HU
 replace HV := Lib.hid HV
 replace HL := Lib.hid HL
 obtain ⟨x1, hweq, hL0⟩ := GL.named (((hL0.new rfl [.int .u64 ((zl m : Nat) : Int), .string (zh m), .bool (zs m), .int .u64 ((lo d : Nat) : Int), .string (hs d)] 38).new (K := w.heap.size + 1) (szA _ _) [.int .u64 ((zl n : Nat) : Int), .string (zh n), .bool (zs n), .int .u64 ((lo e : Nat) : Int), .string (hs e)] 38).new (K := w.heap.size + 1 + 1) (by simp only [World.size_alloc]) [.int .u64 0, .string ⟨#[]⟩, .bool false, .int .u64 0, .string ⟨#[]⟩] 38)
 go_enter Tryz.func50, Tryz.ntmps50
 go_upto_region 1 with fail
 clear hweq
 refine region_gh (by kernel_rfl) (by kernel_rfl) ?_
 refine lex_seg (gl := []) 5 (by kernel_rfl) ?_
 intro α iα F hF1 hF2
 have hq := GL.seg hF1 hL0
 simp only [zC, Nat.reduceAdd] at hq
 simp only [zT]
 repeat (go_big_quiet_step (first | fail | (go_at_call 63; with_reducible exact seg_call hF2 HD.out _) | (go_at_call 63; with_reducible exact seg_call hF2 HE.out _) | (go_at_call 80; with_reducible exact seg_call hF2 HG.out _)))
 refine wpQuiet_nil ?_
 clear hq hF1 hF2 iα F α
 refine lex_new [.int .u64 0, .string ⟨#[]⟩] 7 34 34 rfl rfl (of_decide_eq_true (by kernel_rfl)) (by kernel_rfl) rfl new_natc ?_
 simp only [Act.put, zP]
 refine lex_put [.int .u64 ((lo g : Nat) : Int), .string (hs g)] [.int .u64 0, .string ⟨#[]⟩] 7 34 (.tmp 16) rfl (by kernel_rfl) (by simp [toG, upd]) rfl (fun w k h => put_natc _ _ _ _ w k h) ?_
 simp only [Act.put]
 refine lexG_nil ?_
 intro κ x2 hS
 replace hL0 := hL0.ghs hS [(7, [.int .u64 ((lo g : Nat) : Int), .string (hs g)])] (by simp) (by intro p hp; simp only [List.mem_cons, List.not_mem_nil, or_false] at hp; rcases hp with rfl <;> exact ⟨_, by simp only [toG, upd]; rfl⟩)
 simp only [List.map_cons, List.map_nil, List.cons_append, List.nil_append] at hL0
 simp only [over_toG, over_nil, Act.put, zP]
 clear hS
 generalize κ 7 = k2_7 at *
 go_upto_region 2 with fail
 refine region_gh (by kernel_rfl) (by kernel_rfl) ?_
 refine lex_seg (gl := []) 8 (by kernel_rfl) ?_
 intro α iα F hF1 hF2
 have hq := GL.seg hF1 hL0
 simp only [zC, Nat.reduceAdd] at hq
 simp only [zT]
 repeat (go_big_quiet_step (first | fail | (go_at_call 63; with_reducible exact seg_call hF2 HD.out _) | (go_at_call 81; with_reducible exact seg_call hF2 HP.out _) | (go_at_call 63; with_reducible exact seg_call hF2 HE.out _) | (go_at_call 81; with_reducible exact seg_call hF2 HQ.out _)))
 refine wpQuiet_nil ?_
 clear hq hF1 hF2 iα F α
 refine lex_new [.int .u64 0, .string ⟨#[]⟩] 8 34 34 rfl rfl (of_decide_eq_true (by kernel_rfl)) (by kernel_rfl) rfl new_natc ?_
 simp only [Act.put, zP]
 refine lex_new [.int .u64 0, .string ⟨#[]⟩] 9 34 34 rfl rfl (of_decide_eq_true (by kernel_rfl)) (by kernel_rfl) rfl new_natc ?_
 simp only [Act.put, zP]
 refine lex_put [.int .u64 ((lo p : Nat) : Int), .string (hs p)] [.int .u64 0, .string ⟨#[]⟩] 8 34 (.tmp 20) rfl (by kernel_rfl) (by simp [toG, upd]) rfl (fun w k h => put_natc _ _ _ _ w k h) ?_
 simp only [Act.put]
 refine lex_put [.int .u64 ((lo q : Nat) : Int), .string (hs q)] [.int .u64 0, .string ⟨#[]⟩] 9 34 (.tmp 24) rfl (by kernel_rfl) (by simp [toG, upd]) rfl (fun w k h => put_natc _ _ _ _ w k h) ?_
 simp only [Act.put]
 refine lexG_nil ?_
 intro κ x3 hS
 replace hL0 := hL0.ghs hS [(9, [.int .u64 ((lo q : Nat) : Int), .string (hs q)]), (8, [.int .u64 ((lo p : Nat) : Int), .string (hs p)])] (by simp) (by intro p hp; simp only [List.mem_cons, List.not_mem_nil, or_false] at hp; rcases hp with rfl | rfl <;> exact ⟨_, by simp only [toG, upd]; rfl⟩)
 simp only [List.map_cons, List.map_nil, List.cons_append, List.nil_append] at hL0
 simp only [over_toG, over_nil, Act.put, zP]
 clear hS
 generalize κ 9 = k3_9 at *
 generalize κ 8 = k3_8 at *
 go_upto_region 3 with fail
 refine region_gh (by kernel_rfl) (by kernel_rfl) ?_
 refine lex_seg (gl := []) 15 (by kernel_rfl) ?_
 intro α iα F hF1 hF2
 have hq := GL.seg hF1 hL0
 simp only [zC, Nat.reduceAdd] at hq
 simp only [zT]
 repeat (go_big_quiet_step (first | fail | (go_at_call 82; with_reducible exact seg_call hF2 HS.out _) | (go_at_call 82; with_reducible exact seg_call hF2 HT.out _) | (go_at_call 51; with_reducible exact seg_call hF2 HB.out _) | (go_at_call 62; with_reducible exact seg_call hF2 HC.out _)))
 refine wpQuiet_nil ?_
 clear hq hF1 hF2 iα F α
 refine lex_new [.int .u64 0, .string ⟨#[]⟩, .bool false] 10 36 36 rfl rfl (of_decide_eq_true (by kernel_rfl)) (by kernel_rfl) rfl new_int ?_
 simp only [Act.put, zP]
 refine lex_new [.int .u64 0, .string ⟨#[]⟩] 11 34 34 rfl rfl (of_decide_eq_true (by kernel_rfl)) (by kernel_rfl) rfl new_natc ?_
 simp only [Act.put, zP]
 refine lex_put [.int .u64 ((zl u : Nat) : Int), .string (zh u), .bool (zs u)] [.int .u64 0, .string ⟨#[]⟩, .bool false] 10 36 (.tmp 38) rfl (by kernel_rfl) (by simp [toG, upd]) rfl (fun w k h => put_int _ _ _ _ _ _ w k h) ?_
 simp only [Act.put]
 refine lex_put [.int .u64 ((lo r : Nat) : Int), .string (hs r)] [.int .u64 0, .string ⟨#[]⟩] 11 34 (.tmp 39) rfl (by kernel_rfl) (by simp [toG, upd]) rfl (fun w k h => put_natc _ _ _ _ w k h) ?_
 simp only [Act.put]
 refine lexG_nil ?_
 intro κ x4 hS
 replace hL0 := hL0.ghs hS [(11, [.int .u64 ((lo r : Nat) : Int), .string (hs r)]), (10, [.int .u64 ((zl u : Nat) : Int), .string (zh u), .bool (zs u)])] (by simp) (by intro p hp; simp only [List.mem_cons, List.not_mem_nil, or_false] at hp; rcases hp with rfl | rfl <;> exact ⟨_, by simp only [toG, upd]; rfl⟩)
 simp only [List.map_cons, List.map_nil, List.cons_append, List.nil_append] at hL0
 simp only [over_toG, over_nil, Act.put, zP]
 clear hS
 generalize κ 11 = k4_11 at *
 generalize κ 10 = k4_10 at *
 go_upto_region 4 with fail
 obtain ⟨α, iα, F, hF1, hF2⟩ := cls x4
 have hq0 := cls_box hF1 hL0 _ _ mZ
 simp only [zC, Nat.reduceAdd] at hq0
 have hq1 := cls_box hF1 hL0 _ _ (mK mZ)
 simp only [zC, Nat.reduceAdd] at hq1
 have hq2 := cls_box hF1 hL0 _ _ (mK (mK mZ))
 simp only [zC, Nat.reduceAdd] at hq2
 have hq3 := cls_box hF1 hL0 _ _ (mK (mK (mK mZ)))
 simp only [zC, Nat.reduceAdd] at hq3
 refine region_qs 7 (C := fun w' => ∃ x, w' = F x) (by kernel_rfl) (by kernel_rfl) (cls_drew hF2) ?_
 simp only [zT]
 repeat (go_big_quiet_step (first | fail | (go_at_call 66; with_reducible exact cls_call hF1 hF2 HU.out _) | (go_at_call 66; with_reducible exact cls_call hF1 hF2 HV.out _) | (go_at_call 64; with_reducible exact cls_call hF1 hF2 HL.out _)))
 refine wpQuiet_nil ?_
 rintro wq ⟨xq, rfl⟩
 replace hL0 := hL0.call (hF1 xq)
 clear  hq0 hq1 hq2 hq3 hF2
 generalize F xq = x5 at hL0 ⊢
 clear hF1 xq iα F α
 have hA := hL0.fc
 simp only [zF, Nat.reduceAdd] at hA
 obtain ⟨x6, hput1, hP⟩ := GL.named (hL0.put 5 (w.heap.size + 1 + 1) _ rfl [.int .u64 ((zl z : Nat) : Int), .string (zh z), .bool (zs z), .int .u64 ((lo f : Nat) : Int), .string (hs f)] rfl)
 simp only [setAll] at hput1
 simp only [List.set_cons_zero, List.set_cons_succ] at hP
 have hB1 := hP.fc
 simp only [zF, Nat.reduceAdd] at hB1
 replace hL0 := hP
 go_wp2_with fail
 exact bodyPost_ret (v := frV z f) (by simp [results, Tryz.results50, go_sem, hB1]) rfl ⟨rfl, hL0.bl⟩
theorem fadd_w (m n z : Int) (d e f : Nat) (HC : RT 50 #[frV m d, frV n e, .func (.func 51) #[] #[]] (frV z f)) (w : World) :
  Calls Tryz.prog 16 #[frV m d, frV n e] w fun xe w' => xe = .returned (frV z f) ∧ Below w.heap.size w w' := by
 have hL0 : GL w w [] := GL.start w
 replace HC := Lib.hid HC
 obtain ⟨x1, hweq, hL0⟩ := GL.named (((hL0.new rfl [.int .u64 ((zl m : Nat) : Int), .string (zh m), .bool (zs m), .int .u64 ((lo d : Nat) : Int), .string (hs d)] 38).new (K := w.heap.size + 1) (szA _ _) [.int .u64 ((zl n : Nat) : Int), .string (zh n), .bool (zs n), .int .u64 ((lo e : Nat) : Int), .string (hs e)] 38).new (K := w.heap.size + 1 + 1) (by simp only [World.size_alloc]) [.int .u64 0, .string ⟨#[]⟩, .bool false, .int .u64 0, .string ⟨#[]⟩] 38)
 go_enter Tryz.func16, Tryz.ntmps16
 have hN0 := cells_of _ 0 [] rfl (hL0.get _ _ (mK mZ))
 simp only [zF, Nat.reduceAdd] at hN0
 have hN1 := cells_of _ 0 [] rfl (hL0.get _ _ (mK (mK mZ)))
 simp only [zF, Nat.reduceAdd] at hN1
 go_wp2_with fail
 clear hN0 hN1
 with_reducible refine Calls.mono (HC.out _) ?_
 rintro e x2 ⟨rfl, hb⟩
 replace hL0 := hL0.call hb
 clear hb hweq
 have hA := hL0.fc
 simp only [zF, Nat.reduceAdd] at hA
 obtain ⟨x3, hput1, hP⟩ := GL.named (hL0.put 0 (w.heap.size + 1 + 1) _ rfl [.int .u64 ((zl z : Nat) : Int), .string (zh z), .bool (zs z), .int .u64 ((lo f : Nat) : Int), .string (hs f)] rfl)
 simp only [setAll] at hput1
 simp only [List.set_cons_zero, List.set_cons_succ] at hP
 have hB1 := hP.fc
 simp only [zF, Nat.reduceAdd] at hB1
 replace hL0 := hP
 go_wp2_with fail
 exact bodyPost_ret (v := frV z f) (by simp [results, Tryz.results16, go_sem, hB1]) rfl ⟨rfl, hL0.bl⟩
theorem fcombine_sub (m n x y s u z : Int) (d e p0 q0 g p q r t v f : Nat) (HD : RT 63 #[frV m d] (natV p0)) (HE : RT 63 #[frV n e] (natV q0)) (HG : RT 80 #[natV p0, natV q0] (natV g)) (HP : RT 81 #[natV p0, natV g] (natV p)) (HQ : RT 81 #[natV q0, natV g] (natV q)) (HS : RT 82 #[intV m, natV q] (intV x)) (HT : RT 82 #[intV n, natV p] (intV y)) (HB : RT 56 #[intV x, intV y] (intV s)) (HC : RT 62 #[intV s, natV g] (.tuple #[intV u, natV r])) (HU : RT 66 #[natV p, natV q] (natV t)) (HV : RT 66 #[natV t, natV r] (natV v)) (HL : RT 64 #[intV u, natV v] (frV z f)) (w : World) :
  Calls Tryz.prog 50 #[frV m d, frV n e, .func (.func 56) #[] #[]] w fun xe w' => xe = .returned (frV z f) ∧ Below w.heap.size w w' := by
 have hL0 : GL w w [] := GL.start w
 replace HD := Lib.hid HD
 replace HE := Lib.hid HE
 replace HG := Lib.hid HG
 replace HP := Lib.hid HP
 replace HQ := Lib.hid HQ
 replace HS := Lib.hid HS
 replace HT := Lib.hid HT
 replace HB := Lib.hid HB
 replace HC := Lib.hid HC
 replace HU := Lib.hid HU
 replace HV := Lib.hid HV
 replace HL := Lib.hid HL
 obtain ⟨x1, hweq, hL0⟩ := GL.named (((hL0.new rfl [.int .u64 ((zl m : Nat) : Int), .string (zh m), .bool (zs m), .int .u64 ((lo d : Nat) : Int), .string (hs d)] 38).new (K := w.heap.size + 1) (szA _ _) [.int .u64 ((zl n : Nat) : Int), .string (zh n), .bool (zs n), .int .u64 ((lo e : Nat) : Int), .string (hs e)] 38).new (K := w.heap.size + 1 + 1) (by simp only [World.size_alloc]) [.int .u64 0, .string ⟨#[]⟩, .bool false, .int .u64 0, .string ⟨#[]⟩] 38)
 go_enter Tryz.func50, Tryz.ntmps50
 go_upto_region 1 with fail
 clear hweq
 refine region_gh (by kernel_rfl) (by kernel_rfl) ?_
 refine lex_seg (gl := []) 5 (by kernel_rfl) ?_
 intro α iα F hF1 hF2
 have hq := GL.seg hF1 hL0
 simp only [zC, Nat.reduceAdd] at hq
 simp only [zT]
 repeat (go_big_quiet_step (first | fail | (go_at_call 63; with_reducible exact seg_call hF2 HD.out _) | (go_at_call 63; with_reducible exact seg_call hF2 HE.out _) | (go_at_call 80; with_reducible exact seg_call hF2 HG.out _)))
 refine wpQuiet_nil ?_
 clear hq hF1 hF2 iα F α
 refine lex_new [.int .u64 0, .string ⟨#[]⟩] 7 34 34 rfl rfl (of_decide_eq_true (by kernel_rfl)) (by kernel_rfl) rfl new_natc ?_
 simp only [Act.put, zP]
 refine lex_put [.int .u64 ((lo g : Nat) : Int), .string (hs g)] [.int .u64 0, .string ⟨#[]⟩] 7 34 (.tmp 16) rfl (by kernel_rfl) (by simp [toG, upd]) rfl (fun w k h => put_natc _ _ _ _ w k h) ?_
 simp only [Act.put]
 refine lexG_nil ?_
 intro κ x2 hS
 replace hL0 := hL0.ghs hS [(7, [.int .u64 ((lo g : Nat) : Int), .string (hs g)])] (by simp) (by intro p hp; simp only [List.mem_cons, List.not_mem_nil, or_false] at hp; rcases hp with rfl <;> exact ⟨_, by simp only [toG, upd]; rfl⟩)
 simp only [List.map_cons, List.map_nil, List.cons_append, List.nil_append] at hL0
 simp only [over_toG, over_nil, Act.put, zP]
 clear hS
 generalize κ 7 = k2_7 at *
 go_upto_region 2 with fail
 refine region_gh (by kernel_rfl) (by kernel_rfl) ?_
 refine lex_seg (gl := []) 8 (by kernel_rfl) ?_
 intro α iα F hF1 hF2
 have hq := GL.seg hF1 hL0
 simp only [zC, Nat.reduceAdd] at hq
 simp only [zT]
 repeat (go_big_quiet_step (first | fail | (go_at_call 63; with_reducible exact seg_call hF2 HD.out _) | (go_at_call 81; with_reducible exact seg_call hF2 HP.out _) | (go_at_call 63; with_reducible exact seg_call hF2 HE.out _) | (go_at_call 81; with_reducible exact seg_call hF2 HQ.out _)))
 refine wpQuiet_nil ?_
 clear hq hF1 hF2 iα F α
 refine lex_new [.int .u64 0, .string ⟨#[]⟩] 8 34 34 rfl rfl (of_decide_eq_true (by kernel_rfl)) (by kernel_rfl) rfl new_natc ?_
 simp only [Act.put, zP]
 refine lex_new [.int .u64 0, .string ⟨#[]⟩] 9 34 34 rfl rfl (of_decide_eq_true (by kernel_rfl)) (by kernel_rfl) rfl new_natc ?_
 simp only [Act.put, zP]
 refine lex_put [.int .u64 ((lo p : Nat) : Int), .string (hs p)] [.int .u64 0, .string ⟨#[]⟩] 8 34 (.tmp 20) rfl (by kernel_rfl) (by simp [toG, upd]) rfl (fun w k h => put_natc _ _ _ _ w k h) ?_
 simp only [Act.put]
 refine lex_put [.int .u64 ((lo q : Nat) : Int), .string (hs q)] [.int .u64 0, .string ⟨#[]⟩] 9 34 (.tmp 24) rfl (by kernel_rfl) (by simp [toG, upd]) rfl (fun w k h => put_natc _ _ _ _ w k h) ?_
 simp only [Act.put]
 refine lexG_nil ?_
 intro κ x3 hS
 replace hL0 := hL0.ghs hS [(9, [.int .u64 ((lo q : Nat) : Int), .string (hs q)]), (8, [.int .u64 ((lo p : Nat) : Int), .string (hs p)])] (by simp) (by intro p hp; simp only [List.mem_cons, List.not_mem_nil, or_false] at hp; rcases hp with rfl | rfl <;> exact ⟨_, by simp only [toG, upd]; rfl⟩)
 simp only [List.map_cons, List.map_nil, List.cons_append, List.nil_append] at hL0
 simp only [over_toG, over_nil, Act.put, zP]
 clear hS
 generalize κ 9 = k3_9 at *
 generalize κ 8 = k3_8 at *
 go_upto_region 3 with fail
 refine region_gh (by kernel_rfl) (by kernel_rfl) ?_
 refine lex_seg (gl := []) 15 (by kernel_rfl) ?_
 intro α iα F hF1 hF2
 have hq := GL.seg hF1 hL0
 simp only [zC, Nat.reduceAdd] at hq
 simp only [zT]
 repeat (go_big_quiet_step (first | fail | (go_at_call 82; with_reducible exact seg_call hF2 HS.out _) | (go_at_call 82; with_reducible exact seg_call hF2 HT.out _) | (go_at_call 56; with_reducible exact seg_call hF2 HB.out _) | (go_at_call 62; with_reducible exact seg_call hF2 HC.out _)))
 refine wpQuiet_nil ?_
 clear hq hF1 hF2 iα F α
 refine lex_new [.int .u64 0, .string ⟨#[]⟩, .bool false] 10 36 36 rfl rfl (of_decide_eq_true (by kernel_rfl)) (by kernel_rfl) rfl new_int ?_
 simp only [Act.put, zP]
 refine lex_new [.int .u64 0, .string ⟨#[]⟩] 11 34 34 rfl rfl (of_decide_eq_true (by kernel_rfl)) (by kernel_rfl) rfl new_natc ?_
 simp only [Act.put, zP]
 refine lex_put [.int .u64 ((zl u : Nat) : Int), .string (zh u), .bool (zs u)] [.int .u64 0, .string ⟨#[]⟩, .bool false] 10 36 (.tmp 38) rfl (by kernel_rfl) (by simp [toG, upd]) rfl (fun w k h => put_int _ _ _ _ _ _ w k h) ?_
 simp only [Act.put]
 refine lex_put [.int .u64 ((lo r : Nat) : Int), .string (hs r)] [.int .u64 0, .string ⟨#[]⟩] 11 34 (.tmp 39) rfl (by kernel_rfl) (by simp [toG, upd]) rfl (fun w k h => put_natc _ _ _ _ w k h) ?_
 simp only [Act.put]
 refine lexG_nil ?_
 intro κ x4 hS
 replace hL0 := hL0.ghs hS [(11, [.int .u64 ((lo r : Nat) : Int), .string (hs r)]), (10, [.int .u64 ((zl u : Nat) : Int), .string (zh u), .bool (zs u)])] (by simp) (by intro p hp; simp only [List.mem_cons, List.not_mem_nil, or_false] at hp; rcases hp with rfl | rfl <;> exact ⟨_, by simp only [toG, upd]; rfl⟩)
 simp only [List.map_cons, List.map_nil, List.cons_append, List.nil_append] at hL0
 simp only [over_toG, over_nil, Act.put, zP]
 clear hS
 generalize κ 11 = k4_11 at *
 generalize κ 10 = k4_10 at *
 go_upto_region 4 with fail
 obtain ⟨α, iα, F, hF1, hF2⟩ := cls x4
 have hq0 := cls_box hF1 hL0 _ _ mZ
 simp only [zC, Nat.reduceAdd] at hq0
 have hq1 := cls_box hF1 hL0 _ _ (mK mZ)
 simp only [zC, Nat.reduceAdd] at hq1
 have hq2 := cls_box hF1 hL0 _ _ (mK (mK mZ))
 simp only [zC, Nat.reduceAdd] at hq2
 have hq3 := cls_box hF1 hL0 _ _ (mK (mK (mK mZ)))
 simp only [zC, Nat.reduceAdd] at hq3
 refine region_qs 7 (C := fun w' => ∃ x, w' = F x) (by kernel_rfl) (by kernel_rfl) (cls_drew hF2) ?_
 simp only [zT]
 repeat (go_big_quiet_step (first | fail | (go_at_call 66; with_reducible exact cls_call hF1 hF2 HU.out _) | (go_at_call 66; with_reducible exact cls_call hF1 hF2 HV.out _) | (go_at_call 64; with_reducible exact cls_call hF1 hF2 HL.out _)))
 refine wpQuiet_nil ?_
 rintro wq ⟨xq, rfl⟩
 replace hL0 := hL0.call (hF1 xq)
 clear  hq0 hq1 hq2 hq3 hF2
 generalize F xq = x5 at hL0 ⊢
 clear hF1 xq iα F α
 have hA := hL0.fc
 simp only [zF, Nat.reduceAdd] at hA
 obtain ⟨x6, hput1, hP⟩ := GL.named (hL0.put 5 (w.heap.size + 1 + 1) _ rfl [.int .u64 ((zl z : Nat) : Int), .string (zh z), .bool (zs z), .int .u64 ((lo f : Nat) : Int), .string (hs f)] rfl)
 simp only [setAll] at hput1
 simp only [List.set_cons_zero, List.set_cons_succ] at hP
 have hB1 := hP.fc
 simp only [zF, Nat.reduceAdd] at hB1
 replace hL0 := hP
 go_wp2_with fail
 exact bodyPost_ret (v := frV z f) (by simp [results, Tryz.results50, go_sem, hB1]) rfl ⟨rfl, hL0.bl⟩
theorem fsub_w (m n z : Int) (d e f : Nat) (HC : RT 50 #[frV m d, frV n e, .func (.func 56) #[] #[]] (frV z f)) (w : World) :
  Calls Tryz.prog 21 #[frV m d, frV n e] w fun xe w' => xe = .returned (frV z f) ∧ Below w.heap.size w w' := by
 have hL0 : GL w w [] := GL.start w
 replace HC := Lib.hid HC
 obtain ⟨x1, hweq, hL0⟩ := GL.named (((hL0.new rfl [.int .u64 ((zl m : Nat) : Int), .string (zh m), .bool (zs m), .int .u64 ((lo d : Nat) : Int), .string (hs d)] 38).new (K := w.heap.size + 1) (szA _ _) [.int .u64 ((zl n : Nat) : Int), .string (zh n), .bool (zs n), .int .u64 ((lo e : Nat) : Int), .string (hs e)] 38).new (K := w.heap.size + 1 + 1) (by simp only [World.size_alloc]) [.int .u64 0, .string ⟨#[]⟩, .bool false, .int .u64 0, .string ⟨#[]⟩] 38)
 go_enter Tryz.func21, Tryz.ntmps21
 have hN0 := cells_of _ 0 [] rfl (hL0.get _ _ (mK mZ))
 simp only [zF, Nat.reduceAdd] at hN0
 have hN1 := cells_of _ 0 [] rfl (hL0.get _ _ (mK (mK mZ)))
 simp only [zF, Nat.reduceAdd] at hN1
 go_wp2_with fail
 clear hN0 hN1
 with_reducible refine Calls.mono (HC.out _) ?_
 rintro e x2 ⟨rfl, hb⟩
 replace hL0 := hL0.call hb
 clear hb hweq
 have hA := hL0.fc
 simp only [zF, Nat.reduceAdd] at hA
 obtain ⟨x3, hput1, hP⟩ := GL.named (hL0.put 0 (w.heap.size + 1 + 1) _ rfl [.int .u64 ((zl z : Nat) : Int), .string (zh z), .bool (zs z), .int .u64 ((lo f : Nat) : Int), .string (hs f)] rfl)
 simp only [setAll] at hput1
 simp only [List.set_cons_zero, List.set_cons_succ] at hP
 have hB1 := hP.fc
 simp only [zF, Nat.reduceAdd] at hB1
 replace hL0 := hP
 go_wp2_with fail
 exact bodyPost_ret (v := frV z f) (by simp [results, Tryz.results21, go_sem, hB1]) rfl ⟨rfl, hL0.bl⟩
end Go.Proofs.YtkdbhacimoaohaaGreatDoor
namespace Go.Proofs.YtkdbhacimoaohaaGreatDoor
open Go.RowKit
attribute [local irreducible] lo hs sm s64 c64 d64 b64 mh ml pd pc qd qc val hiB str cmpI srD lz nb zl zh zs
theorem ffrom_w (n u z : Int) (d v f : Nat) (HO : RT 88 #[.int .u64 0] (natV 0)) (HC : RT 62 #[intV n, natV d] (.tuple #[intV u, natV v])) (HL : RT 64 #[intV u, natV v] (frV z f)) (hd : d ≠ 0) (w : World) :
  Calls Tryz.prog 99 #[intV n, natV d] w fun xe w' => xe = .returned (.tuple #[frV z f, .int .i64 0]) ∧ Below w.heap.size w w' := by
 have hL0 : GL w w [] := GL.start w
 replace HO := Lib.hid HO
 replace HC := Lib.hid HC
 replace HL := Lib.hid HL
 have hz := ne_nat hd
 clear hd
 rcases hz with e0 | ⟨e0, e1⟩
 all_goals (
  obtain ⟨x1, hweq, hL0⟩ := GL.named (((hL0.new rfl [.int .u64 ((zl n : Nat) : Int), .string (zh n), .bool (zs n)] 36).new (K := w.heap.size + 1) (szA _ _) [.int .u64 ((lo d : Nat) : Int), .string (hs d)] 34).new (K := w.heap.size + 1 + 1) (by simp only [World.size_alloc]) [.int .u64 0, .string ⟨#[]⟩, .bool false, .int .u64 0, .string ⟨#[]⟩] 38)
  go_enter Tryz.func99, Tryz.ntmps99
  go_upto_region 1 with fail
  clear hweq
  obtain ⟨α, iα, F, hF1, hF2⟩ := cls x1
  have hq0 := cls_box hF1 hL0 _ _ (mK mZ)
  simp only [zC, Nat.reduceAdd] at hq0
  refine region_qs 3 (C := fun w' => ∃ x, w' = F x) (by kernel_rfl) (by kernel_rfl) (cls_drew hF2) ?_
  simp only [zT]
  repeat (go_big_quiet_step (first | fail | (go_at_call 88; with_reducible exact cls_call hF1 hF2 HO.out _)))
  refine wpQuiet_nil ?_
  rintro wq ⟨xq, rfl⟩
  replace hL0 := hL0.call (hF1 xq)
  clear  hq0 hF2
  generalize F xq = x2 at hL0 ⊢
  clear hF1 xq iα F α
  have hN0 := cells_of _ 0 [] rfl (hL0.get _ _ (mK mZ))
  simp only [zF, Nat.reduceAdd] at hN0
  have hN1 := cells_of _ 0 [] rfl (hL0.get _ _ (mK (mK mZ)))
  simp only [zF, Nat.reduceAdd] at hN1
  go_wp2_with fail
  clear hN0 hN1
  with_reducible refine Calls.mono (HC.out _) ?_
  rintro e x3 ⟨rfl, hb⟩
  replace hL0 := hL0.call hb
  clear hb
  go_wp2_with fail
  with_reducible refine Calls.mono (HL.out _) ?_
  rintro e x4 ⟨rfl, hb⟩
  replace hL0 := hL0.call hb
  clear hb
  have hA := hL0.fc
  simp only [zF, Nat.reduceAdd] at hA
  obtain ⟨x5, hput1, hP⟩ := GL.named (hL0.put 0 (w.heap.size + 1 + 1) _ rfl [.int .u64 ((zl z : Nat) : Int), .string (zh z), .bool (zs z), .int .u64 ((lo f : Nat) : Int), .string (hs f)] rfl)
  simp only [setAll] at hput1
  simp only [List.set_cons_zero, List.set_cons_succ] at hP
  have hB1 := hP.fc
  simp only [zF, Nat.reduceAdd] at hB1
  replace hL0 := hP
  go_wp2_with fail
  exact bodyPost_ret (v := .tuple #[frV z f, .int .i64 0]) (by simp [results, Tryz.results99, go_sem, hB1]) rfl ⟨rfl, hL0.bl⟩)
theorem ftext_whole (n : Int) (s : ByteArray) (HW : RT 91 #[frV n 0] (.bool true)) (HT : RK Tab 100 #[intV n] (.string s)) (w : World) (htab : Tab w) :
  Calls Tryz.prog 72 #[frV n 0] w fun xe w' => xe = .returned (.string s) ∧ Below w.heap.size w w' := by
 have hL0 : GL w w [] := GL.start w
 replace HW := Lib.hid HW
 replace HT := Lib.hid HT
 obtain ⟨x1, hweq, hL0⟩ := GL.named (hL0.new rfl [.int .u64 ((zl n : Nat) : Int), .string (zh n), .bool (zs n), .int .u64 ((lo 0 : Nat) : Int), .string (hs 0)] 38)
 go_enter Tryz.func72, Tryz.ntmps72
 have hN0 := cells_of _ 0 [] rfl (hL0.get _ _ mZ)
 simp only [zF, Nat.reduceAdd] at hN0
 go_wp2_with fail
 clear hN0
 with_reducible refine Calls.mono (HW.out _) ?_
 rintro e x2 ⟨rfl, hb⟩
 replace hL0 := hL0.call hb
 clear hb hweq
 have hN0 := cells_of _ 0 [] rfl (hL0.get _ _ mZ)
 simp only [zF, Nat.reduceAdd] at hN0
 go_wp2_with fail
 clear hN0
 with_reducible refine Calls.mono (HT.out _ (htab.below hL0.bl)) ?_
 rintro e x3 ⟨rfl, hb⟩
 replace hL0 := hL0.call hb
 clear hb
 go_wp2_with fail
 exact bodyPost_ret (v := .string s) (by simp [results, Tryz.results72, go_sem]) rfl ⟨rfl, hL0.bl⟩
theorem ftext_part (n : Int) (e : Nat) (s t : ByteArray) (HW : RT 91 #[frV n e] (.bool false)) (HT : RK Tab 100 #[intV n] (.string s)) (HU : RK Tab 101 #[natV e] (.string t)) (h1 : ((s.size : Nat) : Int) ≤ 20000000) (h2 : ((t.size : Nat) : Int) ≤ 20000000) (w : World) (htab : Tab w) :
  Calls Tryz.prog 72 #[frV n e] w fun xe w' => xe = .returned (.string ((s ++ ByteArray.mk #[47]) ++ t)) ∧ Below w.heap.size w w' := by
 have hL0 : GL w w [] := GL.start w
 replace HW := Lib.hid HW
 replace HT := Lib.hid HT
 replace HU := Lib.hid HU
 obtain ⟨x1, hweq, hL0⟩ := GL.named (hL0.new rfl [.int .u64 ((zl n : Nat) : Int), .string (zh n), .bool (zs n), .int .u64 ((lo e : Nat) : Int), .string (hs e)] 38)
 go_enter Tryz.func72, Tryz.ntmps72
 have hN0 := cells_of _ 0 [] rfl (hL0.get _ _ mZ)
 simp only [zF, Nat.reduceAdd] at hN0
 go_wp2_with fail
 clear hN0
 with_reducible refine Calls.mono (HW.out _) ?_
 rintro e x2 ⟨rfl, hb⟩
 replace hL0 := hL0.call hb
 clear hb hweq
 go_upto_region 3 with fail
 have ht := htab.below hL0.bl
 obtain ⟨α, iα, F, hF1, hF2⟩ := cls x2
 have hq0 := cls_box hF1 hL0 _ _ mZ
 simp only [zC, Nat.reduceAdd] at hq0
 refine region_qs 9 (C := fun w' => ∃ x, w' = F x) (by kernel_rfl) (by kernel_rfl) (cls_drew hF2) ?_
 simp only [zT]
 repeat (go_big_quiet_step (first | fail | (go_at_call 100; with_reducible exact cls_callT hF1 hF2 ht HT.out _) | (go_at_call 101; with_reducible exact cls_callT hF1 hF2 ht HU.out _)))
 refine wpQuiet_nil ?_
 rintro wq ⟨xq, rfl⟩
 replace hL0 := hL0.call (hF1 xq)
 clear  hq0 hF2
 generalize F xq = x3 at hL0 ⊢
 clear hF1 xq iα F α
 clear ht
 go_wp2_with fail
 exact bodyPost_ret (v := .string ((s ++ ByteArray.mk #[47]) ++ t)) (by simp [results, Tryz.results72, go_sem]) rfl ⟨rfl, hL0.bl⟩
end Go.Proofs.YtkdbhacimoaohaaGreatDoor
namespace Go.Proofs.YtkdbhacimoaohaaGreatDoor
open Go.RowKit
attribute [local irreducible] lo hs sm s64 c64 d64 b64 mh ml pd pc qd qc val hiB str cmpI srD lz nb zl zh zs
theorem fe_den (q : Rat) : q.den = if fe q = 0 then 1 else fe q := by
 unfold fe
 have := q.den_nz
 split <;> simp_all
theorem frV_z (n : Int) : frV n 0 = .agg #[.int .u64 ((zl n : Nat) : Int), .string (zh n), .bool (zs n), .int .u64 0, .string ⟨#[]⟩] := by unfold frV; rw [lo_small Bs_pos, hs_small Bs_pos]; rfl
theorem fracV_int (z : Int) : fracV (z : Rat) = frV z 0 := rfl
theorem fracV_of {q : Rat} {n : Int} {d : Nat} (hn : q.num = n) (hd : q.den = d) : fracV q = frV n (if d = 1 then 0 else d) := by subst hn hd; rfl
theorem one_o (w : World) : Calls Tryz.prog 88 #[.int .u64 1] w fun e w' => e = .returned (natV 1) ∧ Below w.heap.size w w' := of_val 1 1 rfl (by unfold Bs; omega) w
theorem zero_o (w : World) : Calls Tryz.prog 88 #[.int .u64 0] w fun e w' => e = .returned (natV 0) ∧ Below w.heap.size w w' := of_val 0 0 rfl (by unfold Bs; omega) w
theorem dec_sgn (z : Int) : decide (sgn z < 0) = decide (z < 0) := by
 have : sgn z < 0 ↔ z < 0 := by unfold sgn; split <;> (try split) <;> omega
 simp only [this]
theorem whole_raw (n : Int) (e : Nat) (w : World) : Calls Tryz.prog 91 #[frV n e] w fun x w' => x = .returned (.bool (decide (e = 0))) ∧ Below w.heap.size w w' := by
 by_cases h : e = 0
 ·subst h; rw [decide_eq_true rfl]; exact whole_yes n w
 ·rw [decide_eq_false h]; exact whole_no n e h w
theorem den_raw (n : Int) (e : Nat) (w : World) : Calls Tryz.prog 63 #[frV n e] w fun x w' => x = .returned (natV (if e = 0 then 1 else e)) ∧ Below w.heap.size w w' := by
 by_cases h : e = 0
 ·subst h; rw [if_pos rfl]; exact den_one_w n (whole_yes n) one_o w
 ·rw [if_neg h]; exact den_part_w n e (whole_no n e h) w
theorem denF (q : Rat) (w : World) : Calls Tryz.prog 63 #[fracV q] w fun x w' => x = .returned (natV q.den) ∧ Below w.heap.size w w' := by
 have h := den_raw q.num (fe q) w
 rw [← fe_den] at h
 exact h
theorem lowest_raw (n : Int) (d : Nat) (w : World) : Calls Tryz.prog 64 #[intV n, natV d] w fun x w' => x = .returned (frV n (if d = 1 then 0 else d)) ∧ Below w.heap.size w w' := by
 by_cases h : d = 1
 ·subst h; rw [if_pos rfl, frV_z]; exact lowest_one n one_o w
 ·rw [if_neg h]; exact lowest_part n d one_o h w
theorem lowestF {q : Rat} {n : Int} {d : Nat} (hn : q.num = n) (hd : q.den = d) (w : World) : Calls Tryz.prog 64 #[intV n, natV d] w fun x w' => x = .returned (fracV q) ∧ Below w.heap.size w w' := by
 rw [fracV_of hn hd]; exact lowest_raw n d w
theorem pon_raw (n g : Nat) (hg : g ≠ 0) (hn : (digs n).length ≤ 100000000) (w : World) : Calls Tryz.prog 81 #[natV n, natV g] w fun x w' => x = .returned (natV (n / g)) ∧ Below w.heap.size w w' := by
 by_cases h : g = 1
 ·subst h; rw [Nat.div_one]; exact pon_one n one_o w
 ·exact pon_div n g (n / g) (n % g) one_o (fun w => div_pos n g (by omega) (by omega) w) h w
theorem tdiv_sgn (z : Int) (g : Nat) : z.tdiv (g : Int) = if decide (z < 0) then -((z.natAbs / g : Nat) : Int) else ((z.natAbs / g : Nat) : Int) := by
 by_cases h : z < 0
 ·obtain ⟨n, rfl⟩ : ∃ n : Nat, z = -(n : Int) := ⟨z.natAbs, by omega⟩
  rw [decide_eq_true h, if_pos rfl, Int.natAbs_neg, Int.natAbs_natCast, Int.neg_tdiv, ← Int.ofNat_tdiv]
 ·obtain ⟨n, rfl⟩ : ∃ n : Nat, z = (n : Int) := ⟨z.natAbs, by omega⟩
  rw [decide_eq_false h, Int.natAbs_natCast, ← Int.ofNat_tdiv]; rfl
theorem part_raw (z : Int) (g : Nat) (hg : g ≠ 0) (hz : dI z ≤ 100000000) (w : World) : Calls Tryz.prog 90 #[intV z, natV g] w fun x w' => x = .returned (intV (z.tdiv g)) ∧ Below w.heap.size w w' := by
 have hF := fun w => fromI (decide (z < 0)) (z.natAbs / g) (z.tdiv g) (tdiv_sgn z g) w
 have hs := dec_sgn z
 by_cases h : z < 0
 ·rw [decide_eq_true h] at hF hs
  exact part_true z (sgn z) _ _ g _ (signI z) (absI z) (pon_raw _ g hg hz) hF hs w
 ·rw [decide_eq_false h] at hF hs
  exact part_false z (sgn z) _ _ g _ (signI z) (absI z) (pon_raw _ g hg hz) hF hs w
theorem cancel_raw (z : Int) (d : Nat) (hd : d ≠ 0) (hz : dI z ≤ 100000000) (hl : (digs d).length ≤ 100000000) (w : World) :
  Calls Tryz.prog 62 #[intV z, natV d] w fun x w' => x = .returned (.tuple #[intV (z.tdiv (Nat.gcd z.natAbs d : Nat)), natV (d / Nat.gcd z.natAbs d)]) ∧ Below w.heap.size w w' := by
 have hg : Nat.gcd z.natAbs d ≠ 0 := fun e => hd (Nat.gcd_eq_zero_iff.1 e).2
 exact cancel_w z _ _ d _ _ (absI z) (fun w => gcd_any z.natAbs d (Nat.le_trans hz (by omega)) (by omega) w) (part_raw z _ hg hz) (pon_raw d _ hg hl) w
theorem times_raw (z : Int) (d : Nat) (hz : dI z ≤ 100000000) (hd : (digs d).length ≤ 100000000) (w : World) : Calls Tryz.prog 82 #[intV z, natV d] w fun x w' => x = .returned (intV (z * (d : Int))) ∧ Below w.heap.size w w' := by
 by_cases h : d = 1
 ·subst h; rw [show z * ((1 : Nat) : Int) = z by omega]; exact times_one z one_o w
 ·exact times_mul z (d : Int) _ d one_o (fun w => fromI false d (d : Int) rfl w) (fun w => mulI z (d : Int) (by omega) (by rw [dI_nat]; omega) w) h w
theorem intF (k : Int) (h1 : -9223372036854775808 ≤ k) (h2 : k < 9223372036854775808) (w : World) : Calls Tryz.prog 20 #[.int .i64 k] w fun x w' => x = .returned (fracV (k : Rat)) ∧ Below w.heap.size w w' := by
 rw [fracV_int, frV_z]; exact int_w k k (fun w => ofI k h1 h2 w) w
theorem fromF (z : Int) (d : Nat) (hd : d ≠ 0) (hz : dI z ≤ 100000000) (hl : (digs d).length ≤ 100000000) (w : World) : Calls Tryz.prog 99 #[intV z, natV d] w fun x w' => x = .returned (.tuple #[fracV (mkRat z d), .int .i64 0]) ∧ Below w.heap.size w w' := by
 obtain ⟨h1, h2⟩ := canc (z := z) hd
 exact ffrom_w z _ _ d _ _ zero_o (cancel_raw z d hd hz hl) (fun w => lowestF h1 h2 w) hd w
end Go.Proofs.YtkdbhacimoaohaaGreatDoor
namespace Go.Proofs.YtkdbhacimoaohaaGreatDoor
open Go.RowKit
attribute [local irreducible] lo hs sm s64 c64 d64 b64 mh ml pd pc qd qc val hiB str cmpI srD lz nb zl zh zs
theorem signF (q : Rat) (w : World) : Calls Tryz.prog 141 #[fracV q] w fun x w' => x = .returned (.int .i64 (sgnQ q)) ∧ Below w.heap.size w w' := by
 rw [sgnQ_num]; exact fsign_w q.num (sgn q.num) (fe q) (fun w => signI q.num w) w
theorem invF (q : Rat) (h0 : q ≠ 0) (w : World) : Calls Tryz.prog 113 #[fracV q] w fun x w' => x = .returned (fracV q⁻¹) ∧ Below w.heap.size w w' := by
 obtain ⟨h1, h2⟩ := rinv_parts h0
 have hs : decide (sgnQ q < 0) = decide (q.num < 0) := by
  have : sgnQ q < 0 ↔ q.num < 0 := by rw [sgnQ_num]; split <;> (try split) <;> omega
  simp only [this]
 have hF := fun w => fromI (decide (q.num < 0)) q.den (if q.num < 0 then -(q.den : Int) else (q.den : Int)) (by by_cases h : q.num < 0 <;> simp [h]) w
 by_cases h : q.num < 0
 ·rw [decide_eq_true h] at hs hF
  exact finv_true q.num _ _ _ (fe q) q.den _ _ (signF q) (denF q) hF (fun w => absI q.num w) (fun w => lowestF h1 h2 w) hs w
 ·rw [decide_eq_false h] at hs hF
  exact finv_false q.num _ _ _ (fe q) q.den _ _ (signF q) (denF q) hF (fun w => absI q.num w) (fun w => lowestF h1 h2 w) hs w
theorem tdiv_dI {z : Int} {g k : Nat} (h : dI z ≤ k) : dI (z.tdiv (g : Int)) ≤ k := by
 refine Nat.le_trans (dI_mono ?_) h
 rw [Int.natAbs_tdiv]; exact Nat.div_le_self _ _
theorem ndiv_digs {n g k : Nat} (h : (digs n).length ≤ k) : (digs (n / g)).length ≤ k := Nat.le_trans (digs_mono (Nat.div_le_self _ _)) h
theorem mulF (p q : Rat) (k : Nat) (hp : Sz p k) (hq : Sz q k) (hk : k ≤ 100000000) (w : World) : Calls Tryz.prog 24 #[fracV p, fracV q] w fun x w' => x = .returned (fracV (p * q)) ∧ Below w.heap.size w w' := by
 obtain ⟨h1, h2⟩ := rmul_parts p q
 rw [Nat.mul_comm] at h2
 exact fmul_w p.num q.num _ _ _ _ (fe p) (fe q) p.den q.den _ _ _ _ (denF p) (denF q) (cancel_raw p.num q.den q.den_nz (Nat.le_trans hp.1 hk) (Nat.le_trans hq.2 hk)) (cancel_raw q.num p.den p.den_nz (Nat.le_trans hq.1 hk) (Nat.le_trans hp.2 hk))
  (fun w => mulI _ _ (Nat.le_trans (tdiv_dI hp.1) (by omega)) (Nat.le_trans (tdiv_dI hq.1) (by omega)) w) (fun w => mul_any _ _ (Nat.le_trans (ndiv_digs hp.2) (by omega)) (Nat.le_trans (ndiv_digs hq.2) (by omega)) w) (fun w => lowestF h1 h2 w) w
theorem zero_i (w : World) : Calls Tryz.prog 20 #[.int .i64 0] w fun x w' => x = .returned (frV 0 0) ∧ Below w.heap.size w w' := intF 0 (by decide) (by decide) w
theorem num_ne {q : Rat} (h : q ≠ 0) : q.num ≠ 0 := fun e => h (Rat.num_eq_zero.1 e)
theorem divF (p q : Rat) (k : Nat) (hp : Sz p k) (hq : Sz q k) (hk : k ≤ 100000000) (h0 : q ≠ 0) (w : World) : Calls Tryz.prog 87 #[fracV p, fracV q] w fun x w' => x = .returned (.tuple #[fracV (p / q), .int .i64 0]) ∧ Below w.heap.size w w' := by
 rw [Rat.div_def]
 exact fdiv_w p.num q.num _ _ (fe p) (fe q) _ _ zero_i (invF q h0) (mulF p q⁻¹ k hp (hq.inv h0) hk) (num_ne h0) w
theorem addF (p q : Rat) (k : Nat) (hp : Sz p k) (hq : Sz q k) (hk : k ≤ 10000000) (w : World) : Calls Tryz.prog 16 #[fracV p, fracV q] w fun x w' => x = .returned (fracV (p + q)) ∧ Below w.heap.size w w' := by
 obtain ⟨h1, h2⟩ := radd_parts p q
 have hg : Nat.gcd p.den q.den ≠ 0 := fun e => p.den_nz (Nat.gcd_eq_zero_iff.1 e).1
 have l1 : (digs (p.den / Nat.gcd p.den q.den)).length ≤ k := ndiv_digs hp.2
 have l2 : (digs (q.den / Nat.gcd p.den q.den)).length ≤ k := ndiv_digs hq.2
 have l3 : (digs (Nat.gcd p.den q.den)).length ≤ k := Nat.le_trans (digs_mono (Nat.gcd_le_left _ p.den_pos)) hp.2
 have lx : dI (p.num * ((q.den / Nat.gcd p.den q.den : Nat) : Int)) ≤ k + k := dI_mul hp.1 (by rw [dI_nat]; exact l2)
 have ly : dI (q.num * ((p.den / Nat.gcd p.den q.den : Nat) : Int)) ≤ k + k := dI_mul hq.1 (by rw [dI_nat]; exact l1)
 have ls := dI_add lx ly
 refine fadd_w p.num q.num _ (fe p) (fe q) _ ?_ w
 exact fcombine_add p.num q.num _ _ _ _ _ (fe p) (fe q) p.den q.den _ _ _ _ _ _ _ (denF p) (denF q) (fun w => gcd_any _ _ (Nat.le_trans hp.2 (by omega)) (Nat.le_trans hq.2 (by omega)) w)
  (pon_raw _ _ hg (Nat.le_trans hp.2 (by omega))) (pon_raw _ _ hg (Nat.le_trans hq.2 (by omega))) (times_raw _ _ (Nat.le_trans hp.1 (by omega)) (by omega)) (times_raw _ _ (Nat.le_trans hq.1 (by omega)) (by omega))
  (fun w => addI _ _ (by omega) (by omega) w) (cancel_raw _ _ hg (by omega) (by omega)) (fun w => mul_any _ _ (by omega) (by omega) w)
  (fun w => mul_any _ _ (Nat.le_trans (digs_mul_le l1 l2) (by omega)) (Nat.le_trans (ndiv_digs l3) (by omega)) w) (fun w => lowestF h1 h2 w)
theorem subF (p q : Rat) (k : Nat) (hp : Sz p k) (hq : Sz q k) (hk : k ≤ 10000000) (w : World) : Calls Tryz.prog 21 #[fracV p, fracV q] w fun x w' => x = .returned (fracV (p - q)) ∧ Below w.heap.size w w' := by
 have hp' := radd_parts p (-q)
 rw [← Rat.sub_eq_add_neg, Rat.neg_num, Rat.neg_den, Int.neg_mul, ← Int.sub_eq_add_neg] at hp'
 obtain ⟨h1, h2⟩ := hp'
 have hg : Nat.gcd p.den q.den ≠ 0 := fun e => p.den_nz (Nat.gcd_eq_zero_iff.1 e).1
 have l1 : (digs (p.den / Nat.gcd p.den q.den)).length ≤ k := ndiv_digs hp.2
 have l2 : (digs (q.den / Nat.gcd p.den q.den)).length ≤ k := ndiv_digs hq.2
 have l3 : (digs (Nat.gcd p.den q.den)).length ≤ k := Nat.le_trans (digs_mono (Nat.gcd_le_left _ p.den_pos)) hp.2
 have lx : dI (p.num * ((q.den / Nat.gcd p.den q.den : Nat) : Int)) ≤ k + k := dI_mul hp.1 (by rw [dI_nat]; exact l2)
 have ly : dI (q.num * ((p.den / Nat.gcd p.den q.den : Nat) : Int)) ≤ k + k := dI_mul hq.1 (by rw [dI_nat]; exact l1)
 have ls := dI_sub lx ly
 refine fsub_w p.num q.num _ (fe p) (fe q) _ ?_ w
 exact fcombine_sub p.num q.num _ _ _ _ _ (fe p) (fe q) p.den q.den _ _ _ _ _ _ _ (denF p) (denF q) (fun w => gcd_any _ _ (Nat.le_trans hp.2 (by omega)) (Nat.le_trans hq.2 (by omega)) w)
  (pon_raw _ _ hg (Nat.le_trans hp.2 (by omega))) (pon_raw _ _ hg (Nat.le_trans hq.2 (by omega))) (times_raw _ _ (Nat.le_trans hp.1 (by omega)) (by omega)) (times_raw _ _ (Nat.le_trans hq.1 (by omega)) (by omega))
  (fun w => subI _ _ (by omega) (by omega) w) (cancel_raw _ _ hg (by omega) (by omega)) (fun w => mul_any _ _ (by omega) (by omega) w)
  (fun w => mul_any _ _ (Nat.le_trans (digs_mul_le l1 l2) (by omega)) (Nat.le_trans (ndiv_digs l3) (by omega)) w) (fun w => lowestF h1 h2 w)
theorem of_val_q (n d : Int) (h0 : d ≠ 0) : mkRat (if d < 0 then -n else n) d.natAbs = (n : Rat) / (d : Rat) := by
 rw [Rat.mkRat_eq_div]
 by_cases h : d < 0
 ·rw [if_pos h]
  have e : ((d.natAbs : Nat) : Rat) = -(d : Rat) := by
   rw [show ((d.natAbs : Nat) : Rat) = (((d.natAbs : Nat) : Int) : Rat) from (Rat.intCast_natCast _).symm, show ((d.natAbs : Nat) : Int) = -d by omega, Rat.intCast_neg]
  rw [e, Rat.intCast_neg]
  have hd : (d : Rat) ≠ 0 := by simpa using h0
  grind
 ·rw [if_neg h, show ((d.natAbs : Nat) : Rat) = (((d.natAbs : Nat) : Int) : Rat) from (Rat.intCast_natCast _).symm, show ((d.natAbs : Nat) : Int) = d by omega]
theorem i64_dI {z : Int} (h1 : -9223372036854775808 ≤ z) (h2 : z < 9223372036854775808) : dI z ≤ 1 := digs_length_iff.2 (by unfold Bs; omega)
theorem ofF (n d : Int) (a1 : -9223372036854775808 ≤ n) (a2 : n < 9223372036854775808) (b1 : -9223372036854775808 ≤ d) (b2 : d < 9223372036854775808) (h0 : d ≠ 0) (w : World) :
  Calls Tryz.prog 67 #[.int .i64 n, .int .i64 d] w fun x w' => x = .returned (.tuple #[fracV ((n : Rat) / (d : Rat)), .int .i64 0]) ∧ Below w.heap.size w w' := by
 rw [← of_val_q n d h0]
 have hs := dec_sgn d
 have ln := i64_dI a1 a2
 have ld : (digs d.natAbs).length ≤ 1 := i64_dI b1 b2
 by_cases h : d < 0
 ·rw [decide_eq_true h] at hs
  rw [if_pos h]
  exact fof_true n d (sgn d) (-n) _ n d _ _ 0 (fun w => ofI n a1 a2 w) (fun w => ofI d b1 b2 w) (signI d) (fun w => negI n w) (absI d) (fromF (-n) d.natAbs (by omega) (by rw [dI_neg]; omega) (by omega)) hs w
 ·rw [decide_eq_false h] at hs
  rw [if_neg h]
  exact fof_false n d (sgn d) n _ n d _ _ 0 (fun w => ofI n a1 a2 w) (fun w => ofI d b1 b2 w) (signI d) (absI d) (fromF n d.natAbs (by omega) (by omega) (by omega)) hs w
end Go.Proofs.YtkdbhacimoaohaaGreatDoor
namespace Go.Proofs.YtkdbhacimoaohaaGreatDoor
open Go.RowKit
attribute [local irreducible] lo hs sm s64 c64 d64 b64 mh ml pd pc qd qc val hiB str cmpI srD lz nb zl zh zs fe
/-- A slice's fractions. -/
structure FS (w : World) (g : Nat) (qs : List Rat) : Prop where
 cell : ∀ i (h : i < qs.length), w.cell? ⟨g, i * 5, none⟩ = some (.int .u64 ((zl qs[i].num : Nat) : Int)) ∧ w.cell? ⟨g, i * 5 + 1, none⟩ = some (.string (zh qs[i].num)) ∧ w.cell? ⟨g, i * 5 + 2, none⟩ = some (.bool (zs qs[i].num)) ∧
  w.cell? ⟨g, i * 5 + 3, none⟩ = some (.int .u64 ((lo (fe qs[i]) : Nat) : Int)) ∧ w.cell? ⟨g, i * 5 + 4, none⟩ = some (.string (hs (fe qs[i])))
 lt : g < w.heap.size
theorem FS.below {w w' : World} {g : Nat} {qs : List Rat} (h : FS w g qs) (hb : Below w.heap.size w w') : FS w' g qs := by
 have hs := hb.size
 have hl := h.lt
 refine ⟨fun i hi => ?_, by omega⟩
 obtain ⟨h0, h1, h2, h3, h4⟩ := h.cell i hi
 exact ⟨(hb.cell (p := ⟨g, i * 5, none⟩) hl).trans h0, (hb.cell (p := ⟨g, i * 5 + 1, none⟩) hl).trans h1, (hb.cell (p := ⟨g, i * 5 + 2, none⟩) hl).trans h2, (hb.cell (p := ⟨g, i * 5 + 3, none⟩) hl).trans h3, (hb.cell (p := ⟨g, i * 5 + 4, none⟩) hl).trans h4⟩
def SlQ (w : World) (v : Value) (qs : List Rat) : Prop := (∃ ao c, v = .slice ao 0 c ∧ qs = []) ∨ ∃ g c, v = .slice (some ⟨g, 0, none⟩) qs.length c ∧ FS w g qs
theorem SlQ.below {w w' : World} {v : Value} {qs : List Rat} (h : SlQ w v qs) (hb : Below w.heap.size w w') : SlQ w' v qs := by
 rcases h with h | ⟨g, c, h1, h2⟩
 ·exact .inl h
 ·exact .inr ⟨g, c, h1, h2.below hb⟩
theorem SlQ.keeps (v : Value) (qs : List Rat) : Keeps (fun w => SlQ w v qs) := fun _ _ hb h => h.below hb
theorem fe_zero : fe 0 = 0 := fe_one rfl
end Go.Proofs.YtkdbhacimoaohaaGreatDoor
namespace Go.Proofs.YtkdbhacimoaohaaGreatDoor
open Go.RowKit
attribute [local irreducible] lo hs sm s64 c64 d64 b64 mh ml pd pc qd qc val hiB str cmpI srD lz nb zl zh zs fe
theorem GL.join {w x y : World} {L M : List (Nat × List Value)} (h : GL w x L) (g : GL x y M) : GL w y (M ++ L) := by
 have h2 := h.call g.bl
 refine ⟨h2.bl, fun p hp => ?_, ?_⟩
 ·rcases List.mem_append.1 hp with hp | hp
  ·exact ⟨Nat.le_trans h.bl.size (g.all p hp).1, (g.all p hp).2⟩
  ·exact h2.all p hp
 ·rw [List.map_append, List.nodup_append]
  refine ⟨g.nd, h.nd, fun a ha b hb => ?_⟩
  obtain ⟨p, hp, rfl⟩ := List.mem_map.1 ha
  obtain ⟨q, hq, rfl⟩ := List.mem_map.1 hb
  have h3 := (g.all p hp).1
  have h4 := (h.all q hq).2.lt
  omega
theorem zero_cells : ([.int .u64 ((zl ((0 : Rat)).num : Nat) : Int), .string (zh ((0 : Rat)).num), .bool (zs ((0 : Rat)).num), .int .u64 ((lo (fe (0 : Rat)) : Nat) : Int), .string (hs (fe (0 : Rat)))] : List Value) = ([.int .u64 0, .string ⟨#[]⟩, .bool false, .int .u64 0, .string ⟨#[]⟩] : List Value) := by
 rw [fe_zero, (show (0 : Rat).num = 0 from rfl), (z0).1, (z0).2.1, (z0).2.2, lo_small Bs_pos, hs_small Bs_pos]; rfl
/-- The sum, from the left. -/
def qsum (l : List Rat) : Rat := l.foldl (· + ·) 0
theorem qsum_snoc (l : List Rat) (a : Rat) : qsum (l ++ [a]) = qsum l + a := by unfold qsum; rw [List.foldl_append]; rfl
theorem qsum_sz {k : Nat} : ∀ (l : List Rat) (m : Nat) (s : Rat), Sz s m → (∀ q ∈ l, Sz q k) → Sz (l.foldl (· + ·) s) (m + l.length * (k + 1)) := by
 intro l
 induction l with
 | nil => intro m s hs _; simpa using hs
 | cons a l ih =>
  intro m s hs hl
  have h := ih (m + k + 1) (s + a) (hs.add (hl a (by simp))) (fun q hq => hl q (by simp [hq]))
  rw [List.foldl_cons, List.length_cons, Nat.succ_mul]
  exact h.mono (by omega)
theorem total_add (w0 : World) (t : Nat) (q a r : Rat) (HA : RT 16 #[fracV q, fracV a] (fracV r)) (w : World) (hL0 : GL w0 w [(t, [.int .u64 ((zl q.num : Nat) : Int), .string (zh q.num), .bool (zs q.num), .int .u64 ((lo (fe q) : Nat) : Int), .string (hs (fe q))])]) :
  Calls Tryz.prog 49 #[.pointer (some ⟨t, 0, none⟩), fracV a] w fun xe w' => xe = .returned (.tuple #[]) ∧ GL w0 w' [(t, [.int .u64 ((zl r.num : Nat) : Int), .string (zh r.num), .bool (zs r.num), .int .u64 ((lo (fe r) : Nat) : Int), .string (hs (fe r))])] := by
 replace HA := Lib.hid HA
 obtain ⟨x1, hweq, hL0⟩ := GL.named (hL0.new rfl [.int .u64 ((zl a.num : Nat) : Int), .string (zh a.num), .bool (zs a.num), .int .u64 ((lo (fe a) : Nat) : Int), .string (hs (fe a))] 38)
 go_enter Tryz.func49, Tryz.ntmps49
 go_upto_region 1 with fail
 clear hweq
 obtain ⟨α, iα, F, hF1, hF2⟩ := cls x1
 have hq0 := cls_box hF1 hL0 _ _ mZ
 simp only [zC, Nat.reduceAdd] at hq0
 have hq1 := cls_box hF1 hL0 _ _ (mK mZ)
 simp only [zC, Nat.reduceAdd] at hq1
 refine region_qs 9 (C := fun w' => ∃ x, w' = F x) (by kernel_rfl) (by kernel_rfl) (cls_drew hF2) ?_
 simp only [zT]
 repeat (go_big_quiet_step (first | fail | (go_at_call 16; with_reducible exact cls_call hF1 hF2 HA.out _)))
 refine wpQuiet_nil ?_
 rintro wq ⟨xq, rfl⟩
 replace hL0 := hL0.call (hF1 xq)
 clear  hq0 hq1 hF2
 generalize F xq = x2 at hL0 ⊢
 clear hF1 xq iα F α
 have hA := hL0.fc
 simp only [zF, Nat.reduceAdd] at hA
 obtain ⟨x3, hput1, hP⟩ := GL.named (hL0.put 1 (t) _ rfl [.int .u64 ((zl r.num : Nat) : Int), .string (zh r.num), .bool (zs r.num), .int .u64 ((lo (fe r) : Nat) : Int), .string (hs (fe r))] rfl)
 simp only [setAll] at hput1
 simp only [List.set_cons_zero, List.set_cons_succ] at hP
 have hB1 := hP.fc
 simp only [zF, Nat.reduceAdd] at hB1
 replace hL0 := hP
 go_wp2_with fail
 go_end0
 exact ⟨rfl, hL0.weak (List.Sublist.cons _ (List.Sublist.refl _))⟩
theorem each_add (w0 : World) (t : Nat) (ao : Option Addr) (n c : Nat) (qs : List Rat) (q : Rat) (hq0 : q = 0) (hn : (0 < n → ∃ g, ao = some ⟨g, 0, none⟩ ∧ FS w0 g qs) ∧ qs.length = n ∧ n ≤ 1000000)
  (HA : ∀ (q a : Rat) (i : Nat), a ∈ qs → q = qsum (qs.take i) → ∀ w, GL w0 w [(t, [.int .u64 ((zl q.num : Nat) : Int), .string (zh q.num), .bool (zs q.num), .int .u64 ((lo (fe q) : Nat) : Int), .string (hs (fe q))])] → Calls Tryz.prog 49 #[.pointer (some ⟨t, 0, none⟩), fracV a] w fun xe w' => xe = .returned (.tuple #[]) ∧ GL w0 w' [(t, [.int .u64 ((zl (q + a).num : Nat) : Int), .string (zh (q + a).num), .bool (zs (q + a).num), .int .u64 ((lo (fe (q + a)) : Nat) : Int), .string (hs (fe (q + a)))])])
  (w : World) (hL0 : GL w0 w [(t, [.int .u64 ((zl q.num : Nat) : Int), .string (zh q.num), .bool (zs q.num), .int .u64 ((lo (fe q) : Nat) : Int), .string (hs (fe q))])]) :
  Calls Tryz.prog 48 #[.slice ao n c, .func (.func 49) #[.pointer (some ⟨t, 0, none⟩)] #[]] w fun xe w' => xe = .returned (.tuple #[]) ∧ GL w0 w' [(t, [.int .u64 ((zl (qsum qs).num : Nat) : Int), .string (zh (qsum qs).num), .bool (zs (qsum qs).num), .int .u64 ((lo (fe (qsum qs)) : Nat) : Int), .string (hs (fe (qsum qs)))])] := by
 replace HA := Lib.hid HA
 have hle := hn.2.2
 have hcell := Lib.hid hn.1
 have hlen := hn.2.1
 clear hn
 go_enter Tryz.func48, Tryz.ntmps48
 have hA := hL0.fc
 simp only [zF, Nat.reduceAdd] at hA
 go_wp2_with fail
 clear hA
 go_loopw [8] (fun z wr => ∃ (i : Nat) (zi : Int) (q : Rat), i ≤ n ∧ z = .int .i64 zi ∧ zi = (i : Int) ∧ q = qsum (qs.take i) ∧ GL w0 wr [(t, [.int .u64 ((zl q.num : Nat) : Int), .string (zh q.num), .bool (zs q.num), .int .u64 ((lo (fe q) : Nat) : Int), .string (hs (fe q))])]) (fun z _ => n - (intOf z).toNat)
 case atStart => exact ⟨0, _, _, Nat.zero_le _, rfl, rfl, by rw [hq0]; rfl, hL0⟩
 case round =>
  clear hL0 hq0 q
  obtain ⟨i, zi, q, hi, rfl, hzi, hq, hL0⟩ := hrel
  rcases Nat.lt_or_ge i n with hin | hin
  ·obtain ⟨g, rfl, hfs⟩ := hcell.out (by omega)
   subst hzi
   have hf := (hfs.below hL0.bl).cell i (by omega)
   have k1 : (i : Int) < (n : Int) := by omega
   have k0 : (0 : Int) ≤ (i : Int) := Int.natCast_nonneg _
   obtain ⟨a, ha⟩ : ∃ a, a = qs[i]'(by omega) := ⟨_, rfl⟩
   rw [← ha] at hf
   have hmem : a ∈ qs := by rw [ha]; exact List.getElem_mem _
   have htk : qs.take (i + 1) = qs.take i ++ [a] := by rw [List.take_succ_eq_append_getElem (by omega), ha]
   clear ha
   obtain ⟨f0, f1, f2, f3, f4⟩ := hf
   have HA1 := Lib.hid (HA.out q a i hmem hq)
   replace htk := Lib.hid htk
   replace hq := Lib.hid hq
   clear hmem
   obtain ⟨x1, hweq, hL0⟩ := GL.named (hL0.new rfl [.int .u64 ((zl a.num : Nat) : Int), .string (zh a.num), .bool (zs a.num), .int .u64 ((lo (fe a) : Nat) : Int), .string (hs (fe a))] 38)
   have hN0 := cells_of _ 0 [] rfl (hL0.get _ _ mZ)
   simp only [zF, Nat.reduceAdd] at hN0
   go_wp2_with fail
   clear hN0
   with_reducible refine Calls.mono (HA1.out _ (hL0.weak (List.Sublist.cons _ (List.Sublist.refl _)))) ?_
   rintro e x9 ⟨rfl, hG⟩
   clear hL0 hweq f0 f1 f2 f3 f4
   go_wp2_with fail
   go_roundw
   case rel => exact ⟨i + 1, _, _, by omega, by first | rfl | go_num, by omega, by rw [htk.out, qsum_snoc, ← hq.out], hG⟩
   case measure => simp [intOf]; omega
  ·obtain rfl : i = n := by omega
   subst hzi
   have k1 : ¬ (i : Int) < (i : Int) := by omega
   have hqq := hq.trans (congrArg qsum (List.take_of_length_le (Nat.le_of_eq hlen)))
   subst hqq
   clear hq
   go_wp2_with fail
   go_end0
   exact ⟨rfl, hL0⟩
theorem sum_w (ao : Option Addr) (n c : Nat) (qs : List Rat) (hn0 : n ≤ 1000000)
  (HE : ∀ (w0 : World) (t : Nat), (0 < n → ∃ g, ao = some ⟨g, 0, none⟩ ∧ FS w0 g qs) ∧ qs.length = n ∧ n ≤ 1000000 → ∀ w, GL w0 w [(t, [.int .u64 ((zl ((0 : Rat)).num : Nat) : Int), .string (zh ((0 : Rat)).num), .bool (zs ((0 : Rat)).num), .int .u64 ((lo (fe (0 : Rat)) : Nat) : Int), .string (hs (fe (0 : Rat)))])] → Calls Tryz.prog 48 #[.slice ao n c, .func (.func 49) #[.pointer (some ⟨t, 0, none⟩)] #[]] w fun xe w' => xe = .returned (.tuple #[]) ∧ GL w0 w' [(t, [.int .u64 ((zl (qsum qs).num : Nat) : Int), .string (zh (qsum qs).num), .bool (zs (qsum qs).num), .int .u64 ((lo (fe (qsum qs)) : Nat) : Int), .string (hs (fe (qsum qs)))])])
  (w : World) (hn : (0 < n → ∃ g, ao = some ⟨g, 0, none⟩ ∧ FS w g qs) ∧ qs.length = n ∧ n ≤ 1000000) :
  Calls Tryz.prog 14 #[.slice ao n c] w fun xe w' => xe = .returned (fracV (qsum qs)) ∧ Below w.heap.size w w' := by
 have hL0 : GL w w [] := GL.start w
 generalize qsum qs = s at *
 replace HE := Lib.hid HE
 have hn2 := Lib.hid hn.2
 have hcell := Lib.hid hn.1
 clear hn
 obtain ⟨x1, hweq, hL0⟩ := GL.named (hL0.new rfl [.int .u64 0, .string ⟨#[]⟩, .bool false, .int .u64 0, .string ⟨#[]⟩] 38)
 have hG : GL x1 x1 [] := GL.start x1
 replace hG := hG.new rfl [.int .u64 0, .string ⟨#[]⟩, .bool false, .int .u64 0, .string ⟨#[]⟩] 86
 generalize hweq2 : x1.alloc (.cells #[.int .u64 0, .string ⟨#[]⟩, .bool false, .int .u64 0, .string ⟨#[]⟩] 86) = x2 at hG
 go_enter Tryz.func14, Tryz.ntmps14
 go_wp2_with fail
 rw [← zero_cells] at hG
 have hc2 : 0 < n → ∃ g, ao = some ⟨g, 0, none⟩ ∧ FS x1 g qs := fun h => by obtain ⟨g, h1, h2⟩ := hcell.out h; exact ⟨g, h1, h2.below hL0.bl⟩
 with_reducible refine Calls.mono (HE.out x1 x1.heap.size ⟨hc2, hn2.out⟩ x2 hG) ?_
 rintro e x3 ⟨rfl, hE⟩
 replace hL0 := hL0.join hE
 simp only [List.cons_append, List.nil_append] at hL0
 clear hE hG hweq hweq2 hc2 hcell hn2 HE
 generalize x1.heap.size = t at *
 have hA := hL0.fc
 simp only [zF, Nat.reduceAdd] at hA
 obtain ⟨x2, hput1, hP⟩ := GL.named (hL0.put 1 (w.heap.size) _ rfl [.int .u64 ((zl s.num : Nat) : Int), .string (zh s.num), .bool (zs s.num), .int .u64 ((lo (fe s) : Nat) : Int), .string (hs (fe s))] rfl)
 simp only [setAll] at hput1
 simp only [List.set_cons_zero, List.set_cons_succ] at hP
 have hB1 := hP.fc
 simp only [zF, Nat.reduceAdd] at hB1
 replace hL0 := hP
 go_wp2_with fail
 exact bodyPost_ret (v := fracV s) (by simp [results, Tryz.results14, go_sem, hB1]) rfl ⟨rfl, hL0.bl⟩
theorem slq_parts' {w : World} {ao : Option Addr} {n c : Nat} {qs : List Rat} (h : SlQ w (.slice ao n c) qs) (hl : qs.length ≤ 1000000) : (0 < n → ∃ g, ao = some ⟨g, 0, none⟩ ∧ FS w g qs) ∧ qs.length = n ∧ n ≤ 1000000 := by
 rcases h with ⟨ao, c, h1, rfl⟩ | ⟨g, c, h1, h2⟩
 ·simp only [Value.slice.injEq] at h1
  obtain ⟨-, rfl, -⟩ := h1
  exact ⟨fun h => absurd h (by omega), rfl, by omega⟩
 ·simp only [Value.slice.injEq] at h1
  obtain ⟨rfl, rfl, -⟩ := h1
  exact ⟨fun _ => ⟨g, rfl, h2⟩, rfl, hl⟩
end Go.Proofs.YtkdbhacimoaohaaGreatDoor
namespace Go.Proofs.YtkdbhacimoaohaaGreatDoor
open Go.RowKit
attribute [local irreducible] lo hs sm s64 c64 d64 b64 mh ml pd pc qd qc val hiB str cmpI srD lz nb zl zh zs
/-- A term as the program holds it. -/
abbrev TI := Int × Int × Rat
def tmC (t : TI) : List Value := [.int .i64 t.1, .int .i64 t.2.1, .int .u64 ((zl t.2.2.num : Nat) : Int), .string (zh t.2.2.num), .bool (zs t.2.2.num), .int .u64 ((lo (fe t.2.2) : Nat) : Int), .string (hs (fe t.2.2))]
abbrev tmV (i j : Int) (q : Rat) : Value := .agg #[.int .i64 i, .int .i64 j, .int .u64 ((zl q.num : Nat) : Int), .string (zh q.num), .bool (zs q.num), .int .u64 ((lo (fe q) : Nat) : Int), .string (hs (fe q))]
def tmCs (l : List TI) : List Value := l.flatMap tmC
theorem tmCs_nil : tmCs [] = [] := rfl
theorem tmC_length (q : TI) : (tmC q).length = 7 := rfl
theorem tmCs_length : ∀ l : List TI, (tmCs l).length = l.length * 7
 | [] => rfl
 | q :: l => by unfold tmCs; rw [List.flatMap_cons, List.length_append, tmC_length, List.length_cons]; have := tmCs_length l; unfold tmCs at this; omega
theorem tmCs_append (l m : List TI) : tmCs (l ++ m) = tmCs l ++ tmCs m := by unfold tmCs; rw [List.flatMap_append]
theorem tmCs_snoc (l : List TI) (q : TI) : tmCs (l ++ [q]) = tmCs l ++ tmC q := by rw [tmCs_append]; simp [tmCs]
theorem tmCs_get : ∀ (l : List TI) (i j : Nat) (h : i < l.length), j < 7 → (tmCs l)[i * 7 + j]? = (tmC l[i])[j]?
 | q :: l, 0, j, h, hj => by
  unfold tmCs
  rw [List.flatMap_cons, Nat.zero_mul, Nat.zero_add, List.getElem?_append_left (by rw [tmC_length]; exact hj)]; rfl
 | q :: l, i + 1, j, h, hj => by
  have hi : i < l.length := by simpa using h
  have ih := tmCs_get l i j hi hj
  unfold tmCs at ih ⊢
  rw [List.flatMap_cons, List.getElem?_append_right (by rw [tmC_length]; omega), tmC_length, show (i + 1) * 7 + j - 7 = i * 7 + j by omega, ih]
  rfl
theorem tmC_one : ∀ (q : TI), ∀ u ∈ tmC q, u.oneCell' = true := by
 intro q u hu
 unfold tmC at hu
 simp only [List.mem_cons, List.not_mem_nil, or_false] at hu
 rcases hu with rfl | rfl | rfl | rfl | rfl | rfl | rfl <;> rfl
theorem tmCs_one (l : List TI) : ∀ u ∈ tmCs l, u.oneCell' = true := by
 intro u hu
 obtain ⟨q, -, hq⟩ := List.mem_flatMap.1 hu
 exact tmC_one q u hq
structure TS (w : World) (g : Nat) (l : List TI) : Prop where
 cell : ∀ i (h : i < l.length), w.cell? ⟨g, i * 7, none⟩ = some (.int .i64 l[i].1) ∧ w.cell? ⟨g, i * 7 + 1, none⟩ = some (.int .i64 l[i].2.1) ∧ w.cell? ⟨g, i * 7 + 2, none⟩ = some (.int .u64 ((zl l[i].2.2.num : Nat) : Int)) ∧ w.cell? ⟨g, i * 7 + 3, none⟩ = some (.string (zh l[i].2.2.num)) ∧
  w.cell? ⟨g, i * 7 + 4, none⟩ = some (.bool (zs l[i].2.2.num)) ∧ w.cell? ⟨g, i * 7 + 5, none⟩ = some (.int .u64 ((lo (fe l[i].2.2) : Nat) : Int)) ∧ w.cell? ⟨g, i * 7 + 6, none⟩ = some (.string (hs (fe l[i].2.2)))
 lt : g < w.heap.size
theorem TS.below {w w' : World} {g : Nat} {l : List TI} (h : TS w g l) (hb : Below w.heap.size w w') : TS w' g l := by
 have hs := hb.size
 have hl := h.lt
 refine ⟨fun i hi => ?_, by omega⟩
 obtain ⟨h0, h1, h2, h3, h4, h5, h6⟩ := h.cell i hi
 exact ⟨(hb.cell (p := ⟨g, i * 7, none⟩) hl).trans h0, (hb.cell (p := ⟨g, i * 7 + 1, none⟩) hl).trans h1, (hb.cell (p := ⟨g, i * 7 + 2, none⟩) hl).trans h2, (hb.cell (p := ⟨g, i * 7 + 3, none⟩) hl).trans h3, (hb.cell (p := ⟨g, i * 7 + 4, none⟩) hl).trans h4,
  (hb.cell (p := ⟨g, i * 7 + 5, none⟩) hl).trans h5, (hb.cell (p := ⟨g, i * 7 + 6, none⟩) hl).trans h6⟩
theorem TS.cells {w : World} {g : Nat} {l : List TI} (h : TS w g l) (j : Nat) (u : Value) (hu : (tmCs l)[j]? = some u) : w.cell? ⟨g, j, none⟩ = some u := by
 have hj : j < (tmCs l).length := (List.getElem?_eq_some_iff.1 hu).1
 rw [tmCs_length] at hj
 have hi : j / 7 < l.length := by omega
 have e := tmCs_get l (j / 7) (j % 7) hi (Nat.mod_lt _ (by omega))
 rw [show j / 7 * 7 + j % 7 = j by omega, hu] at e
 obtain ⟨h0, h1, h2, h3, h4, h5, h6⟩ := h.cell _ hi
 have hk : j = j / 7 * 7 + j % 7 := by omega
 have hm : j % 7 < 7 := Nat.mod_lt _ (by omega)
 generalize j / 7 = i at *
 generalize j % 7 = k at *
 subst hk
 rcases (show k = 0 ∨ k = 1 ∨ k = 2 ∨ k = 3 ∨ k = 4 ∨ k = 5 ∨ k = 6 by omega) with rfl | rfl | rfl | rfl | rfl | rfl | rfl <;> (injection e.symm.trans (show _ = some _ from rfl) with e; subst e; first | exact h0 | exact h1 | exact h2 | exact h3 | exact h4 | exact h5 | exact h6)
/-- The slice v holds the terms l. -/
def PT (w : World) (v : Value) (l : List TI) : Prop := (∃ ao c, v = .slice ao 0 c ∧ l = []) ∨ ∃ g c, v = .slice (some ⟨g, 0, none⟩) l.length c ∧ TS w g l
theorem PT.below {w w' : World} {v : Value} {l : List TI} (h : PT w v l) (hb : Below w.heap.size w w') : PT w' v l := by
 rcases h with h | ⟨g, c, h1, h2⟩
 ·exact .inl h
 ·exact .inr ⟨g, c, h1, h2.below hb⟩
theorem PT.keeps (v : Value) (l : List TI) : Keeps (fun w => PT w v l) := fun _ _ hb h => h.below hb
theorem pt_nil (w : World) : PT w (.slice none 0 0) [] := .inl ⟨none, 0, rfl, rfl⟩
theorem pt_form {w : World} {v : Value} {l : List TI} (h : PT w v l) : ∃ ao n c, v = .slice ao n c ∧ n = l.length := by
 rcases h with ⟨ao, c, h1, rfl⟩ | ⟨g, c, h1, h2⟩
 ·exact ⟨ao, 0, c, h1, rfl⟩
 ·exact ⟨_, _, c, h1, rfl⟩
theorem pt_parts {w : World} {ao : Option Addr} {n c : Nat} {l : List TI} (h : PT w (.slice ao n c) l) : n = l.length ∧ (0 < n → ∃ g, ao = some ⟨g, 0, none⟩ ∧ TS w g l) := by
 rcases h with ⟨a2, c2, h1, rfl⟩ | ⟨g, c2, h1, h2⟩
 ·simp only [Value.slice.injEq] at h1
  obtain ⟨-, rfl, -⟩ := h1
  exact ⟨rfl, fun h => by omega⟩
 ·simp only [Value.slice.injEq] at h1
  obtain ⟨rfl, rfl, -⟩ := h1
  exact ⟨rfl, fun _ => ⟨g, rfl, h2⟩⟩
theorem pt_mk {w : World} {ao : Option Addr} {n c : Nat} {l : List TI} (hn : n = l.length) (h : 0 < n → ∃ g, ao = some ⟨g, 0, none⟩ ∧ TS w g l) : PT w (.slice ao n c) l := by
 subst hn
 rcases Nat.eq_zero_or_pos l.length with h0 | h0
 ·rw [h0]; exact .inl ⟨ao, c, rfl, List.eq_nil_of_length_eq_zero h0⟩
 ·obtain ⟨g, rfl, h2⟩ := h h0
  exact .inr ⟨g, c, rfl, h2⟩
theorem add0H (g j : Nat) : (⟨g, 0, none⟩ : Addr).add j = ⟨g, j, none⟩ := by
 unfold Addr.add
 by_cases h : j = 0
 ·subst h; simp
 ·simp [h]
abbrev OwnT (w : World) (B : Nat) (v : Value) (n : Nat) (l : List TI) : Prop := w.ownsRow B 80 7 v n (tmCs l)
theorem ownT_cells {w : World} {B n : Nat} {v : Value} {l : List TI} {g : Nat} {c : Nat} (h : OwnT w B v n l) (hv : v = .slice (some ⟨g, 0, none⟩) n c) (j : Nat) (u : Value) (hu : (tmCs l)[j]? = some u) : w.cell? ⟨g, j, none⟩ = some u := by
 have := World.ownsRow.cells h (g := g) (by rw [hv]; rfl) j u hu
 rw [add0H] at this
 exact this
theorem ownT_ts {w : World} {B n g c : Nat} {v : Value} {l : List TI} (h : OwnT w B v n l) (hv : v = .slice (some ⟨g, 0, none⟩) n c) : TS w g l := by
 have hc := ownT_cells h hv
 refine ⟨fun i hi => ?_, (h.lt g (by rw [hv]; rfl)).2⟩
 have e := fun j hj => tmCs_get l i j hi hj
 exact ⟨hc _ _ (by have := e 0 (by omega); rw [Nat.add_zero] at this; exact this), hc _ _ (e 1 (by omega)), hc _ _ (e 2 (by omega)), hc _ _ (e 3 (by omega)), hc _ _ (e 4 (by omega)), hc _ _ (e 5 (by omega)), hc _ _ (e 6 (by omega))⟩
theorem ownT_pt {w : World} {B n : Nat} {v : Value} {l : List TI} (h : OwnT w B v n l) (hn : n = l.length) : PT w v l := by
 rcases h.2 with ⟨h1, h2⟩ | ⟨g, cap, cur, h1, h2, h3, h4, h5, h6, h7⟩
 ·exact .inl ⟨none, 0, h1, List.eq_nil_of_length_eq_zero (by omega)⟩
 ·exact .inr ⟨g, cap, by rw [h1, hn], ownT_ts h h1⟩
theorem ownT_below {w w' : World} {B n : Nat} {v : Value} {l : List TI} (h : OwnT w B v n l) (hb : Below w.heap.size w w') : OwnT w' B v n l := by
 refine ⟨h.1, ?_⟩
 rcases h.2 with h1 | ⟨g, cap, cur, h1, h2, h3, h4⟩
 ·exact .inl h1
 ·refine .inr ⟨g, cap, cur, h1, h2, ?_, h4⟩
  have hg := (h.lt g (by rw [h1]; rfl)).2
  rw [hb.block g hg]; exact h3
/-- .. while blocks below B, new ones, and one that is not the row's turn. -/
theorem ownT_kept {w w' : World} {B n : Nat} {v : Value} {l : List TI} (h : OwnT w B v n l) {row : Option Nat} (hg : w.grownBy w' row) (hr : ∀ g, row = some g → g < B) : OwnT w' B v n l := by
 refine ⟨h.1, ?_⟩
 rcases h.2 with h1 | ⟨g, cap, cur, h1, h2, h3, h4⟩
 ·exact .inl h1
 ·refine .inr ⟨g, cap, cur, h1, h2, ?_, h4⟩
  have hlt := (h.lt g (by rw [h1]; rfl)).2
  rw [hg.block g hlt (fun e => by have := hr g e.symm; omega)]; exact h3
theorem infoT : (Tryz.prog.info? 80).map (fun i => (i.zero, i.size, i.bytes)) = some (some (.agg #[.int .i64 0, .int .i64 0, .int .u64 0, .string ⟨#[]⟩, .bool false, .int .u64 0, .string ⟨#[]⟩]), 7, 72) := by kernel_rfl
theorem hd_newsH {w : World} {k : Nat} {c : List Value} (h : Hd w k c) : ∀ (j : Nat) (u : Value), c[j]? = some u → w.cell? ((⟨k, 0, none⟩ : Addr).add j) = some u := by
 intro j u hu
 obtain ⟨hj, he⟩ := List.getElem?_eq_some_iff.1 hu
 rw [add0H, h.cell j hj, he]
/-- Valid terms. -/
def Vd (t : TI) : Prop := 0 ≤ t.1 ∧ 0 ≤ t.2.1 ∧ t.1 + t.2.1 ≤ 12
def VdL (l : List TI) : Prop := ∀ t ∈ l, Vd t
instance (t : TI) : Decidable (Vd t) := by unfold Vd; exact inferInstance
instance (l : List TI) : Decidable (VdL l) := by unfold VdL; exact inferInstance
def toT (t : TI) : Nat × Nat × Rat := (t.1.toNat, t.2.1.toNat, t.2.2)
def ofT (t : Nat × Nat × Rat) : TI := ((t.1 : Int), (t.2.1 : Int), t.2.2)
def toL (l : List TI) : TL := l.map toT
def ofL (p : TL) : List TI := p.map ofT
theorem toT_ofT (t : Nat × Nat × Rat) : toT (ofT t) = t := by simp [toT, ofT]
theorem toL_ofL (p : TL) : toL (ofL p) = p := by simp [toL, ofL, Function.comp_def, toT_ofT]
theorem ofT_toT {t : TI} (h : Vd t) : ofT (toT t) = t := by
 obtain ⟨h1, h2, h3⟩ := h
 simp [toT, ofT, Int.toNat_of_nonneg h1, Int.toNat_of_nonneg h2]
theorem ofL_toL {l : List TI} (h : VdL l) : ofL (toL l) = l := by
 induction l with
 | nil => rfl
 | cons t l ih => simp only [toL, ofL, List.map_cons]; rw [ofT_toT (h t mZ)]; have := ih (fun u hu => h u (mK hu)); unfold toL ofL at this; rw [this]
theorem vd_ofT {t : Nat × Nat × Rat} : Vd (ofT t) ↔ t.1 + t.2.1 ≤ 12 := by unfold Vd ofT; simp only; omega
theorem vd_ofL {p : TL} : VdL (ofL p) ↔ TB p 12 := by
 unfold VdL ofL TB
 simp only [List.mem_map, forall_exists_index, and_imp, forall_apply_eq_imp_iff₂, vd_ofT]
theorem tb_toL {l : List TI} (h : VdL l) : TB (toL l) 12 := fun t ht => by
 obtain ⟨u, hu, rfl⟩ := List.mem_map.1 ht
 obtain ⟨h1, h2, h3⟩ := h u hu
 show u.1.toNat + u.2.1.toNat ≤ 12
 omega
end Go.Proofs.YtkdbhacimoaohaaGreatDoor
namespace Go.Proofs.YtkdbhacimoaohaaGreatDoor
open Go.RowKit
attribute [local irreducible] lo hs sm s64 c64 d64 b64 mh ml pd pc qd qc val hiB str cmpI srD lz nb zl zh zs
/-- An element of the map as it reads. -/
def dq (q : Rat) : DataW Unit := .agg [.lit (.int .i64 q.num), .lit (.int .i64 (q.den : Int))]
theorem dq_inj {p q : Rat} (h : dq p = dq q) : p = q := by
 unfold dq at h
 simp only [DataW.agg.injEq, List.cons.injEq, DataW.lit.injEq, Lit.int.injEq, true_and, and_true] at h
 exact Rat.ext h.1 (by omega)
open Classical in
noncomputable def frR (v : Value) : Option (DataW Unit × List MemPlace) := if h : ∃ q, v = fracV q then some (dq h.choose, []) else none
theorem frR_mk (q : Rat) : frR (fracV q) = some (dq q, []) := by
 have h : ∃ p, fracV q = fracV p := ⟨q, rfl⟩
 unfold frR
 rw [dif_pos h]
 have e : q = h.choose := fracV_inj h.choose_spec
 rw [← e]
theorem frR_inv {v : Value} {y : DataW Unit × List MemPlace} (h : frR v = some y) : ∃ q, v = fracV q ∧ y = (dq q, []) := by
 by_cases hq : ∃ q, v = fracV q
 ·obtain ⟨q, rfl⟩ := hq
  rw [frR_mk] at h
  exact ⟨q, rfl, (Option.some.inj h).symm⟩
 ·unfold frR at h
  rw [dif_neg hq] at h
  cases h
abbrev kyV (i j : Int) : Value := .agg #[.int .i64 i, .int .i64 j]
theorem laid8 : laidOutB Tryz.prog = true := by kernel_rfl
theorem row8 : (114 : TypeId) < Tryz.prog.types.size := of_decide_eq_true (by kernel_rfl)
theorem law8 : Maps.Keyed Tryz.prog 114 := Maps.Keyed.of_law (deep_law_laid laid8 (m := 2) (by omega) row8 (by kernel_rfl) (by kernel_rfl))
theorem key8_all : ((List.range 13).all fun i => (List.range 13).all fun j => (keyOf Tryz.prog 114 (kyV (i : Nat) (j : Nat))).isSome) = true := by kernel_rfl
noncomputable def klT (i j : Nat) : Lit := (keyOf Tryz.prog 114 (kyV (i : Nat) (j : Nat))).getD (.bool false)
theorem key8 {i j : Nat} (hi : i ≤ 12) (hj : j ≤ 12) : keyOf Tryz.prog 114 (kyV (i : Nat) (j : Nat)) = some (klT i j) := by
 have h := List.all_eq_true.1 (List.all_eq_true.1 key8_all i (List.mem_range.2 (by omega))) j (List.mem_range.2 (by omega))
 unfold klT
 revert h
 cases keyOf Tryz.prog 114 (kyV (i : Nat) (j : Nat)) with
 | none => intro h; cases h
 | some l => intro _; rfl
attribute [local irreducible] klT
theorem klT_inj {i j k l : Nat} (hi : i ≤ 12) (hj : j ≤ 12) (hk : k ≤ 12) (hl : l ≤ 12) (h : klT i j = klT k l) : i = k ∧ j = l := by
 have e := law8.inj (key8 hi hj) (by rw [h]; exact key8 hk hl)
 simp only [Value.agg.injEq, Array.mk.injEq, List.cons.injEq, Value.int.injEq, and_true, true_and] at e
 omega
theorem klT_key {i j : Nat} (hi : i ≤ 12) (hj : j ≤ 12) : WideAt.IsKeyLit (klT i j) := law8.key (key8 hi hj)
/-- The map that holds the sum of p's terms. -/
structure MRep (D : DataW Unit) (p : TL) : Prop where
 at_ : ∀ i j, i + j ≤ 12 → D.atKey (klT i j) (dq 0) = dq (pair p (ind (i, j)))
 has_ : ∀ kl, Maps.has D kl = true → ∃ i j, i + j ≤ 12 ∧ kl = klT i j
 map_ : Maps.IsMap D
theorem MRep.start : MRep (.map []) [] := ⟨fun i j _ => rfl, fun kl h => (by cases h), ⟨[], rfl⟩⟩
theorem MRep.step {D : DataW Unit} {p : TL} (h : MRep D p) {i j : Nat} {c : Rat} (hij : i + j ≤ 12) : MRep (D.put (klT i j) (dq (pair p (ind (i, j)) + c))) (p ++ [(i, j, c)]) := by
 have hk := klT_key (i := i) (j := j) (by omega) (by omega)
 have e : ∀ k l, pair (p ++ [(i, j, c)]) (ind (k, l)) = pair p (ind (k, l)) + c * ind (k, l) i j := fun k l => by rw [pair_append]; simp only [pair]; grind
 refine ⟨fun k l hkl => ?_, fun kl hl => ?_, h.map_.put _ _⟩
 ·rw [e]
  by_cases hs : k = i ∧ l = j
  ·obtain ⟨rfl, rfl⟩ := hs
   rw [Maps.atKey_put_same h.map_ hk, show ind (k, l) k l = 1 by simp [ind], Rat.mul_one]
  ·rw [Maps.atKey_put_other (fun e => hs (klT_inj (by omega) (by omega) (by omega) (by omega) e)), h.at_ k l hkl, show ind (k, l) i j = 0 from if_neg (fun e => hs (by simp only [Prod.mk.injEq] at e; omega)), Rat.mul_zero, Rat.add_zero]
 ·by_cases hs : kl = klT i j
  ·exact ⟨i, j, hij, hs⟩
  ·rw [Maps.has_put_other hs] at hl
   exact h.has_ kl hl
theorem MRep.none {D : DataW Unit} {p : TL} (h : MRep D p) {i j : Nat} (hij : i + j ≤ 12) (hn : Maps.has D (klT i j) = false) : pair p (ind (i, j)) = 0 := by
 have e := h.at_ i j hij
 rw [Maps.atKey_of_not_has hn] at e
 exact (dq_inj e).symm
/-- What has been collected of the map D when the entries in 'left' are still to come. -/
structure Coll (D : DataW Unit) (p : TL) (left : Lit → Bool) (q : TL) : Prop where
 ne : q.Pairwise (fun s t => key s ≠ key t)
 mem : ∀ t ∈ q, left (klT t.1 t.2.1) = false ∧ t.2.2 = pair p (ind (t.1, t.2.1)) ∧ t.2.2 ≠ 0 ∧ t.1 + t.2.1 ≤ 12
 all : ∀ i j, i + j ≤ 12 → Maps.has D (klT i j) = true → left (klT i j) = false → pair p (ind (i, j)) ≠ 0 → (i, j, pair p (ind (i, j))) ∈ q
 sub : ∀ kl, left kl = true → Maps.has D kl = true
theorem Coll.start (D : DataW Unit) (p : TL) : Coll D p (Maps.has D) [] := ⟨List.Pairwise.nil, fun t h => (by cases h), fun i j _ h1 h2 => (by rw [h1] at h2; cases h2), fun kl h => h⟩
theorem strike_iff {left : Lit → Bool} {i j k l : Nat} (h1 : i + j ≤ 12) (h2 : k + l ≤ 12) : (left (klT k l) && !(klT k l).sameKey (klT i j)) = false ↔ left (klT k l) = false ∨ (k = i ∧ l = j) := by
 by_cases hs : k = i ∧ l = j
 ·obtain ⟨rfl, rfl⟩ := hs
  rw [WideAt.sameKey_self (klT_key (by omega) (by omega))]; simp
 ·rw [Maps.sameKey_ne (fun e => hs (klT_inj (by omega) (by omega) (by omega) (by omega) e))]; simp [hs]
theorem Coll.skip {D : DataW Unit} {p : TL} {left : Lit → Bool} {q : TL} (h : Coll D p left q) {i j : Nat} (hij : i + j ≤ 12) (h0 : pair p (ind (i, j)) = 0) : Coll D p (fun x => left x && !x.sameKey (klT i j)) q := by
 refine ⟨h.ne, fun t ht => ?_, fun k l hkl hD hl hn => ?_, fun kl hl => h.sub kl (by simp only [Bool.and_eq_true] at hl; exact hl.1)⟩
 ·obtain ⟨h1, h2⟩ := h.mem t ht
  exact ⟨by show (left _ && _) = false; rw [h1]; rfl, h2⟩
 ·rcases (strike_iff hij hkl).1 hl with h1 | ⟨rfl, rfl⟩
  ·exact h.all k l hkl hD h1 hn
  ·exact absurd h0 hn
theorem Coll.take {D : DataW Unit} {p : TL} {left : Lit → Bool} {q : TL} (h : Coll D p left q) {i j : Nat} (hij : i + j ≤ 12) (hl : left (klT i j) = true) {c : Rat} (hc : c = pair p (ind (i, j))) (h0 : c ≠ 0) : Coll D p (fun x => left x && !x.sameKey (klT i j)) (q ++ [(i, j, c)]) := by
 subst hc
 refine ⟨?_, fun t ht => ?_, fun k l hkl hD hl2 hn => ?_, fun kl hl => h.sub kl (by simp only [Bool.and_eq_true] at hl; exact hl.1)⟩
 ·rw [List.pairwise_append]
  refine ⟨h.ne, List.pairwise_singleton _ _, fun s hs t ht => ?_⟩
  rw [List.mem_singleton.1 ht]
  intro e
  obtain ⟨e1, e2⟩ : s.1 = i ∧ s.2.1 = j := key_ext (t := (i, j, 0)) e
  have := (h.mem s hs).1
  rw [e1, e2, hl] at this
  cases this
 ·rcases List.mem_append.1 ht with ht | ht
  ·obtain ⟨h1, h2⟩ := h.mem t ht
   exact ⟨by show (left _ && _) = false; rw [h1]; rfl, h2⟩
  ·rw [List.mem_singleton.1 ht]
   exact ⟨(strike_iff hij hij).2 (.inr ⟨rfl, rfl⟩), rfl, h0, hij⟩
 ·rcases (strike_iff hij hkl).1 hl2 with h1 | ⟨rfl, rfl⟩
  ·exact List.mem_append_left _ (h.all k l hkl hD h1 hn)
  ·exact List.mem_append_right _ (List.mem_singleton.2 rfl)
theorem Coll.len {D : DataW Unit} {p : TL} {left : Lit → Bool} {q : TL} (h : Coll D p left q) : q.length ≤ 169 := by
 have h1 : (q.map fun t => t.1 * 13 + t.2.1).Nodup := by
  refine List.pairwise_map.2 (h.ne.imp_of_mem ?_)
  intro s t hs ht hne e
  have e1 := (h.mem s hs).2.2.2
  have e2 := (h.mem t ht).2.2.2
  exact hne (Prod.ext (by show s.1 = t.1; omega) (by show s.2.1 = t.2.1; omega))
 have h2 : (q.map fun t => t.1 * 13 + t.2.1) ⊆ List.range 169 := by
  intro x hx
  obtain ⟨t, ht, rfl⟩ := List.mem_map.1 hx
  have e1 := (h.mem t ht).2.2.2
  exact List.mem_range.2 (by omega)
 have := h1.length_le_of_subset h2
 rwa [List.length_map, List.length_range] at this
/-- All collected, in the order of the keys: the normal form. -/
theorem Coll.done {D : DataW Unit} {p : TL} {left : Lit → Bool} {q s : TL} (hR : MRep D p) (hp : TB p 12) (h : Coll D p left q) (hl : ∀ kl, left kl = false) (hs : s.Perm q) (ho : s.Pairwise (fun a b => ¬ KLt (key b) (key a))) : s = nfL p := by
 have hne : s.Pairwise (fun a b => key a ≠ key b) := (hs.pairwise_iff (fun {a b} (h : key a ≠ key b) => h.symm)).2 h.ne
 have hnf : NF s := by
  refine ⟨(ho.and hne).imp ?_, fun t ht => (h.mem t (hs.mem_iff.1 ht)).2.2.1⟩
  rintro a b ⟨h1, h2⟩
  rcases KLt.tri (key a) (key b) with h3 | h3 | h3
  ·exact h3
  ·exact absurd h3 h2
  ·exact absurd h3 h1
 have htb : TB s 12 := fun t ht => (h.mem t (hs.mem_iff.1 ht)).2.2.2
 refine (nfL_of hnf (eqv_of_coef htb hp fun i j => ?_)).symm
 by_cases hm : ∃ t ∈ s, key t = (i, j)
 ·obtain ⟨t, ht, hk⟩ := hm
  obtain ⟨e1, e2⟩ : t.1 = i ∧ t.2.1 = j := key_ext (t := (i, j, 0)) hk
  have h1 := (h.mem t (hs.mem_iff.1 ht)).2.1
  rw [e1, e2] at h1
  rw [← h1]
  have g : ∀ (l : TL), l.Pairwise (fun a b => key a ≠ key b) → t ∈ l → pair l (ind (i, j)) = t.2.2 := by
   intro l
   induction l with
   | nil => intro _ h; cases h
   | cons u l ih =>
    intro hpw hmem
    have hc := List.pairwise_cons.1 hpw
    rcases List.mem_cons.1 hmem with rfl | hmem
    ·have : pair l (ind (i, j)) = 0 := coef_none fun v hv e => hc.1 v hv (hk.trans e.symm)
     simp only [pair]
     rw [this, e1, e2, show ind (i, j) i j = 1 by simp [ind]]; grind
    ·simp only [pair]
     rw [ih hc.2 hmem, show ind (i, j) u.1 u.2.1 = 0 from if_neg (fun e => hc.1 t hmem (e.trans hk.symm))]; grind
  exact g s hne ht
 ·rw [coef_none fun v hv e => hm ⟨v, hv, e⟩]
  by_cases hij : i + j ≤ 12
  ·cases hD : Maps.has D (klT i j) with
   | false => rw [hR.none hij hD]
   | true =>
    by_cases h0 : pair p (ind (i, j)) = 0
    ·rw [h0]
    ·exact absurd ⟨_, hs.mem_iff.2 (h.all i j hij hD (hl _) h0), rfl⟩ hm
  ·rw [coef_none fun v hv e => hij (by have := hp v hv; obtain ⟨e1, e2⟩ : v.1 = i ∧ v.2.1 = j := key_ext (t := (i, j, 0)) e; omega)]
end Go.Proofs.YtkdbhacimoaohaaGreatDoor
namespace Go.Proofs.YtkdbhacimoaohaaGreatDoor
open Go.RowKit
attribute [local irreducible] lo hs sm s64 c64 d64 b64 mh ml pd pc qd qc val hiB str cmpI srD lz nb zl zh zs
theorem ne_fr {p q : Rat} (h : p ≠ q) : (((zl p.num : Nat) : Int) == ((zl q.num : Nat) : Int)) = false ∨
  ((((zl p.num : Nat) : Int) == ((zl q.num : Nat) : Int)) = true ∧ ((zh p.num).toList == (zh q.num).toList) = false) ∨
  ((((zl p.num : Nat) : Int) == ((zl q.num : Nat) : Int)) = true ∧ ((zh p.num).toList == (zh q.num).toList) = true ∧ (zs p.num == zs q.num) = false) ∨
  ((((zl p.num : Nat) : Int) == ((zl q.num : Nat) : Int)) = true ∧ ((zh p.num).toList == (zh q.num).toList) = true ∧ (zs p.num == zs q.num) = true ∧ (((lo (fe p) : Nat) : Int) == ((lo (fe q) : Nat) : Int)) = false) ∨
  ((((zl p.num : Nat) : Int) == ((zl q.num : Nat) : Int)) = true ∧ ((zh p.num).toList == (zh q.num).toList) = true ∧ (zs p.num == zs q.num) = true ∧ (((lo (fe p) : Nat) : Int) == ((lo (fe q) : Nat) : Int)) = true ∧ ((hs (fe p)).toList == (hs (fe q)).toList) = false) := by
 by_cases hn : p.num = q.num
 ·have he : fe p ≠ fe q := fun e => h (fracV_inj (by unfold fracV; rw [hn, e]))
  rw [hn]
  rcases ne_nat he with h1 | ⟨h1, h2⟩
  ·exact .inr (.inr (.inr (.inl ⟨by simp, by simp, by simp, h1⟩)))
  ·exact .inr (.inr (.inr (.inr ⟨by simp, by simp, by simp, h1, h2⟩)))
 ·rcases ne_int hn with h1 | h1 | h1
  ·exact .inl h1
  ·exact .inr (.inl h1)
  ·exact .inr (.inr (.inl h1))
/-- What == sees of two fractions, as they are the same or not. -/
theorem same_fr {p q : Rat} {y : Bool} (hy : y = decide (p = q)) : (((((zl p.num : Nat) : Int) == ((zl q.num : Nat) : Int)) = true ∧ ((zh p.num).toList == (zh q.num).toList) = true ∧ (zs p.num == zs q.num) = true ∧ (((lo (fe p) : Nat) : Int) == ((lo (fe q) : Nat) : Int)) = true ∧ ((hs (fe p)).toList == (hs (fe q)).toList) = true) ∧ y = true) ∨
  (((((zl p.num : Nat) : Int) == ((zl q.num : Nat) : Int)) = false) ∧ y = false) ∨
  (((((zl p.num : Nat) : Int) == ((zl q.num : Nat) : Int)) = true ∧ ((zh p.num).toList == (zh q.num).toList) = false) ∧ y = false) ∨
  (((((zl p.num : Nat) : Int) == ((zl q.num : Nat) : Int)) = true ∧ ((zh p.num).toList == (zh q.num).toList) = true ∧ (zs p.num == zs q.num) = false) ∧ y = false) ∨
  (((((zl p.num : Nat) : Int) == ((zl q.num : Nat) : Int)) = true ∧ ((zh p.num).toList == (zh q.num).toList) = true ∧ (zs p.num == zs q.num) = true ∧ (((lo (fe p) : Nat) : Int) == ((lo (fe q) : Nat) : Int)) = false) ∧ y = false) ∨
  (((((zl p.num : Nat) : Int) == ((zl q.num : Nat) : Int)) = true ∧ ((zh p.num).toList == (zh q.num).toList) = true ∧ (zs p.num == zs q.num) = true ∧ (((lo (fe p) : Nat) : Int) == ((lo (fe q) : Nat) : Int)) = true ∧ ((hs (fe p)).toList == (hs (fe q)).toList) = false) ∧ y = false) := by
 subst hy
 by_cases h : p = q
 ·subst h
  exact .inl ⟨⟨by simp, by simp, by simp, by simp, by simp⟩, decide_eq_true rfl⟩
 ·have hd := decide_eq_false h
  rcases ne_fr h with h1 | h1 | h1 | h1 | h1
  ·exact .inr (.inl ⟨h1, hd⟩)
  ·exact .inr (.inr (.inl ⟨h1, hd⟩))
  ·exact .inr (.inr (.inr (.inl ⟨h1, hd⟩)))
  ·exact .inr (.inr (.inr (.inr (.inl ⟨h1, hd⟩))))
  ·exact .inr (.inr (.inr (.inr (.inr ⟨h1, hd⟩))))
end Go.Proofs.YtkdbhacimoaohaaGreatDoor
namespace Go.Proofs.YtkdbhacimoaohaaGreatDoor
open Go.RowKit
attribute [local irreducible] lo hs sm s64 c64 d64 b64 mh ml pd pc qd qc val hiB str cmpI srD lz nb zl zh zs
/-- A fraction's text. -/
def qtxt (q : Rat) : ByteArray := if q.den = 1 then ztxt q.num else ztxt q.num ++ (ByteArray.mk #[47]) ++ txt q.den
theorem ztxt_small {z : Int} {k : Nat} (hk : 0 < k) (h : dI z ≤ k) : (ztxt z).size ≤ 20 * k + 1 := by
 have h1 := txt_small (n := z.natAbs) hk h
 unfold ztxt
 split
 ·rw [ByteArray.size_append]
  have : (ByteArray.mk #[45]).size = 1 := rfl
  omega
 ·omega
theorem textF (q : Rat) (k : Nat) (hq : Sz q k) (hk : k ≤ 100000) (w : World) (htab : Tab w) : Calls Tryz.prog 72 #[fracV q] w fun x w' => x = .returned (.string (qtxt q)) ∧ Below w.heap.size w w' := by
 have hT := fun w h => textI q.num (Nat.le_trans hq.1 (by omega)) w h
 unfold qtxt
 by_cases h : q.den = 1
 ·rw [if_pos h, show fracV q = frV q.num 0 by unfold fracV; rw [fe_one h]]
  exact ftext_whole q.num _ (fun w => by have := whole_raw q.num 0 w; rwa [decide_eq_true rfl] at this) hT w htab
 ·rw [if_neg h, show fracV q = frV q.num q.den by unfold fracV; rw [fe_ne h]]
  have s1 := ztxt_small (k := 100000) (by omega) (Nat.le_trans hq.1 hk)
  have s2 := txt_small (n := q.den) (k := 100000) (by omega) (Nat.le_trans hq.2 hk)
  exact ftext_part q.num q.den _ _ (fun w => by have := whole_raw q.num q.den w; rwa [decide_eq_false q.den_nz] at this) hT (fun w h => text_any q.den (Nat.le_trans hq.2 (by omega)) w h) (by omega) (by omega) w htab
end Go.Proofs.YtkdbhacimoaohaaGreatDoor
namespace Go.Proofs.YtkdbhacimoaohaaGreatDoor
open Go.RowKit
attribute [local irreducible] lo hs sm s64 c64 d64 b64 mh ml pd pc qd qc val hiB str cmpI srD lz nb zl zh zs
theorem szc (q : Rat) (h1 : q.num.natAbs < 18446744073709551616) (h2 : q.den < 18446744073709551616) : Sz q 1 :=
 ⟨digs_length_iff.2 (by rw [Nat.pow_one]; exact h1), digs_length_iff.2 (by rw [Nat.pow_one]; exact h2)⟩
/-- The variable of package bytealg that strings.Cut looks at. -/
def MaxL (w : World) : Prop := ∃ m, w.cell? ⟨3, 0, none⟩ = some (.int .i64 m)
theorem MaxL.keeps : Keeps MaxL := fun w w' hb ⟨m, h⟩ => ⟨m, by
 have hl := World.block_lt_of_cell? w _ h
 exact (hb.cell (p := ⟨3, 0, none⟩) hl).trans h⟩
end Go.Proofs.YtkdbhacimoaohaaGreatDoor
namespace Go.Proofs.YtkdbhacimoaohaaGreatDoor
/-- Every operation waits for earlier ones alone, and what comes behind it waits for it or is apart from it. -/
def fastFrom (md : Region.Mode) (ops : Array Oper) : Nat → List Oper → Bool
 | _, [] => true
 | k, o :: l => (o.after.all fun e => !Region.binds md e || decide (e.on < k)) &&
   (l.all fun oj => (oj.after.any fun e => Region.binds md e && e.on == k) || o.apart ops oj) && fastFrom md ops (k + 1) l
def fastB (md : Region.Mode) (l : List Oper) : Bool := Region.noSelect l.toArray && fastFrom md l.toArray 0 l
def preL (s n : Nat) : Array Bool := ((List.range s).map fun i => decide (i < n)).toArray
theorem preL_get (s n i : Nat) (d : Bool) : (preL s n).getD i d = if i < s then decide (i < n) else d := by
 unfold preL
 by_cases h : i < s
 ·simp [h]
 ·simp [h]
theorem preL_set (s n : Nat) : (preL s n).setIfInBounds n true = preL s (n + 1) := by
 apply Array.ext
 ·simp [preL]
 ·intro i h1 h2
  simp only [preL, List.setIfInBounds_toArray, List.getElem_toArray]
  by_cases e : n = i
  ·subst e; simp
  ·rw [List.getElem_set_ne e]
   simp only [List.getElem_map, List.getElem_range]
   by_cases h : i < n
   ·rw [decide_eq_true h, decide_eq_true (by omega)]
   ·rw [decide_eq_false h, decide_eq_false (by omega)]
theorem preL_zero (s : Nat) : preL s 0 = Array.replicate s false := by
 apply Array.ext
 ·simp [preL]
 ·intro i h1 h2; simp [preL]
theorem lexFrom_of_fast {md : Region.Mode} {ops : Array Oper} : ∀ (l : List Oper) (k : Nat), (∀ j, l[j]? = ops[k + j]?) → k + l.length = ops.size → fastFrom md ops k l = true → Region.lexFrom md ops l.length k (preL ops.size k) = true
 | [], k, hl, hs, _ => by
  have : Region.ready md ops (preL ops.size k) = [] := by
   apply List.eq_nil_iff_forall_not_mem.2
   intro j hj
   obtain ⟨h1, o, ho, -⟩ := mem_ready.1 hj
   have hj' : j < ops.size := (Array.getElem?_eq_some_iff.1 ho).1
   rw [preL_get, if_pos hj', decide_eq_true (by simp at hs; omega)] at h1
   cases h1
  simp [Region.lexFrom, this]
 | o :: l, k, hl, hs, h => by
  have h0 : ops[k]? = some o := by simpa using (hl 0).symm
  have hk : k < ops.size := (Array.getElem?_eq_some_iff.1 h0).1
  simp only [fastFrom, Bool.and_eq_true] at h
  obtain ⟨⟨hw, hf⟩, hr⟩ := h
  simp only [List.length_cons, Region.lexFrom, Bool.and_eq_true]
  refine ⟨⟨List.contains_iff_mem.2 (mem_ready.2 ⟨by rw [preL_get, if_pos hk, decide_eq_false (by omega)], o, h0, fun e he hb => ?_⟩), ?_⟩, ?_⟩
  ·have h1 := (Array.all_eq_true_iff_forall_mem.1 hw) e he
   simp only [hb, Bool.not_true, Bool.false_or, decide_eq_true_eq] at h1
   rw [preL_get, if_pos (by omega), decide_eq_true h1]
  ·simp only [Region.free, h0, List.all_eq_true, List.mem_range]
   intro j hj
   by_cases e : j = k
   ·simp [e]
   ·by_cases hjk : j < k
    ·rw [preL_get, if_pos hj, decide_eq_true hjk]; simp
    ·have h2 : l[j - k - 1]? = ops[j]? := by
      have := hl (j - k)
      rw [show k + (j - k) = j by omega] at this
      rw [← this, show j - k = (j - k - 1) + 1 by omega, List.getElem?_cons_succ]
      rfl
     rw [Array.getElem?_eq_getElem hj] at h2
     have h3 := (List.all_eq_true.1 hf) ops[j] (List.mem_of_getElem? h2)
     rw [Array.getElem?_eq_getElem hj]
     simp only [Bool.or_eq_true] at h3 ⊢
     exact .inr h3
  ·rw [preL_set]
   exact lexFrom_of_fast l (k + 1) (fun j => by have := hl (j + 1); simpa [Nat.add_assoc, Nat.add_comm 1 j] using this) (by simp at hs; omega) hr
theorem lexB_of_fast {md : Region.Mode} {l : List Oper} (h : fastB md l = true) : Region.lexB md l.toArray = true := by
 simp only [fastB, Bool.and_eq_true] at h
 simp only [Region.lexB, Bool.and_eq_true]
 refine ⟨h.1, ?_⟩
 have := lexFrom_of_fast (md := md) (ops := l.toArray) l 0 (fun j => by simp) (by simp) h.2
 rw [preL_zero] at this
 simpa using this
end Go.Proofs.YtkdbhacimoaohaaGreatDoor
namespace Go.Proofs.YtkdbhacimoaohaaGreatDoor
open Go.RowKit
attribute [local irreducible] lo hs sm s64 c64 d64 b64 mh ml pd pc qd qc val hiB str cmpI srD lz zl zh zs dval
/-- A fraction of small data. -/
def qmade (n : Int) (d : Nat) : Rat := mkRat n (if d < 1 then 1 else d)
theorem qmade_parts (n : Int) (d : Nat) : (qmade n d).num.natAbs ≤ n.natAbs ∧ (qmade n d).den ≤ (if d < 1 then 1 else d) := by
 unfold qmade
 obtain ⟨h1, h2⟩ := canc (z := n) (d := if d < 1 then 1 else d) (by split <;> omega)
 rw [h1, h2, Int.natAbs_tdiv]
 exact ⟨Nat.div_le_self _ _, Nat.div_le_self _ _⟩
theorem qmade_sz (n : Int) (d : Nat) (h1 : -9223372036854775808 ≤ n) (h2 : n < 9223372036854775808) (h3 : d < 4294967296) : Sz (qmade n d) 1 := by
 obtain ⟨e1, e2⟩ := qmade_parts n d
 exact szc _ (by omega) (by split at e2 <;> omega)
end Go.Proofs.YtkdbhacimoaohaaGreatDoor
namespace Go.Proofs.YtkdbhacimoaohaaGreatDoor
open Go.RowKit
attribute [local irreducible] lo hs sm s64 c64 d64 b64 mh ml pd pc qd qc val hiB str cmpI srD lz nb zl zh zs dval
/-- A fraction's cells; those of a list. -/
def frC (q : Rat) : List Value := [.int .u64 ((zl q.num : Nat) : Int), .string (zh q.num), .bool (zs q.num), .int .u64 ((lo (fe q) : Nat) : Int), .string (hs (fe q))]
def frCs (l : List Rat) : List Value := l.flatMap frC
theorem frC_length (q : Rat) : (frC q).length = 5 := rfl
theorem frCs_append (l m : List Rat) : frCs (l ++ m) = frCs l ++ frCs m := by unfold frCs; rw [List.flatMap_append]
theorem frCs_snoc (l : List Rat) (q : Rat) : frCs (l ++ [q]) = frCs l ++ frC q := by rw [frCs_append]; simp [frCs]
theorem frCs_get : ∀ (l : List Rat) (i j : Nat) (h : i < l.length), j < 5 → (frCs l)[i * 5 + j]? = (frC l[i])[j]?
 | q :: l, 0, j, h, hj => by
  unfold frCs
  rw [List.flatMap_cons, Nat.zero_mul, Nat.zero_add, List.getElem?_append_left (by rw [frC_length]; exact hj)]; rfl
 | q :: l, i + 1, j, h, hj => by
  have hi : i < l.length := by simpa using h
  have ih := frCs_get l i j hi hj
  unfold frCs at ih ⊢
  rw [List.flatMap_cons, List.getElem?_append_right (by rw [frC_length]; omega), frC_length, show (i + 1) * 5 + j - 5 = i * 5 + j by omega, ih]
  rfl
theorem frC_one : ∀ (q : Rat), ∀ u ∈ frC q, u.oneCell' = true := by
 intro q u hu
 unfold frC at hu
 simp only [List.mem_cons, List.not_mem_nil, or_false] at hu
 rcases hu with rfl | rfl | rfl | rfl | rfl <;> rfl
theorem add0 (g j : Nat) : (⟨g, 0, none⟩ : Addr).add j = ⟨g, j, none⟩ := by
 unfold Addr.add
 by_cases h : j = 0
 ·subst h; simp
 ·simp [h]
theorem own_cells {w : World} {B n : Nat} {v : Value} {l : List Rat} {g : Nat} {c : Nat} (h : w.ownsRow B 38 5 v n (frCs l)) (hv : v = .slice (some ⟨g, 0, none⟩) n c) (j : Nat) (u : Value) (hu : (frCs l)[j]? = some u) : w.cell? ⟨g, j, none⟩ = some u := by
 have := World.ownsRow.cells h (g := g) (by rw [hv]; rfl) j u hu
 rw [add0] at this
 exact this
theorem own_fs {w : World} {B n g c : Nat} {v : Value} {l : List Rat} (h : w.ownsRow B 38 5 v n (frCs l)) (hv : v = .slice (some ⟨g, 0, none⟩) n c) : FS w g l := by
 have hc := own_cells h hv
 refine ⟨fun i hi => ?_, (h.lt g (by rw [hv]; rfl)).2⟩
 have e := fun j hj => frCs_get l i j hi hj
 exact ⟨hc _ _ (by have := e 0 (by omega); rw [Nat.add_zero] at this; exact this), hc _ _ (e 1 (by omega)), hc _ _ (e 2 (by omega)), hc _ _ (e 3 (by omega)), hc _ _ (e 4 (by omega))⟩
theorem own_slq {w : World} {B n : Nat} {v : Value} {l : List Rat} (h : w.ownsRow B 38 5 v n (frCs l)) (hn : n = l.length) : SlQ w v l := by
 rcases h.2 with ⟨h1, h2⟩ | ⟨g, cap, cur, h1, h2, h3, h4, h5, h6, h7⟩
 ·exact .inl ⟨none, 0, h1, List.eq_nil_of_length_eq_zero (by omega)⟩
 ·exact .inr ⟨g, cap, by rw [h1, hn], own_fs h h1⟩
theorem own_below {w w' : World} {B n : Nat} {v : Value} {l : List Rat} (h : w.ownsRow B 38 5 v n (frCs l)) (hb : Below w.heap.size w w') : w'.ownsRow B 38 5 v n (frCs l) := by
 refine ⟨h.1, ?_⟩
 rcases h.2 with h1 | ⟨g, cap, cur, h1, h2, h3, h4⟩
 ·exact .inl h1
 ·refine .inr ⟨g, cap, cur, h1, h2, ?_, h4⟩
  have hg := (h.lt g (by rw [h1]; rfl)).2
  rw [hb.block g hg]; exact h3
end Go.Proofs.YtkdbhacimoaohaaGreatDoor
namespace Go.Proofs.YtkdbhacimoaohaaGreatDoor
open Go.RowKit
attribute [local irreducible] lo hs sm s64 c64 d64 b64 mh ml pd pc qd qc val hiB str cmpI srD lz nb zl zh zs fe klT
theorem run_neqF (p q : Rat) (y : Bool) (hy : y = decide (p = q)) (W : World) : (binOp .neq 38 (fracV p) (fracV q)).run Tryz.prog W = .ok (.bool (!y)) W := by
 rcases same_fr hy with hz | hz | hz | hz | hz | hz <;> simp [go_sem, hz]
theorem run_eqlF (p q : Rat) (y : Bool) (hy : y = decide (p = q)) (W : World) : (binOp .eql 38 (fracV p) (fracV q)).run Tryz.prog W = .ok (.bool y) W := by
 rcases same_fr hy with hz | hz | hz | hz | hz | hz <;> simp [go_sem, hz]
section
variable {R : Value → Option (DataW Unit × List MemPlace)} {w w' : World} {b n : Nat} {D : DataW Unit}
theorem mp_below {P : Program} {k : TypeId} {B : Nat} (h : w.ownsMap P k R b n D) (hb : Below B w w') (hlt : b < B) : w'.ownsMap P k R b n D := by
 obtain ⟨es, clock, hb1, r⟩ := h
 exact ⟨es, clock, (hb.block b hlt).trans hb1, r⟩
theorem rg_below {P : Program} {k : TypeId} {B r cnt : Nat} {left : Lit → Bool} (h : w.ranges P k R b r n D left cnt) (hb : Below B w w') (hlt : b < B) (hrt : r < B) : w'.ranges P k R b r n D left cnt := by
 obtain ⟨es, clock, since, seen, c0, h1, F, hs, hD, hr, rest⟩ := h
 exact ⟨es, clock, since, seen, c0, (hb.block b hlt).trans h1, F, hs, hD, (hb.block r hrt).trans hr, rest⟩
end
theorem zeroF8 (w : World) : (zeroValue 38).run Tryz.prog w = .ok (fracV 0) w := by
 have h : (zeroValue 38).run Tryz.prog w = .ok (.agg #[.int .u64 0, .string ⟨#[]⟩, .bool false, .int .u64 0, .string ⟨#[]⟩]) w := by kernel_rfl
 rw [h]
 have e := zero_cells
 simp only [List.cons.injEq, and_true] at e
 obtain ⟨e1, e2, e3, e4, e5⟩ := e
 unfold fracV frV
 rw [e1, e2, e3, e4, e5]
theorem mp_look {w : World} {D : DataW Unit} {p : TL} {b n i j : Nat} (h : w.ownsMap Tryz.prog 114 frR b n D) (hR : MRep D p) (hij : i + j ≤ 12) :
  (Instr.lookup 112 (.map (some b)) (kyV (i : Nat) (j : Nat)) false).run Tryz.prog w = .ok (fracV (pair p (ind (i, j)))) w := by
 obtain ⟨v, ps, hrun, hv⟩ := h.lookup law8 Tryz.underlying112 (zeroF8 w) (frR_mk 0) (key8 (i := i) (j := j) (by omega) (by omega))
 obtain ⟨q, rfl, hq⟩ := frR_inv hv
 rw [hR.at_ i j hij] at hq
 have e := dq_inj (Prod.ext_iff.1 hq).1
 rw [hrun, e]
theorem wp_next_terms {P : Program} (w : World) {ops : Array Oper} {rest : List Oper} {o : Oper} {a : Act} {Q : Exit → Act → World → Prop}
  (hg : o.guard = none) (it : Operand) (hop : o.op = Op.next it false) (k : TypeId) (K : Maps.Keyed P k) (b r n : Nat) (D : DataW Unit) (left : Lit → Bool) (cnt : Nat)
  (hit : a.eval it = .pointer (some ⟨r, 0, none⟩)) (h : w.ranges P k frR b r n D left cnt)
  (hsh : ∀ key kl, keyOf P k key = some kl → left kl = true → ∃ i j : Nat, i + j ≤ 12 ∧ key = kyV (i : Nat) (j : Nat) ∧ kl = klT i j)
  (hDone : (∀ kl, left kl = false) → wpList P ops Q rest (a.put o.dst (.tuple #[.bool false])) w)
  (hMore : ∀ (i j : Nat) (c : Rat) (w' : World) (cnt' : Nat), i + j ≤ 12 → left (klT i j) = true → (∀ zd, D.atKey (klT i j) zd = dq c) → w'.ranges P k frR b r n D (fun z => left z && !z.sameKey (klT i j)) cnt' → cnt' < cnt →
   w.grownBy w' (some r) → w'.heap.size = w.heap.size → (Instr.entry (.pointer (some ⟨r, 0, none⟩))).run P w' = .ok (.tuple #[kyV (i : Nat) (j : Nat), fracV c]) w' → wpList P ops Q rest (a.put o.dst (.tuple #[.bool true, kyV (i : Nat) (j : Nat), fracV c])) w') :
  wpList P ops Q (o :: rest) a w := by
 refine wpList_plain hg fun K' hK' => ?_
 unfold Oper.wp
 rcases h.next K o.type with ⟨h0, hl, hrun⟩ | ⟨key, v, kl, y, w', cnt', hkey, hlk, hv, hat, hrun, hrg, hlt, hgr, hsz, hen⟩
 ·simp [execOp, hop, hit, hrun, Result.andThen]
  exact hK' _ _ (hDone hl)
 ·obtain ⟨i, j, hij, rfl, rfl⟩ := hsh key kl hkey hlk
  obtain ⟨c, rfl, rfl⟩ := frR_inv hv
  simp [execOp, hop, hit, hrun, Result.andThen]
  exact hK' _ _ (hMore i j c w' cnt' hij hlk hat hrg hlt hgr hsz hen)
theorem key_shape {D : DataW Unit} {p : TL} {left : Lit → Bool} {q : TL} (hR : MRep D p) (hC : Coll D p left q) : ∀ key kl, keyOf Tryz.prog 114 key = some kl → left kl = true → ∃ i j : Nat, i + j ≤ 12 ∧ key = kyV (i : Nat) (j : Nat) ∧ kl = klT i j := by
 intro key kl hk hl
 obtain ⟨i, j, hij, rfl⟩ := hR.has_ kl (hC.sub kl hl)
 exact ⟨i, j, hij, law8.inj hk (key8 (by omega) (by omega)), rfl⟩
theorem ownT_form {w : World} {B n : Nat} {v : Value} {l : List TI} (h : OwnT w B v n l) : ∃ ao c, v = .slice ao n c ∧ n ≤ c ∧ (ao = none → n = 0) ∧ ∀ g, v.ownBlock = some g → B ≤ g ∧ g < w.heap.size := by
 have hlt := h.lt
 rcases h.2 with ⟨h1, h2⟩ | ⟨g, cap, cur, h1, h2, h3, h4, h5⟩
 ·subst h2
  exact ⟨none, 0, h1, Nat.le_refl _, fun _ => rfl, hlt⟩
 ·exact ⟨some ⟨g, 0, none⟩, cap, h1, h4, fun e => (by cases e), hlt⟩
theorem vd_form {t : TI} (h : Vd t) : ∃ (a b : Nat) (q : Rat), a + b ≤ 12 ∧ t = ((a : Int), (b : Int), q) := by
 obtain ⟨h1, h2, h3⟩ := h
 exact ⟨t.1.toNat, t.2.1.toNat, t.2.2, by omega, Prod.ext (Int.toNat_of_nonneg h1).symm (Prod.ext (Int.toNat_of_nonneg h2).symm rfl)⟩
theorem toL_take_succ {l : List TI} {i : Nat} (h : i < l.length) {a b : Nat} {q : Rat} (e : l[i] = ((a : Int), (b : Int), q)) : toL (l.take (i + 1)) = toL (l.take i) ++ [(a, b, q)] := by
 rw [List.take_succ_eq_append_getElem h, e]
 simp [toL, toT]
end Go.Proofs.YtkdbhacimoaohaaGreatDoor
namespace Go.Proofs.YtkdbhacimoaohaaGreatDoor
open Go.RowKit
attribute [local irreducible] lo hs sm s64 c64 d64 b64 mh ml pd pc qd qc val hiB str cmpI srD lz nb zl zh zs fe klT
theorem psum_w (l : List TI) (ao : Option Addr) (n c : Nat) (z0 : Rat) (hz0 : z0 = 0) (hlen : l.length = n) (hbig : n ≤ 10000) (hv : VdL l)
  (HA : ∀ k (h : k < l.length) (w : World), Calls Tryz.prog 16 #[fracV (pair (toL (l.take k)) (ind (l[k].1.toNat, l[k].2.1.toNat))), fracV l[k].2.2] w fun xe w' => xe = .returned (fracV (pair (toL (l.take k)) (ind (l[k].1.toNat, l[k].2.1.toNat)) + l[k].2.2)) ∧ Below w.heap.size w w')
  (HI : ∀ w : World, Calls Tryz.prog 20 #[.int .i64 0] w fun xe w' => xe = .returned (fracV z0) ∧ Below w.heap.size w w')
  (HS : ∀ (w : World) (B : Nat) (ao : Option Addr) (m c : Nat) (q : TL), m = q.length → TB q 12 → q.length ≤ 169 → OwnT w B (.slice ao m c) m (ofL q) → Calls Tryz.prog 75 #[.slice ao m c, .func (.func 76) #[] #[]] w fun xe w' => xe = .returned (.tuple #[]) ∧ (∃ s : TL, s.Perm q ∧ s.Pairwise (fun a b => ¬ KLt (key b) (key a)) ∧ PT w' (.slice ao m c) (ofL s)) ∧ Below B w w')
  (HC : ∀ (w : World) (ao : Option Addr) (m c : Nat), m ≤ c → (ao = none → m = 0) → Calls Tryz.prog 77 #[.slice ao m c] w fun xe w' => ∃ c', xe = .returned (.slice ao m c') ∧ w' = w)
  (w : World) (hq : 0 < n → ∃ g, ao = some ⟨g, 0, none⟩ ∧ TS w g l) :
  Calls Tryz.prog 41 #[.slice ao n c] w fun xe w' => ∃ v, xe = .returned v ∧ PT w' v (ofL (nfL (toL l))) ∧ Below w.heap.size w w' := by
 replace HA := Lib.hid HA
 replace HI := Lib.hid HI
 replace HS := Lib.hid HS
 replace HC := Lib.hid HC
 replace hq := Lib.hid hq
 replace hlen := Lib.hid hlen
 replace hv := Lib.hid hv
 replace hz0 := Lib.hid hz0
 obtain ⟨i0, hi, hz1, hz2, hz3⟩ := info_parts infoT
 replace hi := Lib.hid hi
 replace hz1 := Lib.hid hz1
 replace hz2 := Lib.hid hz2
 replace hz3 := Lib.hid hz3
 obtain ⟨P, hP⟩ : ∃ P, P = toL l := ⟨_, rfl⟩
 rw [← hP]
 replace hP := Lib.hid hP
 have hM0 := World.ownsMap_made w Tryz.prog 114 frR
 have hB0 : Below w.heap.size w (w.alloc (.map #[] 0)) := (Below.refl _ _).alloc (Nat.le_refl _) _
 have hMlt : w.heap.size < (w.alloc (.map #[] 0)).heap.size := by rw [World.size_alloc]; omega
 have hmm := @run_makeMap Tryz.prog
 generalize hweq : w.alloc (.map #[] 0) = x1 at hM0 hB0 hMlt
 replace hM0 := Lib.hid hM0
 go_enter Tryz.func41, Tryz.ntmps41
 go_wp2_with fail
 clear hmm hweq
 go_loopw [13] (fun z wr => ∃ (i : Nat) (zi : Int) (D : DataW Unit), i ≤ n ∧ z = .int .i64 zi ∧ zi = (i : Int) ∧ MRep D (toL (l.take i)) ∧ wr.ownsMap Tryz.prog 114 frR w.heap.size i D ∧ w.heap.size < wr.heap.size ∧ Below w.heap.size w wr) (fun z _ => n - (intOf z).toNat)
 case atStart => exact ⟨0, _, _, Nat.zero_le _, rfl, rfl, MRep.start, hM0.out, hMlt, hB0⟩
 case round =>
  clear hM0 hB0 hMlt
  obtain ⟨i, zi, D, hi1, rfl, hzi, hR, hown, hMlt, hB⟩ := hrel
  replace hR := Lib.hid hR
  replace hown := Lib.hid hown
  replace hMlt := Lib.hid hMlt
  rcases Nat.lt_or_ge i n with hin | hin
  ·subst hzi
   have hil : i < l.length := by rw [hlen.out]; exact hin
   obtain ⟨g, rfl, hts⟩ := hq.out (by omega)
   have hf := (hts.below hB).cell i hil
   have k1 : (i : Int) < (n : Int) := by omega
   have k0 : (0 : Int) ≤ (i : Int) := Int.natCast_nonneg _
   obtain ⟨a, b, q, hab, hl⟩ := vd_form (hv.out _ (List.getElem_mem hil))
   have hA1 := HA.out i hil
   rw [hl] at hf hA1
   simp only [Int.toNat_natCast] at hA1
   have htk := Lib.hid (toL_take_succ hil hl)
   obtain ⟨q0, hq0⟩ : ∃ q0, q0 = pair (toL (l.take i)) (ind (a, b)) := ⟨_, rfl⟩
   rw [← hq0] at hA1
   replace hq0 := Lib.hid hq0
   replace hA1 := Lib.hid hA1
   replace hl := Lib.hid hl
   replace hab := Lib.hid hab
   clear hts
   obtain ⟨f0, f1, f2, f3, f4, f5, f6⟩ := hf
   have hL0 : GL wr wr [] := GL.start wr
   replace hL0 := hL0.new rfl [.int .i64 (a : Int), .int .i64 (b : Int), .int .u64 ((zl q.num : Nat) : Int), .string (zh q.num), .bool (zs q.num), .int .u64 ((lo (fe q) : Nat) : Int), .string (hs (fe q))] 80
   generalize hweq : wr.alloc (.cells #[.int .i64 (a : Int), .int .i64 (b : Int), .int .u64 ((zl q.num : Nat) : Int), .string (zh q.num), .bool (zs q.num), .int .u64 ((lo (fe q) : Nat) : Int), .string (hs (fe q))] 80) = y1 at hL0
   have hN0 := cells_of _ 0 [] rfl (hL0.get _ _ mZ)
   simp only [zF, Nat.reduceAdd] at hN0
   replace hL0 := hL0.new rfl [.int .i64 (a : Int), .int .i64 (b : Int)] 114
   generalize hweq2 : y1.alloc (.cells #[.int .i64 (a : Int), .int .i64 (b : Int)] 114) = y2 at hL0
   go_upto_region 6 with fail
   clear hN0 hweq hweq2 f0 f1 f2 f3 f4 f5 f6
   have hB2 := hB.trans (hL0.bl.mono hB.size)
   have hown2 : ∀ W, Below y2.heap.size y2 W → W.ownsMap Tryz.prog 114 frR w.heap.size i D := fun W hW => mp_below (mp_below hown.out hL0.bl hMlt.out) hW (Nat.lt_of_lt_of_le hMlt.out hL0.bl.size)
   obtain ⟨α, iα, F, hF1, hF2⟩ := cls y2
   have hlk : ∀ x, (Instr.lookup 112 (.map (some w.heap.size)) (kyV (a : Nat) (b : Nat)) false).run Tryz.prog (F x) = .ok (fracV q0) (F x) := fun x => by rw [hq0.out]; exact mp_look (hown2 _ (hF1 x)) hR.out hab.out
   have hg0 := cls_box hF1 hL0 _ _ mZ
   simp only [zC, Nat.reduceAdd] at hg0
   have hg1 := cls_box hF1 hL0 _ _ (mK mZ)
   simp only [zC, Nat.reduceAdd] at hg1
   refine region_qs 8 (C := fun w' => ∃ x, w' = F x) (by kernel_rfl) (by kernel_rfl) (cls_drew hF2) ?_
   simp only [zT]
   repeat (go_big_quiet_step (first | fail | (go_at_call 16; with_reducible exact cls_call hF1 hF2 hA1.out _)))
   refine wpQuiet_nil ?_
   rintro wq ⟨xq, rfl⟩
   have hB3 := hB2.trans ((hF1 xq).mono (Nat.le_trans (Nat.le_of_lt hMlt.out) hL0.bl.size))
   have hown3 := hown2 _ (hF1 xq)
   have hM3 := Nat.lt_of_lt_of_le (Nat.lt_of_lt_of_le hMlt.out hL0.bl.size) (hF1 xq).size
   clear hg0 hg1 hlk hF2 hown2
   generalize F xq = y3 at hB3 hown3 hM3 ⊢
   clear hF1 xq iα F α hL0 hB2 hB hMlt hown
   go_wp2_with (at_mapUpdate; refine wpList_mapUpdate_own _ rfl _ _ _ 112 rfl 114 38 law8 Tryz.underlying112 frR _ i D rfl hown3 (by unfold maxLen; omega) _ _ (klT a b) rfl rfl (key8 (by have := hab.out; omega) (by have := hab.out; omega)) (dq (q0 + q)) [] (frR_mk _) ?_)
   intro w1 hown1 hgrow1
   have hB4 := hB3.grown hgrow1 (Nat.le_of_lt hM3) (fun j hj => by cases hj; exact Nat.le_refl _)
   have hM4 := Nat.lt_of_lt_of_le hM3 hgrow1.size
   have hR4 : MRep (D.put (klT a b) (dq (q0 + q))) (toL (l.take (i + 1))) := by rw [htk.out, hq0.out]; exact hR.out.step hab.out
   replace hown1 := Lib.hid hown1
   replace hR4 := Lib.hid hR4
   replace hM4 := Lib.hid hM4
   replace hB4 := Lib.hid hB4
   clear hown3 hgrow1 hB3 hM3 hR
   go_wp2_with fail
   go_roundw
   case rel => exact ⟨i + 1, _, _, by omega, by first | rfl | go_num, by omega, hR4.out, hown1.out, hM4.out, hB4.out⟩
   case measure => simp [intOf] <;> omega
  ·obtain rfl : i = n := by omega
   subst hzi
   have k1 : ¬ (i : Int) < (i : Int) := by omega
   have hRn : MRep D P := by
    have := hR.out
    rw [List.take_of_length_le (Nat.le_of_eq hlen.out)] at this
    rw [hP.out]; exact this
   have htb : TB P 12 := by rw [hP.out]; exact tb_toL hv.out
   replace hRn := Lib.hid hRn
   replace htb := Lib.hid htb
   clear hR hP hi1 hin HA hv hlen hq
   have hg0 : True := trivial
   go_wp2_with (at_range; refine wpList_range_own _ rfl _ 112 rfl 114 38 law8 Tryz.underlying112 frR _ i D rfl hown.out ?_; intro w0 hrg0 hgr0 hs0)
   try go_frame
   have hB1 := hB.grown hgr0 (Nat.le_of_lt hMlt.out) (fun j hj => by cases hj)
   obtain ⟨r, hr⟩ : ∃ r, r = wr.heap.size := ⟨_, rfl⟩
   rw [← hr] at hrg0 hs0
   have hMr : w.heap.size < r := by rw [hr]; exact hMlt.out
   rw [show (⟨wr.heap.size, 0, none⟩ : Addr) = ⟨r, 0, none⟩ by rw [hr]]
   clear hgr0 hown hMlt hr hB k1
   replace hMr := Lib.hid hMr
   go_loopw [7] (fun v wr => ∃ (left : Lit → Bool) (cnt : Nat) (q : TL) (m : Nat), m = q.length ∧ Coll D P left q ∧ wr.ranges Tryz.prog 114 frR w.heap.size r i D left cnt ∧ OwnT wr (r + 1) v m (ofL q) ∧ r + 1 ≤ wr.heap.size ∧ Below w.heap.size w wr) (fun _ wr => wr.rangeLeft w.heap.size r)
   case atStart => exact ⟨_, _, [], 0, rfl, Coll.start D P, hrg0, World.ownsRow_nil _ _ _ _, Nat.le_of_eq hs0.symm, hB1⟩
   case round =>
    clear hrg0 hs0 hB1
    obtain ⟨left, cnt, q, m, hm, hC, hrg, hown, hEw, hB⟩ := hrel
    replace hC := Lib.hid hC
    replace hown := Lib.hid hown
    replace hEw := Lib.hid hEw
    replace hm := Lib.hid hm
    go_wp2_with (at_next; refine wp_next_terms _ rfl _ rfl 114 law8 w.heap.size r _ D left cnt rfl hrg (key_shape hRn.out hC.out) ?_ ?_)
    ·intro hl0
     replace hl0 := Lib.hid hl0
     obtain ⟨vo, vc, rfl, hnc, hn0, hob⟩ := ownT_form hown.out
     replace hnc := Lib.hid hnc
     replace hn0 := Lib.hid hn0
     have htq : TB q 12 := fun t ht => (hC.out.mem t ht).2.2.2
     have hS1 := Lib.hid (HS.out wr (r + 1) vo m vc q hm.out htq hC.out.len hown.out)
     clear htq
     go_wp2_with (first | fail | (go_at_call 75; with_reducible refine Calls.mono hS1.out ?_; rintro e w2 ⟨rfl, hsx, hb2⟩; replace hsx := Lib.hid hsx; replace hb2 := Lib.hid hb2) | (go_at_call 77; with_reducible refine Calls.mono (HC.out _ vo m vc hnc.out hn0.out) ?_; rintro e w3 ⟨c3, rfl, rfl⟩))
     obtain ⟨s, hs1, hs2, hs3⟩ := hsx.out
     have hsn := hC.out.done hRn.out htb.out hl0.out hs1 hs2
     have hlen2 : m = (ofL s).length := by rw [hm.out, show (ofL s).length = s.length from List.length_map _, hs1.length_eq]
     have hpt := pt_parts hs3
     go_ret
     refine ⟨_, rfl, ?_, hB.trans (hb2.out.mono (by have := hMr.out; omega))⟩
     rw [← hsn]
     exact pt_mk hpt.1 hpt.2
    ·intro x y cc w1 cnt1 hxy hlk hat hrg1 hlt hg1 hs1 hen
     have hcoef : dq cc = dq (pair P (ind (x, y))) := (hat (dq 0)).symm.trans (hRn.out.at_ x y hxy)
     replace hcoef := Lib.hid (dq_inj hcoef)
     have hown1 := ownT_kept hown.out hg1 (fun g hg => by cases hg; exact Nat.lt_succ_self _)
     have hB1 := hB.grown hg1 (by have := hMr.out; have := hEw.out; omega) (fun j hj => by cases hj; exact Nat.le_of_lt hMr.out)
     have hE1 : r + 1 ≤ w1.heap.size := Nat.le_trans hEw.out hg1.size
     have hmeas := Lib.hid (show w1.rangeLeft w.heap.size r < wr.rangeLeft w.heap.size r by rw [hrg1.left_eq, hrg.left_eq]; exact hlt)
     clear hat hrg hlt hg1 hs1 hown hEw hB
     replace hxy := Lib.hid hxy
     replace hlk := Lib.hid hlk
     replace hrg1 := Lib.hid hrg1
     replace hown1 := Lib.hid hown1
     replace hE1 := Lib.hid hE1
     have hL0 : GL w1 w1 [] := GL.start w1
     replace hL0 := (hL0.new rfl [.int .i64 (x : Int), .int .i64 (y : Int)] 114).new (K := w1.heap.size + 1) (szA _ _) [.int .u64 ((zl cc.num : Nat) : Int), .string (zh cc.num), .bool (zs cc.num), .int .u64 ((lo (fe cc) : Nat) : Int), .string (hs (fe cc))] 38
     generalize hweq : (w1.alloc (.cells #[.int .i64 (x : Int), .int .i64 (y : Int)] 114)).alloc (.cells #[.int .u64 ((zl cc.num : Nat) : Int), .string (zh cc.num), .bool (zs cc.num), .int .u64 ((lo (fe cc) : Nat) : Int), .string (hs (fe cc))] 38) = y2 at hL0
     go_upto_region 12 with fail
     clear hweq hen
     obtain ⟨t, ht⟩ : ∃ t, t = decide (cc = z0) := ⟨_, rfl⟩
     have hne := fun W => run_neqF cc z0 t ht W
     obtain ⟨α, iα, F, hF1, hF2⟩ := cls y2
     have hg0 := cls_box hF1 hL0 _ _ mZ
     simp only [zC, Nat.reduceAdd] at hg0
     replace ht := Lib.hid ht
     refine region_cls (F := F) (by kernel_rfl) (lexB_of_fast (by kernel_rfl)) (cls_drew hF2) ?_
     repeat (go_big_quiet_step (first | fail | (go_at_call 20; with_reducible exact cls_call hF1 hF2 HI.out _)))
     refine wpQuiet_nil ?_
     rintro wq ⟨xq, rfl⟩
     replace hL0 := hL0.call (hF1 xq)
     clear hg0 hF2 hne
     generalize F xq = y3 at hL0 ⊢
     clear hF1 xq iα F α
     have hb3 := hL0.bl
     have hrg3 := rg_below hrg1.out hb3 (by have := hMr.out; have := hE1.out; omega) (by have := hE1.out; omega)
     have hown3 := ownT_below hown1.out hb3
     have hE3 : r + 1 ≤ y3.heap.size := Nat.le_trans hE1.out hb3.size
     have hB3 := hB1.trans (hb3.mono hB1.size)
     cases t with
     | true =>
      have h0 : pair P (ind (x, y)) = 0 := by rw [← hcoef.out]; have := of_decide_eq_true ht.out.symm; rw [this, hz0.out]
      have hC3 := hC.out.skip hxy.out h0
      have hms : y3.rangeLeft w.heap.size r < wr.rangeLeft w.heap.size r := by rw [hrg3.left_eq, ← hrg1.out.left_eq]; exact hmeas.out
      replace hC3 := Lib.hid hC3
      replace hrg3 := Lib.hid hrg3
      replace hown3 := Lib.hid hown3
      replace hE3 := Lib.hid hE3
      replace hms := Lib.hid hms
      clear hL0 hb3
      go_wp2_with fail
      go_roundw
      case rel => exact ⟨_, _, q, m, hm.out, hC3.out, hrg3.out, hown3.out, hE3.out, hB3⟩
      case measure => exact hms.out
     | false =>
      have h0 : cc ≠ 0 := by have := of_decide_eq_false ht.out.symm; rw [hz0.out] at this; exact this
      have hC3 := hC.out.take hxy.out hlk.out hcoef.out h0
      have hml := hC3.len
      rw [List.length_append, ← hm.out] at hml
      have hml2 : m + 1 ≤ 169 := hml
      replace hC3 := Lib.hid hC3
      clear hml
      have hN0 := cells_of _ 0 [] rfl (hL0.get _ _ mZ)
      simp only [zF, Nat.reduceAdd] at hN0
      have hN1 := cells_of _ 0 [] rfl (hL0.get _ _ (mK mZ))
      simp only [zF, Nat.reduceAdd] at hN1
      have hL1 : GL y3 y3 [] := GL.start y3
      replace hL1 := hL1.new rfl [.int .i64 (x : Int), .int .i64 (y : Int), .int .u64 ((zl cc.num : Nat) : Int), .string (zh cc.num), .bool (zs cc.num), .int .u64 ((lo (fe cc) : Nat) : Int), .string (hs (fe cc))] 80
      generalize hweq : y3.alloc (.cells #[.int .i64 (x : Int), .int .i64 (y : Int), .int .u64 ((zl cc.num : Nat) : Int), .string (zh cc.num), .bool (zs cc.num), .int .u64 ((lo (fe cc) : Nat) : Int), .string (hs (fe cc))] 80) = y4 at hL1
      have hrg4 := Lib.hid (rg_below hrg3 hL1.bl (by have := hMr.out; omega) (by omega))
      have hown4 := Lib.hid (ownT_below hown3 hL1.bl)
      have hE4 := Lib.hid (show r + 1 ≤ y4.heap.size from Nat.le_trans hE3 hL1.bl.size)
      have hB4 := Lib.hid (hB3.trans (hL1.bl.mono hB3.size))
      have hms := Lib.hid (show y4.rangeLeft w.heap.size r < wr.rangeLeft w.heap.size r by rw [hrg4.out.left_eq, ← hrg1.out.left_eq]; exact hmeas.out)
      have hnw := Lib.hid (hd_newsH (hL1.get _ _ mZ))
      have hone := Lib.hid (show ∀ u ∈ ([.int .i64 (x : Int), .int .i64 (y : Int), .int .u64 ((zl cc.num : Nat) : Int), .string (zh cc.num), .bool (zs cc.num), .int .u64 ((lo (fe cc) : Nat) : Int), .string (hs (fe cc))] : List Value), u.oneCell' = true from tmC_one ((x : Int), (y : Int), cc))
      clear hrg3 hown3 hE3 hB3 hL0 hb3
      go_wp2_with (at_builtin; refine wpList_append_own _ rfl _ _ 30 rfl (r + 1) 80 i0 (.agg #[.int .i64 0, .int .i64 0, .int .u64 0, .string ⟨#[]⟩, .bool false, .int .u64 0, .string ⟨#[]⟩]) 7 72 Tryz.underlying30 hi.out hz1.out hz2.out hz3.out rfl (by decide) _ _ _ rfl hown4.out ⟨y3.heap.size, 0, none⟩ 1 1 [.int .i64 (x : Int), .int .i64 (y : Int), .int .u64 ((zl cc.num : Nat) : Int), .string (zh cc.num), .bool (zs cc.num), .int .u64 ((lo (fe cc) : Nat) : Int), .string (hs (fe cc))] rfl rfl hnw.out hone.out (by unfold maxLen; omega) (by omega) hE4.out ?_)
      intro v' w5 hown' hgrow _
      have hown5 : OwnT w5 (r + 1) v' (m + 1) (ofL (q ++ [(x, y, cc)])) := by
       unfold OwnT
       rw [show ofL (q ++ [(x, y, cc)]) = ofL q ++ [((x : Int), (y : Int), cc)] by simp [ofL, ofT], tmCs_snoc]; exact hown'
      have hrow : ∀ j, Value.ownBlock _ = some j → r + 1 ≤ j := fun j hj => (hown4.out.lt j hj).1
      have hrg5 := hrg4.out.kept hgrow (fun e => by have := hrow _ e.symm; have := hMr.out; omega) (fun e => by have := hrow _ e.symm; omega)
      have hms5 : w5.rangeLeft w.heap.size r < wr.rangeLeft w.heap.size r := by rw [hrg5.left_eq, ← hrg4.out.left_eq]; exact hms.out
      have hB5 := hB4.out.grown hgrow (by have := hE4.out; have := hMr.out; omega) (fun j hj => by have := hrow j hj; have := hMr.out; omega)
      have hE5 : r + 1 ≤ w5.heap.size := Nat.le_trans hE4.out hgrow.size
      clear hown' hrow hgrow hown4 hE4 hnw hone hweq hN0 hN1 hrg4 hB4 hms
      replace hown5 := Lib.hid hown5
      replace hE5 := Lib.hid hE5
      replace hrg5 := Lib.hid hrg5
      replace hB5 := Lib.hid hB5
      replace hms5 := Lib.hid hms5
      go_wp2_with fail
      go_roundw
      case rel => exact ⟨_, _, q ++ [(x, y, cc)], m + 1, by rw [List.length_append, ← hm.out]; rfl, hC3.out, hrg5.out, hown5.out, hE5.out, hB5.out⟩
      case measure => exact hms5.out
end Go.Proofs.YtkdbhacimoaohaaGreatDoor
namespace Go.Proofs.YtkdbhacimoaohaaGreatDoor
open Go.RowKit
attribute [local irreducible] lo hs sm s64 c64 d64 b64 mh ml pd pc qd qc val hiB str cmpI srD lz nb zl zh zs fe klT
/-- Grown: nothing below has turned, no draw is lost. -/
def BD (w w' : World) : Prop := Below w.heap.size w w' ∧ w.drawn ≤ w'.drawn
theorem BD.trans {a b c : World} (h : BD a b) (g : BD b c) : BD a c := ⟨h.1.trans (g.1.mono h.1.size), Nat.le_trans h.2 g.2⟩
theorem bd_grow {w w' : World} (h : BD w w') : ∃ q os, w' = Go.Sort.grow (w.drewN q) os := by
 obtain ⟨hb, hd⟩ := h
 refine ⟨w'.drawn - w.drawn, w'.heap.extract w.heap.size w'.heap.size, ?_⟩
 have hh : w'.heap = w.heap ++ w'.heap.extract w.heap.size w'.heap.size := by
  have h1 : w.heap = w'.heap.extract 0 w.heap.size := by
   apply Array.ext_getElem?
   intro k
   have hs := hb.size
   rcases Nat.lt_or_ge k w.heap.size with hk | hk
   ·rw [← hb.block k hk, Array.getElem?_extract]
    rw [if_pos (by omega)]; simp
   ·rw [Array.getElem?_eq_none (by omega), Array.getElem?_eq_none (by simp; omega)]
  conv => rhs; lhs; rw [h1]
  rw [Array.extract_append_extract]
  have hs := hb.size
  rw [show min 0 w.heap.size = 0 by omega, show max w.heap.size w'.heap.size = w'.heap.size by omega, Array.extract_size]
 obtain ⟨heap, tape, drawn, os, output⟩ := w'
 obtain ⟨heap2, tape2, drawn2, os2, output2⟩ := w
 have h1 := hb.os
 have h2 := hb.tape
 have h3 := hb.output
 simp only at h1 h2 h3 hd hh
 subst h1 h2 h3
 unfold Go.Sort.grow World.drewN
 simp only [World.mk.injEq, and_true, true_and]
 exact ⟨hh, by omega⟩
theorem clsD (w0 : World) : ∃ (α : Type) (_ : Nonempty α) (F : α → World), (∀ x, BD w0 (F x)) ∧ (∀ W, BD w0 W → ∃ x, W = F x) :=
 ⟨{W : World // BD w0 W}, ⟨⟨w0, Below.refl _ _, Nat.le_refl _⟩⟩, fun x => x.1, fun x => x.2, fun W h => ⟨⟨W, h⟩, rfl⟩⟩
theorem clsD_drew {α : Type} {F : α → World} {w0 : World} (h2 : ∀ W, BD w0 W → ∃ x, W = F x) : ∃ x, w0.drew = F x := h2 _ ⟨(Below.refl _ _).drew, Nat.le_succ _⟩
theorem cls_same {α : Type} {F : α → World} {P : Program} {f : FuncId} {args : Array Value} {v : Value}
  (h : ∀ w, Calls P f args w fun e w' => e = .returned v ∧ w' = w) (x : α) : Calls P f args (F x) fun e w'' => e = .returned v ∧ ∃ y, w'' = F y :=
 (h (F x)).mono fun _ _ ⟨he, hw⟩ => ⟨he, x, hw⟩
theorem or_w (x y r : Int) (hr : r = if x = 0 then y else x) (g : Nat) (w : World) (c0 : w.cell? ⟨g, 0, none⟩ = some (.int .i64 x)) (c1 : w.cell? ⟨g, 1, none⟩ = some (.int .i64 y)) :
  Calls Tryz.prog 104 #[.slice (some ⟨g, 0, none⟩) 2 2] w fun e w' => e = .returned (.int .i64 r) ∧ w' = w := by
 replace hr := Lib.hid hr
 go_enter Tryz.func104, Tryz.ntmps104
 go_wp2_with fail
 go_loopg [8] 2 (fun gk iv wr => ∃ (i : Nat) (zi : Int), i + gk = 2 ∧ iv = .int .i64 zi ∧ zi = (i : Int) ∧ wr = w ∧ (1 ≤ i → x = 0) ∧ (2 ≤ i → y = 0))
 case atStart => exact ⟨0, 0, rfl, by first | rfl | go_num, rfl, rfl, fun h => absurd h (by omega), fun h => absurd h (by omega)⟩
 case round =>
  obtain ⟨i, zi, hik, rfl, hzi, rfl, h1, h2⟩ := hrel
  replace h1 := Lib.hid h1
  replace h2 := Lib.hid h2
  obtain rfl | rfl | rfl : i = 0 ∨ i = 1 ∨ i = 2 := by omega
  ·have hz : zi = 0 := by omega
   clear hzi
   subst hz
   by_cases hx : x = 0
   ·have b1 : (x != 0) = false := by rw [hx]; rfl
    replace hx := Lib.hid hx
    go_wp2_with fail
    go_roundg 1
    case measure => omega
    case rel => exact ⟨1, 1, by omega, by first | rfl | go_num, rfl, rfl, fun _ => hx.out, fun h => absurd h (by omega)⟩
   ·have b1 : (x != 0) = true := by simpa using hx
    have hrx : r = x := by rw [hr.out, if_neg hx]
    replace hx := Lib.hid hx
    replace hrx := Lib.hid hrx
    go_wp2_with fail
    go_ret
    exact ⟨by rw [hrx.out]; rfl, rfl⟩
  ·have hz : zi = 1 := by omega
   clear hzi
   subst hz
   have hx := Lib.hid (h1.out (Nat.le_refl _))
   by_cases hy : y = 0
   ·have b1 : (y != 0) = false := by rw [hy]; rfl
    replace hy := Lib.hid hy
    go_wp2_with fail
    go_roundg 0
    case measure => omega
    case rel => exact ⟨2, 2, by omega, by first | rfl | go_num, rfl, rfl, fun _ => hx.out, fun _ => hy.out⟩
   ·have b1 : (y != 0) = true := by simpa using hy
    have hrx : r = y := by rw [hr.out, if_pos hx.out]
    replace hy := Lib.hid hy
    replace hrx := Lib.hid hrx
    go_wp2_with fail
    go_ret
    exact ⟨by rw [hrx.out]; rfl, rfl⟩
  ·have hz : zi = 2 := by omega
   clear hzi
   subst hz
   have hrx : r = 0 := by rw [hr.out, if_pos (h1.out (by omega)), h2.out (Nat.le_refl _)]
   replace hrx := Lib.hid hrx
   go_wp2_with fail
   go_ret
   exact ⟨by rw [hrx.out]; rfl, rfl⟩
theorem porder_w (a b a2 b2 sa sb c1 c2 r : Int) (q q2 : Rat) (ha : IntKind.i64.wrap (a + b) = sa) (ha2 : wrap64 (a + b) = sa) (hb : IntKind.i64.wrap (a2 + b2) = sb) (hb2 : wrap64 (a2 + b2) = sb)
  (H1 : ∀ w, Calls Tryz.prog 105 #[.int .i64 sa, .int .i64 sb] w fun e w' => e = .returned (.int .i64 c1) ∧ w' = w)
  (H2 : ∀ w, Calls Tryz.prog 105 #[.int .i64 b, .int .i64 b2] w fun e w' => e = .returned (.int .i64 c2) ∧ w' = w)
  (HO : ∀ (g : Nat) (w : World), w.cell? ⟨g, 0, none⟩ = some (.int .i64 c1) → w.cell? ⟨g, 1, none⟩ = some (.int .i64 c2) → Calls Tryz.prog 104 #[.slice (some ⟨g, 0, none⟩) 2 2] w fun e w' => e = .returned (.int .i64 r) ∧ w' = w) (w : World) :
  Calls Tryz.prog 76 #[tmV a b q, tmV a2 b2 q2] w fun e w' => e = .returned (.int .i64 r) ∧ BD w w' := by
 replace H1 := Lib.hid H1
 replace H2 := Lib.hid H2
 replace HO := Lib.hid HO
 have hL0 : GL w w [] := GL.start w
 obtain ⟨x1, hweq, hL0⟩ := GL.named (hL0.new rfl [.int .i64 a, .int .i64 b, .int .u64 ((zl q.num : Nat) : Int), .string (zh q.num), .bool (zs q.num), .int .u64 ((lo (fe q) : Nat) : Int), .string (hs (fe q))] 80)
 have hd1 : w.drawn ≤ x1.drawn := by rw [← hweq]; exact Nat.le_refl _
 replace hL0 := hL0.new rfl [.int .i64 a2, .int .i64 b2, .int .u64 ((zl q2.num : Nat) : Int), .string (zh q2.num), .bool (zs q2.num), .int .u64 ((lo (fe q2) : Nat) : Int), .string (hs (fe q2))] 80
 generalize hweq2 : x1.alloc (.cells #[.int .i64 a2, .int .i64 b2, .int .u64 ((zl q2.num : Nat) : Int), .string (zh q2.num), .bool (zs q2.num), .int .u64 ((lo (fe q2) : Nat) : Int), .string (hs (fe q2))] 80) = x2 at hL0
 have hd2 : w.drawn ≤ x2.drawn := by rw [← hweq2]; exact hd1
 go_enter Tryz.func76, Tryz.ntmps76
 go_upto_region 1 with fail
 clear hweq hweq2 hd1
 obtain ⟨α, iα, F, hF1, hF2⟩ := clsD x2
 have hg0 := cls_box (fun x => (hF1 x).1) hL0 _ _ mZ
 simp only [zC, Nat.reduceAdd] at hg0
 have hg1 := cls_box (fun x => (hF1 x).1) hL0 _ _ (mK mZ)
 simp only [zC, Nat.reduceAdd] at hg1
 refine region_qs 16 (C := fun w' => ∃ x, w' = F x) (by kernel_rfl) (by kernel_rfl) (clsD_drew hF2) ?_
 simp only [zT]
 repeat (go_big_quiet_step (first | fail | (go_at_call 105; first | (with_reducible exact cls_same H1.out _) | (with_reducible exact cls_same H2.out _))))
 refine wpQuiet_nil ?_
 rintro wq ⟨xq, rfl⟩
 replace hL0 := hL0.call (hF1 xq).1
 have hd3 := Nat.le_trans hd2 (hF1 xq).2
 clear hg0 hg1 hF2 hd2
 generalize F xq = x3 at hL0 hd3 ⊢
 clear hF1 xq iα F α
 obtain ⟨x4, hweq, hL0⟩ := GL.named (hL0.new rfl [.int .i64 c1, .int .i64 c2] 3)
 have hd4 : w.drawn ≤ x4.drawn := by rw [← hweq]; exact hd3
 have hN0 := cells_of _ 0 [] rfl (hL0.get _ _ mZ)
 simp only [zF, Nat.reduceAdd] at hN0
 have hcall := HO.out x3.heap.size x4 hN0.1 hN0.2
 clear hN0
 go_wp2_with (go_at_call 104; with_reducible refine Calls.mono hcall ?_; rintro e x5 ⟨rfl, rfl⟩)
 go_ret
 exact ⟨rfl, hL0.bl, hd4⟩
theorem run_clip (ao : Option Addr) (m c : Nat) (h : m ≤ c) (h0 : ao = none → m = 0) : ∃ c', ∀ W : World, (Instr.slice 30 (.slice ao m c) none (some (.int .i64 (m : Int))) (some (.int .i64 (m : Int)))).run Tryz.prog W = .ok (.slice ao m c') W := by
 have h1 : (m : Int) ≤ (c : Int) := by omega
 cases ao with
 | none =>
  obtain rfl := h0 rfl
  exact ⟨0, fun W => by simp [Instr.slice, Instr.sliceBounds, run_underlying Tryz.underlying30, run_sliceBound, go_sem] <;> rfl⟩
 | some a =>
  refine ⟨m, fun W => ?_⟩
  simp [Instr.slice, Instr.sliceBounds, run_underlying Tryz.underlying30, run_sliceBound, h1, go_sem] <;> rfl
theorem clip_w (w : World) (ao : Option Addr) (m c : Nat) (h : m ≤ c) (h0 : ao = none → m = 0) : Calls Tryz.prog 77 #[.slice ao m c] w fun xe w' => ∃ c', xe = .returned (.slice ao m c') ∧ w' = w := by
 obtain ⟨c', hs⟩ := run_clip ao m c h h0
 clear h h0
 go_enter Tryz.func77, Tryz.ntmps77
 go_wp2_with fail
 go_ret
 exact ⟨c', rfl, rfl⟩
end Go.Proofs.YtkdbhacimoaohaaGreatDoor
namespace Go.Proofs
open Go.Shelf
def Tryz.sortT_ren : Go.Shelf.Ren := ⟨fun | 14 => 102 | 20 => 122 | 21 => 123 | 22 => 124 | 23 => 125 | 24 => 126 | 25 => 127 | 26 => 128 | 27 => 129 | 46 => 148 | 47 => 149 | 48 => 150 | 49 => 151 | 50 => 152 | 15 => 103 | 57 => 170 | 28 => 130 | 29 => 131 | n => n, fun | 24 => 80 | 22 => 29 | 3 => 3 | 25 => 116 | 4 => 4 | 0 => 0 | 46 => 171 | 45 => 170 | 50 => 175 | 66 => 196 | 39 => 63 | 55 => 32 | 70 => 200 | 76 => 218 | 77 => 219 | 53 => 23 | 5 => 5 | 9 => 9 | n => n, fun | n => n⟩
theorem Tryz.sortT : Go.Proofs.SlLaysF0.n14 Tryz.prog Tryz.sortT_ren := {
 mixed := by kernel_rfl
 f14 := ⟨Tryz.f102.name, by decide, Tryz.func102.trans (congrArg some (by kernel_rfl))⟩
 f15 := Tryz.func103.trans (congrArg some (by kernel_rfl))
 f20 := ⟨Tryz.f122.name, by decide, Tryz.func122.trans (congrArg some (by kernel_rfl))⟩
 f21 := ⟨Tryz.f123.name, by decide, Tryz.func123.trans (congrArg some (by kernel_rfl))⟩
 f22 := ⟨Tryz.f124.name, by decide, Tryz.func124.trans (congrArg some (by kernel_rfl))⟩
 f23 := ⟨Tryz.f125.name, by decide, Tryz.func125.trans (congrArg some (by kernel_rfl))⟩
 f24 := ⟨Tryz.f126.name, by decide, Tryz.func126.trans (congrArg some (by kernel_rfl))⟩
 f25 := ⟨Tryz.f127.name, by decide, Tryz.func127.trans (congrArg some (by kernel_rfl))⟩
 f26 := ⟨Tryz.f128.name, by decide, Tryz.func128.trans (congrArg some (by kernel_rfl))⟩
 f27 := ⟨Tryz.f129.name, by decide, Tryz.func129.trans (congrArg some (by kernel_rfl))⟩
 f28 := Tryz.func130.trans (congrArg some (by kernel_rfl))
 f29 := Tryz.func131.trans (congrArg some (by kernel_rfl))
 f46 := ⟨Tryz.f148.name, by decide, Tryz.func148.trans (congrArg some (by kernel_rfl))⟩
 f47 := Tryz.func149.trans (congrArg some (by kernel_rfl))
 f48 := Tryz.func150.trans (congrArg some (by kernel_rfl))
 f49 := ⟨Tryz.f151.name, by decide, Tryz.func151.trans (congrArg some (by kernel_rfl))⟩
 f50 := ⟨Tryz.f152.name, by decide, Tryz.func152.trans (congrArg some (by kernel_rfl))⟩
 f57 := ⟨Tryz.f170.name, by decide, Tryz.func170.trans (congrArg some (by kernel_rfl))⟩
 t0 := Tryz.underlying0
 a0 := Tryz.isAgg0
 z0 := Tryz.sizeOf0
 v0 := Tryz.zeroValue0
 t3 := Tryz.underlying3
 a3 := Tryz.isAgg3
 z3 := Tryz.sizeOf3
 v3 := Tryz.zeroValue3
 t4 := Tryz.underlying4
 a4 := Tryz.isAgg4
 z4 := Tryz.sizeOf4
 v4 := Tryz.zeroValue4
 t5 := Tryz.underlying5
 a5 := Tryz.isAgg5
 z5 := Tryz.sizeOf5
 v5 := Tryz.zeroValue5
 t9 := Tryz.underlying9
 a9 := Tryz.isAgg9
 z9 := Tryz.sizeOf9
 v9 := Tryz.zeroValue9
 t22 := Tryz.underlying29
 a22 := Tryz.isAgg29
 z22 := Tryz.sizeOf29
 v22 := Tryz.zeroValue29
 t25 := Tryz.underlying116
 a25 := Tryz.isAgg116
 z25 := Tryz.sizeOf116
 v25 := Tryz.zeroValue116
 t39 := Tryz.underlying63
 a39 := Tryz.isAgg63
 z39 := Tryz.sizeOf63
 v39 := Tryz.zeroValue63
 t45 := Tryz.underlying170
 a45 := Tryz.isAgg170
 z45 := Tryz.sizeOf170
 v45 := Tryz.zeroValue170
 t46 := Tryz.underlying171
 a46 := Tryz.isAgg171
 z46 := Tryz.sizeOf171
 v46 := Tryz.zeroValue171
 t50 := Tryz.underlying175
 a50 := Tryz.isAgg175
 z50 := Tryz.sizeOf175
 v50 := Tryz.zeroValue175
 t53 := Tryz.underlying23
 a53 := Tryz.isAgg23
 z53 := Tryz.sizeOf23
 v53 := Tryz.zeroValue23
 t55 := Tryz.underlying32
 a55 := Tryz.isAgg32
 z55 := Tryz.sizeOf32
 v55 := Tryz.zeroValue32
 t66 := Tryz.underlying196
 a66 := Tryz.isAgg196
 z66 := Tryz.sizeOf196
 v66 := Tryz.zeroValue196
 t70 := Tryz.underlying200
 a70 := Tryz.isAgg200
 z70 := Tryz.sizeOf200
 v70 := Tryz.zeroValue200
 t76 := Tryz.underlying218
 a76 := Tryz.isAgg218
 z76 := Tryz.sizeOf218
 v76 := Tryz.zeroValue218
 t77 := Tryz.underlying219
 a77 := Tryz.isAgg219
 z77 := Tryz.sizeOf219
 v77 := Tryz.zeroValue219 }
end Go.Proofs
namespace Go.Proofs.YtkdbhacimoaohaaGreatDoor
open Go.RowKit
attribute [local irreducible] lo hs sm s64 c64 d64 b64 mh ml pd pc qd qc val hiB str cmpI srD lz nb zl zh zs fe klT
abbrev VT := {t : TI // Vd t}
instance : Inhabited VT := ⟨⟨(0, 0, 0), by unfold Vd; simp⟩⟩
def encT (x : VT) : List Value := tmC x.1
/-- The order of terms. -/
def ordZ (s t : TI) : Int := if Go.Lib.compareInt (s.1 + s.2.1) (t.1 + t.2.1) = 0 then Go.Lib.compareInt s.2.1 t.2.1 else Go.Lib.compareInt (s.1 + s.2.1) (t.1 + t.2.1)
theorem ordZ_lt {s t : TI} (hs : Vd s) (ht : Vd t) : ordZ s t < 0 ↔ KLt (key (toT s)) (key (toT t)) := by
 obtain ⟨h1, h2, h3⟩ := hs
 obtain ⟨g1, g2, g3⟩ := ht
 unfold ordZ Go.Lib.compareInt KLt toT
 simp only
 split <;> split <;> (try split) <;> (try split) <;> (try split) <;> omega
def cfT (x y : VT) : Int := ordZ x.1 y.1
theorem ltOf_iff (x y : VT) : ltOf cfT x y = true ↔ KLt (key (toT x.1)) (key (toT y.1)) := by
 unfold ltOf cfT
 rw [decide_eq_true_iff, ordZ_lt x.2 y.2]
theorem ltOf_not (x y : VT) : ltOf cfT x y = false ↔ ¬ KLt (key (toT x.1)) (key (toT y.1)) := by
 rw [← ltOf_iff, Bool.not_eq_true]
theorem swoT : Go.Sort.SWO (ltOf cfT) where
 irrefl x := (ltOf_not x x).2 (KLt.irrefl _)
 trans x y z h1 h2 := (ltOf_iff x z).2 (KLt.trans ((ltOf_iff x y).1 h1) ((ltOf_iff y z).1 h2))
 ntrans x y z h1 h2 := by
  rw [ltOf_not] at *
  unfold KLt at *
  omega
theorem porder_any (s t : TI) (hs : Vd s) (ht : Vd t) (w : World) : Calls Tryz.prog 76 #[tmV s.1 s.2.1 s.2.2, tmV t.1 t.2.1 t.2.2] w fun e w' => e = .returned (.int .i64 (ordZ s t)) ∧ BD w w' := by
 have wr : ∀ {u : TI}, Vd u → IntKind.i64.wrap (u.1 + u.2.1) = u.1 + u.2.1 := by
  rintro u ⟨h1, h2, h3⟩
  simp [IntKind.wrap, IntKind.bits, IntKind.signed]; omega
 have wr2 : ∀ {u : TI}, Vd u → wrap64 (u.1 + u.2.1) = u.1 + u.2.1 := by
  rintro u ⟨h1, h2, h3⟩
  simp [wrap64]; omega
 refine porder_w s.1 s.2.1 t.1 t.2.1 (s.1 + s.2.1) (t.1 + t.2.1) (Go.Lib.compareInt (s.1 + s.2.1) (t.1 + t.2.1)) (Go.Lib.compareInt s.2.1 t.2.1) (ordZ s t) s.2.2 t.2.2 (wr hs) (wr2 hs) (wr ht) (wr2 ht) (fun w => Tryz.cmp_Compare_int _ _ w) (fun w => Tryz.cmp_Compare_int _ _ w) (fun g w c0 c1 => or_w _ _ _ rfl g w c0 c1) w
theorem cmpT (blk off size : Nat) (w : World) : CmpLays Tryz.prog 76 #[] encT 7 cfT blk off size w :=
 fun _ _ _ _ x y => (porder_any x.1 y.1 x.2 y.2 _).mono fun _ _ ⟨he, hb⟩ => ⟨he, bd_grow hb⟩
theorem vt_list : ∀ (q : TL), TB q 12 → ∃ d : List VT, d.map (·.1) = ofL q
 | [], _ => ⟨[], rfl⟩
 | t :: q, h => by
  obtain ⟨d, hd⟩ := vt_list q (fun u hu => h u (mK hu))
  exact ⟨⟨ofT t, vd_ofT.2 (h t mZ)⟩ :: d, by simp only [List.map_cons, hd]; rfl⟩
theorem flat_get (d : Array VT) (j : Nat) (hj : j < d.size * 7) : (tmCs (d.toList.map (·.1)))[j]? = some ((Go.Sort.flatK encT 7 d)[j]!) := by
 rw [Go.Sort.get_flatK _ _ _ _ hj]
 have hi : j / 7 < d.size := by omega
 have e := tmCs_get (d.toList.map (·.1)) (j / 7) (j % 7) (by simpa using hi) (Nat.mod_lt _ (by omega))
 rw [show j / 7 * 7 + j % 7 = j by omega] at e
 rw [e, getElem!_pos d _ hi]
 have hl : j % 7 < (encT d[j / 7]).length := Nat.mod_lt _ (by omega)
 have e2 : (d.toList.map (·.1))[j / 7]'(by simpa using hi) = (d[j / 7]).1 := by simp
 rw [e2]
 show (encT d[j / 7])[j % 7]? = _
 rw [List.getElem?_eq_getElem hl, getElem!_pos (encT d[j / 7]) (j % 7) hl]
theorem holdsT {w : World} {B n g c : Nat} {l : List TI} (h : OwnT w B (.slice (some ⟨g, 0, none⟩) n c) n l) (hn : n = l.length) (d : Array VT) (hd : d.toList.map (·.1) = l) : Go.Sort.HoldsK encT 7 w g 0 d := by
 intro j hj
 rw [Go.Sort.size_flatK] at hj
 refine ⟨?_, ?_⟩
 ·have e := flat_get d j hj
  rw [hd] at e
  have := ownT_cells h rfl j _ e
  rw [Nat.zero_add]; exact this
 ·rcases h.2 with ⟨h1, _⟩ | ⟨g2, cap, cur, h1, h2, h3, _⟩
  ·cases h1
  ·cases h1
   unfold World.frozen?
   simp only [h3]
   simp
theorem holds_ts {w : World} {g : Nat} {d : Array VT} (h : Go.Sort.HoldsK encT 7 w g 0 d) (hg : g < w.heap.size) : TS w g (d.toList.map (·.1)) := by
 have hc : ∀ j u, (tmCs (d.toList.map (·.1)))[j]? = some u → w.cell? ⟨g, j, none⟩ = some u := by
  intro j u hu
  have hj : j < (tmCs (d.toList.map (·.1))).length := (List.getElem?_eq_some_iff.1 hu).1
  rw [tmCs_length, List.length_map, Array.length_toList] at hj
  have e := flat_get d j hj
  rw [hu] at e
  have := (h j (by rw [Go.Sort.size_flatK]; exact hj)).1
  rw [Nat.zero_add] at this
  rw [this]; exact e.symm
 refine ⟨fun i hi => ?_, hg⟩
 have e := fun j hj => tmCs_get (d.toList.map (·.1)) i j hi hj
 exact ⟨hc _ _ (by have := e 0 (by omega); rw [Nat.add_zero] at this; exact this), hc _ _ (e 1 (by omega)), hc _ _ (e 2 (by omega)), hc _ _ (e 3 (by omega)), hc _ _ (e 4 (by omega)), hc _ _ (e 5 (by omega)), hc _ _ (e 6 (by omega))⟩
theorem swk_below {w w' : World} {g : Nat} {d : Array VT} (h : SWK encT 7 w g 0 d w') (hg : g < w.heap.size) : Below g w w' := by
 obtain ⟨n, os, rfl⟩ := h
 refine ⟨rfl, rfl, rfl, ?_, fun k hk => ?_⟩
 ·unfold sortWorldK
  rw [Go.Sort.size_grow, Go.Sort.size_putRowK]
  show w.heap.size ≤ w.heap.size + _
  omega
 ·show (((w.heap.modify g _) ++ os : Array Obj))[k]? = _
  have h1 : k < w.heap.size := by omega
  rw [Array.getElem?_append_left (by simpa using h1), Array.getElem?_modify, if_neg (by omega)]
theorem sortf_w (ao : Option Addr) (m c : Nat) (L : Int) (Q : World → Prop) (w : World) (hw : IntKind.u64.wrap (m : Int) = (m : Int))
  (HL : ∀ w, Calls Tryz.prog 103 #[.int .u64 (m : Int)] w fun e w' => e = .returned (.int .i64 L) ∧ w' = w)
  (HP : Calls Tryz.prog 102 #[.slice ao m c, .int .i64 0, .int .i64 (m : Int), .int .i64 L, .func (.func 76) #[] #[]] w fun e w' => e = .returned (.tuple #[]) ∧ Q w') :
  Calls Tryz.prog 75 #[.slice ao m c, .func (.func 76) #[] #[]] w fun e w' => e = .returned (.tuple #[]) ∧ Q w' := by
 replace HL := Lib.hid HL
 replace HP := Lib.hid HP
 go_enter Tryz.func75, Tryz.ntmps75
 go_wp2_with (first | fail | (go_at_call 103; with_reducible refine Calls.mono (HL.out _) ?_; rintro e w1 ⟨rfl, rfl⟩) | (go_at_call 102; with_reducible refine Calls.mono HP.out ?_; rintro e w2 ⟨rfl, hQ⟩; replace hQ := Lib.hid hQ))
 go_end0
 exact ⟨rfl, hQ.out⟩
theorem psort_any (w : World) (B : Nat) (ao : Option Addr) (m c : Nat) (q : TL) (hm : m = q.length) (htb : TB q 12) (hl : q.length ≤ 169) (h : OwnT w B (.slice ao m c) m (ofL q)) :
  Calls Tryz.prog 75 #[.slice ao m c, .func (.func 76) #[] #[]] w fun xe w' => xe = .returned (.tuple #[]) ∧ (∃ s : TL, s.Perm q ∧ s.Pairwise (fun a b => ¬ KLt (key b) (key a)) ∧ PT w' (.slice ao m c) (ofL s)) ∧ Below B w w' := by
 have hw : IntKind.u64.wrap (m : Int) = (m : Int) := by simp [IntKind.wrap, IntKind.bits, IntKind.signed]; omega
 have HL : ∀ w, Calls Tryz.prog 103 #[.int .u64 (m : Int)] w fun e w' => e = .returned (.int .i64 ((Go.Lib.bitLen m : Nat) : Int)) ∧ w' = w := fun w => by
  have := Tryz.bits_Len (m : Int) w (by omega) (by omega)
  rwa [Int.toNat_natCast] at this
 rcases Nat.eq_zero_or_pos m with h0 | h0
 ·subst h0
  have hq : q = [] := List.eq_nil_of_length_eq_zero hm.symm
  subst hq
  have hp := AnyF.pdqsortCmpFunc_none (P := Tryz.prog) Tryz.sortT ao c (Go.Lib.bitLen 0) (.func (.func 76) #[] #[]) w
  refine sortf_w ao 0 c _ _ w hw HL ?_
  refine Calls.mono hp ?_
  rintro e w' ⟨he, rfl⟩
  exact ⟨he, ⟨[], List.Perm.nil, List.Pairwise.nil, .inl ⟨ao, c, rfl, rfl⟩⟩, Below.refl _ _⟩
 ·obtain ⟨g, hao, hg1, hg2⟩ : ∃ g, ao = some ⟨g, 0, none⟩ ∧ B ≤ g ∧ g < w.heap.size := by
   have hlt := h.lt
   rcases h.2 with ⟨h1, h2⟩ | ⟨g, cap, cur, h1, h2, h3, h4, h5⟩
   ·omega
   ·simp only [Value.slice.injEq] at h1
    obtain ⟨rfl, -, -⟩ := h1
    exact ⟨g, rfl, h2, (hlt g rfl).2⟩
  subst hao
  obtain ⟨dl, hdl⟩ := vt_list q htb
  obtain ⟨d, hd⟩ : ∃ d : Array VT, d.toList = dl := ⟨dl.toArray, by simp⟩
  have hdl2 : d.toList.map (·.1) = ofL q := by rw [hd, hdl]
  have hsz : d.size = m := by
   have := congrArg List.length hdl2
   rw [List.length_map, Array.length_toList] at this
   rw [this, hm]; exact List.length_map _
  have hH := holdsT h (by rw [hm]; exact (List.length_map _).symm) d hdl2
  have eg : ∀ args w, (callFunc 76 args).run Tryz.prog w = .ok (.enter 76 args) w := enters_of Tryz.func76 (by kernel_rfl) rfl
  have hlim : Go.Lib.bitLen m < 4611686018427387904 := Nat.lt_of_le_of_lt (Go.Lib.bitLen_le m 62 (by omega) (by omega)) (by omega)
  have hp := AnyQ.pdqsortCmpFunc_all (P := Tryz.prog) Tryz.sortT 7 Tryz.isAgg80 Tryz.sizeOf80 encT cfT 76 #[] swoT g 0 c d w eg (cmpT g 0 d.size w) ⟨fun _ => rfl, fun x v hv => tmC_one _ v hv, hH, hg2⟩ (d.size + 1) 0 d.size (Go.Lib.bitLen m) d w (by omega) rfl (SWK.start hH) (Nat.zero_le _) (Nat.le_refl _) (by omega) hlim (Or.inl rfl)
  rw [hsz] at hp
  refine sortf_w _ m c _ _ w hw HL ?_
  refine Calls.mono hp ?_
  rintro e w' ⟨he, hs⟩
  have hps := Go.Sort.pdq_sorts (ltOf cfT) swoT d 0 d.size (Go.Lib.bitLen m) true true (Nat.zero_le _) (Nat.le_refl _) (Or.inl rfl)
  rw [hsz] at hps
  generalize Go.Sort.pdq (ltOf cfT) d 0 m (Go.Lib.bitLen m) true true = d' at hs hps
  obtain ⟨⟨hps1, -, hps3⟩, hso⟩ := hps
  have hperm : d'.toList.Perm d.toList := by
   have e1 : d'.extract 0 m = d' := by rw [← hsz, ← hps1]; exact Array.extract_size
   have e2 : d.extract 0 m = d := by rw [← hsz]; exact Array.extract_size
   rwa [e1, e2] at hps3
  have hH' := hs.holds hg2 hH hps1
  have hts := holds_ts hH' (hs.lt hg2)
  refine ⟨he, ⟨toL (d'.toList.map (·.1)), ?_, ?_, ?_⟩, (swk_below hs hg2).mono hg1⟩
  ·have := (hperm.map (·.1)).map toT
   rw [hdl2] at this
   have e := toL_ofL q
   unfold toL at e ⊢
   rwa [e] at this
  ·unfold toL
   rw [List.map_map, List.pairwise_map, List.pairwise_iff_getElem]
   intro i j hi hj hij
   have hj2 : j < d'.size := by simpa using hj
   have hi2 : i < d'.size := by omega
   have := hso i j (Nat.zero_le _) hij (by omega)
   rw [getElem!_pos d' j hj2, getElem!_pos d' i hi2, ltOf_not] at this
   simpa using this
  ·have hvd : VdL (d'.toList.map (·.1)) := by
    intro t ht
    obtain ⟨x, -, rfl⟩ := List.mem_map.1 ht
    exact x.2
   rw [ofL_toL hvd]
   have hlen : (d'.toList.map (·.1)).length = m := by rw [List.length_map, Array.length_toList, hps1, hsz]
   exact pt_mk hlen.symm fun _ => ⟨g, rfl, hts⟩
end Go.Proofs.YtkdbhacimoaohaaGreatDoor
namespace Go.Proofs.YtkdbhacimoaohaaGreatDoor
open Go.RowKit
attribute [local irreducible] lo hs sm s64 c64 d64 b64 mh ml pd pc qd qc val hiB str cmpI srD lz nb zl zh zs fe klT ordZ
/-- The error of a term. -/
def flt (t : TI) : Int := if t.1 < 0 ∨ t.2.1 < 0 then 1 else if 12 < t.1 ∨ 12 - t.1 < t.2.1 then 9 else 0
theorem flt_zero {t : TI} : flt t = 0 ↔ Vd t := by
 unfold flt Vd
 split
 ·constructor <;> intro h <;> omega
 ·split
  ·constructor <;> intro h <;> omega
  ·constructor <;> intro h <;> omega
def errL : List TI → Int
 | [] => 0
 | t :: l => if flt t = 0 then errL l else flt t
theorem errL_zero {l : List TI} (h : VdL l) : errL l = 0 := by
 induction l with
 | nil => rfl
 | cons t l ih => unfold errL; rw [if_pos (flt_zero.2 (h t mZ))]; exact ih fun u hu => h u (mK hu)
theorem errL_at : ∀ {l : List TI} {i : Nat} (hi : i < l.length), VdL (l.take i) → ¬ Vd l[i] → errL l = flt l[i]
 | t :: l, 0, hi, _, hb => by
  have hb' : ¬ Vd t := hb
  unfold errL
  rw [if_neg (fun e => hb' (flt_zero.1 e))]; rfl
 | t :: l, i + 1, hi, hv, hb => by
  unfold errL
  rw [if_pos (flt_zero.2 (hv t (by simp)))]
  exact errL_at (l := l) (i := i) (by simpa using hi) (fun u hu => hv u (by simp [hu])) hb
/-- What a slice of terms stands for, in normal form. -/
def nrm (l : List TI) : TL := if VdL l then nfL (toL l) else []
theorem nrm_tb (l : List TI) : TB (nrm l) 12 := by
 unfold nrm
 split
 ·rename_i h; exact tb_nfL (tb_toL h)
 ·intro t ht; cases ht
theorem nrm_ofL {p : TL} (hp : NF p) (hb : TB p 12) : nrm (ofL p) = p := by
 unfold nrm
 rw [if_pos (vd_ofL.2 hb), toL_ofL, nfL_self hp]
theorem nrm_len (l : List TI) : (nrm l).length ≤ l.length := by
 unfold nrm
 split
 ·exact Nat.le_trans (nfL_len _) (Nat.le_of_eq (List.length_map _))
 ·exact Nat.zero_le _
theorem nf_snoc {p : TL} {t : Nat × Nat × Rat} (hp : NF p) (h0 : t.2.2 ≠ 0) (h : ∀ u ∈ p, KLt (key u) (key t)) : NF (p ++ [t]) := by
 refine ⟨List.pairwise_append.2 ⟨hp.up, List.pairwise_singleton _ _, fun u hu v hv => ?_⟩, fun u hu => ?_⟩
 ·rw [List.mem_singleton.1 hv]; exact h u hu
 ·rcases List.mem_append.1 hu with hu | hu
  ·exact hp.nz u hu
  ·rw [List.mem_singleton.1 hu]; exact h0
theorem nf_snoc2 {p : TL} {s t : Nat × Nat × Rat} (hp : NF (p ++ [s])) (h0 : t.2.2 ≠ 0) (h : KLt (key s) (key t)) : NF (p ++ [s] ++ [t]) := by
 refine nf_snoc hp h0 fun u hu => ?_
 rcases List.mem_append.1 hu with hu | hu
 ·exact KLt.trans ((List.pairwise_append.1 hp.up).2.2 u hu s (List.mem_singleton.2 rfl)) h
 ·rw [List.mem_singleton.1 hu]; exact h
theorem tk_snoc {l : List TI} {i : Nat} (h : i < l.length) : toL (l.take (i + 1)) = toL (l.take i) ++ [toT l[i]] := by
 rw [List.take_succ_eq_append_getElem h]
 unfold toL
 rw [List.map_append]
 rfl
theorem vd_snoc {l : List TI} {i : Nat} (h : i < l.length) (hv : VdL (l.take i)) (ht : Vd l[i]) : VdL (l.take (i + 1)) := by
 rw [List.take_succ_eq_append_getElem h]
 intro t hm
 rcases List.mem_append.1 hm with hm | hm
 ·exact hv t hm
 ·rw [List.mem_singleton.1 hm]; exact ht
theorem pfault_w (i j s e : Int) (q : Rat) (hs1 : ¬ i < 0 → ¬ 12 < i → IntKind.i64.wrap (12 - i) = s) (hs2 : ¬ i < 0 → ¬ 12 < i → wrap64 (12 - i) = s) (h : (i < 0 ∧ e = 1) ∨ (¬ i < 0 ∧ j < 0 ∧ e = 1) ∨ (¬ i < 0 ∧ ¬ j < 0 ∧ 12 < i ∧ e = 9) ∨ (¬ i < 0 ∧ ¬ j < 0 ∧ ¬ 12 < i ∧ s < j ∧ e = 9) ∨ (¬ i < 0 ∧ ¬ j < 0 ∧ ¬ 12 < i ∧ ¬ s < j ∧ e = 0)) (w : World) :
  Calls Tryz.prog 74 #[tmV i j q] w fun xe w' => xe = .returned (.int .i64 e) ∧ Below w.heap.size w w' := by
 have hL0 : GL w w [] := GL.start w
 obtain ⟨x1, hweq, hL0⟩ := GL.named (hL0.new rfl [.int .i64 i, .int .i64 j, .int .u64 ((zl q.num : Nat) : Int), .string (zh q.num), .bool (zs q.num), .int .u64 ((lo (fe q) : Nat) : Int), .string (hs (fe q))] 80)
 rcases h with ⟨b1, rfl⟩ | ⟨b1, b2, rfl⟩ | ⟨b1, b2, b3, rfl⟩ | ⟨b1, b2, b3, b4, rfl⟩ | ⟨b1, b2, b3, b4, rfl⟩
 ·clear hs1 hs2
  go_enter Tryz.func74, Tryz.ntmps74
  have hN0 := cells_of _ 0 [] rfl (hL0.get _ _ mZ)
  simp only [zF, Nat.reduceAdd] at hN0
  go_wp2_with fail
  go_ret
  exact ⟨rfl, hL0.bl⟩
 ·clear hs1 hs2
  go_enter Tryz.func74, Tryz.ntmps74
  have hN0 := cells_of _ 0 [] rfl (hL0.get _ _ mZ)
  simp only [zF, Nat.reduceAdd] at hN0
  go_wp2_with fail
  go_ret
  exact ⟨rfl, hL0.bl⟩
 ·clear hs1 hs2
  go_enter Tryz.func74, Tryz.ntmps74
  have hN0 := cells_of _ 0 [] rfl (hL0.get _ _ mZ)
  simp only [zF, Nat.reduceAdd] at hN0
  go_wp2_with fail
  go_ret
  exact ⟨rfl, hL0.bl⟩
 all_goals (
  replace hs1 := hs1 b1 b3
  replace hs2 := hs2 b1 b3
  go_enter Tryz.func74, Tryz.ntmps74
  have hN0 := cells_of _ 0 [] rfl (hL0.get _ _ mZ)
  simp only [zF, Nat.reduceAdd] at hN0
  go_wp2_with fail
  go_ret
  exact ⟨rfl, hL0.bl⟩)
theorem pfault_any (t : TI) (w : World) : Calls Tryz.prog 74 #[tmV t.1 t.2.1 t.2.2] w fun xe w' => xe = .returned (.int .i64 (flt t)) ∧ Below w.heap.size w w' := by
 refine pfault_w t.1 t.2.1 (12 - t.1) (flt t) t.2.2 (fun h1 h2 => by simp [IntKind.wrap, IntKind.bits, IntKind.signed]; omega) (fun h1 h2 => by simp [wrap64]; omega) ?_ w
 unfold flt
 split
 ·omega
 ·split <;> omega
theorem pok_w (l : List TI) (ao : Option Addr) (n c : Nat) (b : Bool) (z0 : Rat) (hz0 : z0 = 0) (hb : b = true ↔ (VdL l ∧ NF (toL l))) (hlen : l.length = n) (hbig : n ≤ 10000)
  (HF : ∀ i (h : i < l.length) (w : World), Calls Tryz.prog 74 #[tmV l[i].1 l[i].2.1 l[i].2.2] w fun xe w' => xe = .returned (.int .i64 (flt l[i])) ∧ Below w.heap.size w w')
  (HI : ∀ w : World, Calls Tryz.prog 20 #[.int .i64 0] w fun xe w' => xe = .returned (fracV z0) ∧ Below w.heap.size w w')
  (HO : ∀ i (h : i + 1 < l.length), Vd l[i] → Vd l[i + 1] → ∀ w : World, Calls Tryz.prog 76 #[tmV l[i].1 l[i].2.1 l[i].2.2, tmV l[i + 1].1 l[i + 1].2.1 l[i + 1].2.2] w fun xe w' => xe = .returned (.int .i64 (ordZ l[i] l[i + 1])) ∧ Below w.heap.size w w')
  (w : World) (hq : 0 < n → ∃ g, ao = some ⟨g, 0, none⟩ ∧ TS w g l) :
  Calls Tryz.prog 79 #[.slice ao n c] w fun xe w' => xe = .returned (.bool b) ∧ Below w.heap.size w w' := by
 replace hz0 := Lib.hid hz0
 replace hb := Lib.hid hb
 replace hlen := Lib.hid hlen
 replace HF := Lib.hid HF
 replace HI := Lib.hid HI
 replace HO := Lib.hid HO
 replace hq := Lib.hid hq
 go_enter Tryz.func79, Tryz.ntmps79
 go_wp2_with fail
 go_loopg [7] n (fun gk iv wr => ∃ (i : Nat) (zi : Int), i + gk = n ∧ iv = .int .i64 zi ∧ zi = (i : Int) ∧ VdL (l.take i) ∧ NF (toL (l.take i)) ∧ Below w.heap.size w wr)
 case atStart => exact ⟨0, 0, Nat.zero_add n, by first | rfl | go_num, rfl, fun t ht => (by cases ht), NF.nil, Below.refl _ _⟩
 case round =>
  obtain ⟨i, zi, hik, rfl, hzi, hVL, hNF, hB⟩ := hrel
  replace hVL := Lib.hid hVL
  replace hNF := Lib.hid hNF
  rcases Nat.lt_or_ge i n with hin | hin
  ·subst hzi
   have hil : i < l.length := by rw [hlen.out]; exact hin
   obtain ⟨g, rfl, hts⟩ := hq.out (by omega)
   have hf := (hts.below hB).cell i hil
   have k1 : (i : Int) < (n : Int) := by omega
   have k0 : (0 : Int) ≤ (i : Int) := Int.natCast_nonneg _
   obtain ⟨a, bb, q, hl⟩ : ∃ a bb q, l[i] = (a, bb, q) := ⟨_, _, _, rfl⟩
   have hF3 := HF.out i hil
   rw [hl] at hf hF3
   replace hF3 := Lib.hid hF3
   replace hl := Lib.hid hl
   obtain ⟨f0, f1, f2, f3, f4, f5, f6⟩ := hf
   have hL0 : GL wr wr [] := GL.start wr
   replace hL0 := hL0.new rfl [.int .i64 a, .int .i64 bb, .int .u64 ((zl q.num : Nat) : Int), .string (zh q.num), .bool (zs q.num), .int .u64 ((lo (fe q) : Nat) : Int), .string (hs (fe q))] 80
   generalize hweq : wr.alloc (.cells #[.int .i64 a, .int .i64 bb, .int .u64 ((zl q.num : Nat) : Int), .string (zh q.num), .bool (zs q.num), .int .u64 ((lo (fe q) : Nat) : Int), .string (hs (fe q))] 80) = y1 at hL0
   go_upto_region 4 with fail
   clear hweq f0 f1 f2 f3 f4 f5 f6
   have hB1 := hB.trans (hL0.bl.mono hB.size)
   replace hF3 := hF3.out
   replace hl := hl.out
   by_cases hvd : Vd (a, bb, q)
   ·skip
    rw [flt_zero.2 hvd] at hF3
    replace hF3 := Lib.hid hF3
    obtain ⟨t, ht⟩ : ∃ t, t = decide (q = z0) := ⟨_, rfl⟩
    have hne := fun W => run_eqlF q z0 t ht W
    replace ht := Lib.hid ht
    cases t with
    | true =>
     have hq0 : q = 0 := by have := of_decide_eq_true ht.out.symm; rw [this, hz0.out]
     have hbf := Lib.hid (show b = false from by
       cases hbb : b with
       | false => rfl
       | true =>
        have := (hb.out.1 hbb).2.nz (toT l[i]) (List.mem_map.2 ⟨_, List.getElem_mem hil, rfl⟩)
        rw [hl] at this
        exact absurd hq0 this)
     replace hq0 := Lib.hid hq0
     replace hvd := Lib.hid hvd
     replace hl := Lib.hid hl
     obtain ⟨α, iα, F, hF1, hF2⟩ := cls y1
     have hg0 := cls_box hF1 hL0 _ _ mZ
     simp only [zC, Nat.reduceAdd] at hg0
     refine region_cls (F := F) (by kernel_rfl) (lexB_of_fast (by kernel_rfl)) (cls_drew hF2) ?_
     repeat (go_big_quiet_step (first | fail | (go_at_call 74; with_reducible exact cls_call hF1 hF2 hF3.out _) | (go_at_call 20; with_reducible exact cls_call hF1 hF2 HI.out _)))
     refine wpQuiet_nil ?_
     rintro wq ⟨xq, rfl⟩
     have hB2 := hB1.trans ((hF1 xq).mono hB1.size)
     clear hg0 hF2
     clear hne
     generalize F xq = y2 at hB2 ⊢
     clear hF1 xq iα F α
     go_wp2_with fail
     go_ret
     exact ⟨by rw [hbf.out]; rfl, hB2⟩
    | false =>
     have hq0 : q ≠ 0 := by have := of_decide_eq_false ht.out.symm; rw [hz0.out] at this; exact this
     have hv2 := Lib.hid (vd_snoc hil hVL.out (by rw [hl]; exact hvd))
     replace hq0 := Lib.hid hq0
     rcases Nat.eq_zero_or_pos i with h0 | h0
     ·have k2 : ¬ (0 : Int) < (i : Int) := by omega
      have k3 : ¬ 0 < i := by omega
      have hn2 := Lib.hid (show NF (toL (l.take (i + 1))) from by
        rw [tk_snoc hil, hl]
        refine nf_snoc hNF.out hq0.out fun u hu => ?_
        rw [h0] at hu
        exact absurd hu (by simp [toL]))
      replace hvd := Lib.hid hvd
      replace hl := Lib.hid hl
      replace h0 := Lib.hid h0
      obtain ⟨α, iα, F, hF1, hF2⟩ := cls y1
      have hg0 := cls_box hF1 hL0 _ _ mZ
      simp only [zC, Nat.reduceAdd] at hg0
      refine region_cls (F := F) (by kernel_rfl) (lexB_of_fast (by kernel_rfl)) (cls_drew hF2) ?_
      repeat (go_big_quiet_step (first | fail | (go_at_call 74; with_reducible exact cls_call hF1 hF2 hF3.out _) | (go_at_call 20; with_reducible exact cls_call hF1 hF2 HI.out _)))
      refine wpQuiet_nil ?_
      rintro wq ⟨xq, rfl⟩
      have hB2 := hB1.trans ((hF1 xq).mono hB1.size)
      clear hg0 hF2
      clear hne
      generalize F xq = y2 at hB2 ⊢
      clear hF1 xq iα F α
      go_wp2_with fail
      go_roundg (gk - 1)
      case measure => omega
      case rel => exact ⟨i + 1, _, by omega, by first | rfl | go_num, by omega, hv2.out, hn2.out, hB2⟩
     ·obtain ⟨k, hk⟩ : ∃ k, i = k + 1 := ⟨i - 1, by omega⟩
      have k2 : (0 : Int) < (i : Int) := by omega
      have k3 : 0 < i := by omega
      have hkl : k < l.length := by omega
      have w1 : IntKind.i64.wrap ((i : Int) - 1) = (k : Int) := by simp [IntKind.wrap, IntKind.bits, IntKind.signed]; omega
      have w2 : wrap64 ((i : Int) - 1) = (k : Int) := by simp [wrap64]; omega
      have kk1 : (k : Int) < (n : Int) := by omega
      have kk0 : (0 : Int) ≤ (k : Int) := Int.natCast_nonneg _
      obtain ⟨a2, b2, q2, hl2⟩ : ∃ a2 b2 q2, l[k] = (a2, b2, q2) := ⟨_, _, _, rfl⟩
      have hvk : Vd (a2, b2, q2) := by
       rw [← hl2]
       refine hVL.out _ ?_
       rw [List.mem_take_iff_getElem]
       exact ⟨k, by omega, rfl⟩
      have hsn : toL (l.take i) = toL (l.take k) ++ [toT (a2, b2, q2)] := by rw [hk, tk_snoc hkl, hl2]
      have hO1 := HO.out k (by rw [← hk]; exact hil) (by rw [hl2]; exact hvk) (by simp only [← hk]; rw [hl]; exact hvd)
      simp only [← hk] at hO1
      rw [hl, hl2] at hO1
      obtain ⟨r, hr⟩ : ∃ r, r = ordZ (a2, b2, q2) (a, bb, q) := ⟨_, rfl⟩
      have hri : r < 0 ↔ KLt (key (toT (a2, b2, q2))) (key (toT (a, bb, q))) := by rw [hr]; exact ordZ_lt hvk hvd
      rw [← hr] at hO1
      replace hO1 := Lib.hid hO1
      replace hr := Lib.hid hr
      replace hri := Lib.hid hri
      replace hvk := Lib.hid hvk
      replace hvd := Lib.hid hvd
      replace hsn := Lib.hid hsn
      have htk := Lib.hid (tk_snoc hil)
      rw [hl] at htk
      replace hk := Lib.hid hk
      replace h0 := Lib.hid h0
      rcases Int.lt_or_le r 0 with hr0 | hr0
      ·have b3 : ¬ (0 : Int) ≤ r := by omega
       have hn2 := Lib.hid (show NF (toL (l.take (i + 1))) from by
         rw [htk.out, hsn.out]
         refine nf_snoc2 ?_ hq0.out (hri.out.1 hr0)
         rw [← hsn.out]; exact hNF.out)
       replace hl := Lib.hid hl
       replace hr0 := Lib.hid hr0
       obtain ⟨α, iα, F, hF1, hF2⟩ := cls y1
       have hg0 := cls_box hF1 hL0 _ _ mZ
       simp only [zC, Nat.reduceAdd] at hg0
       have hq9 : ∀ x, TS (F x) g l := fun x => ((hts.below hB).below hL0.bl).below (hF1 x)
       have hp := fun x => (hq9 x).cell k hkl
       simp only [hl2] at hp
       replace hl2 := Lib.hid hl2
       have p0 := fun x => (hp x).1
       have p1 := fun x => (hp x).2.1
       have p2 := fun x => (hp x).2.2.1
       have p3 := fun x => (hp x).2.2.2.1
       have p4 := fun x => (hp x).2.2.2.2.1
       have p5 := fun x => (hp x).2.2.2.2.2.1
       have p6 := fun x => (hp x).2.2.2.2.2.2
       clear hp hq9
       refine region_cls (F := F) (by kernel_rfl) (lexB_of_fast (by kernel_rfl)) (cls_drew hF2) ?_
       repeat (go_big_quiet_step (first | fail | (go_at_call 74; with_reducible exact cls_call hF1 hF2 hF3.out _) | (go_at_call 20; with_reducible exact cls_call hF1 hF2 HI.out _) | (go_at_call 76; with_reducible exact cls_call hF1 hF2 hO1.out _)))
       refine wpQuiet_nil ?_
       rintro wq ⟨xq, rfl⟩
       have hB2 := hB1.trans ((hF1 xq).mono hB1.size)
       clear hg0 hF2
       clear hne p0 p1 p2 p3 p4 p5 p6
       generalize F xq = y2 at hB2 ⊢
       clear hF1 xq iα F α
       go_wp2_with fail
       go_roundg (gk - 1)
       case measure => omega
       case rel => exact ⟨i + 1, _, by omega, by first | rfl | go_num, by omega, hv2.out, hn2.out, hB2⟩
      ·have b3 : (0 : Int) ≤ r := hr0
       have hbf := Lib.hid (show b = false from by
         cases hbb : b with
         | false => rfl
         | true =>
          exfalso
          have hup := (hb.out.1 hbb).2.up
          have e : toL l = toL (l.take (i + 1)) ++ toL (l.drop (i + 1)) := by unfold toL; rw [← List.map_append, List.take_append_drop]
          rw [e, htk.out, hsn.out, List.append_assoc, List.append_assoc] at hup
          have h1 := (List.pairwise_append.1 hup).2.1
          have h2 := (List.pairwise_append.1 h1).2.2 (toT (a2, b2, q2)) (List.mem_singleton.2 rfl) (toT (a, bb, q)) (by simp)
          have := hri.out.2 h2
          omega)
       replace hl := Lib.hid hl
       replace hr0 := Lib.hid hr0
       obtain ⟨α, iα, F, hF1, hF2⟩ := cls y1
       have hg0 := cls_box hF1 hL0 _ _ mZ
       simp only [zC, Nat.reduceAdd] at hg0
       have hq9 : ∀ x, TS (F x) g l := fun x => ((hts.below hB).below hL0.bl).below (hF1 x)
       have hp := fun x => (hq9 x).cell k hkl
       simp only [hl2] at hp
       replace hl2 := Lib.hid hl2
       have p0 := fun x => (hp x).1
       have p1 := fun x => (hp x).2.1
       have p2 := fun x => (hp x).2.2.1
       have p3 := fun x => (hp x).2.2.2.1
       have p4 := fun x => (hp x).2.2.2.2.1
       have p5 := fun x => (hp x).2.2.2.2.2.1
       have p6 := fun x => (hp x).2.2.2.2.2.2
       clear hp hq9
       refine region_cls (F := F) (by kernel_rfl) (lexB_of_fast (by kernel_rfl)) (cls_drew hF2) ?_
       repeat (go_big_quiet_step (first | fail | (go_at_call 74; with_reducible exact cls_call hF1 hF2 hF3.out _) | (go_at_call 20; with_reducible exact cls_call hF1 hF2 HI.out _) | (go_at_call 76; with_reducible exact cls_call hF1 hF2 hO1.out _)))
       refine wpQuiet_nil ?_
       rintro wq ⟨xq, rfl⟩
       have hB2 := hB1.trans ((hF1 xq).mono hB1.size)
       clear hg0 hF2
       clear hne p0 p1 p2 p3 p4 p5 p6
       generalize F xq = y2 at hB2 ⊢
       clear hF1 xq iα F α
       go_wp2_with fail
       go_ret
       exact ⟨by rw [hbf.out]; rfl, hB2⟩
   ·have hbf := Lib.hid (show b = false from by
     cases hbb : b with
     | false => rfl
     | true => exact absurd ((hb.out.1 hbb).1 _ (List.getElem_mem hil)) (by rw [hl]; exact hvd))
    obtain ⟨e0, he0⟩ : ∃ e0, e0 = flt (a, bb, q) := ⟨_, rfl⟩
    have hne : e0 ≠ 0 := fun e => hvd (flt_zero.1 (he0.symm.trans e))
    rw [← he0] at hF3
    have b1 : (e0 != 0) = true := by simpa using hne
    replace hne := Lib.hid hne
    replace he0 := Lib.hid he0
    replace hF3 := Lib.hid hF3
    replace hvd := Lib.hid hvd
    replace hl := Lib.hid hl
    obtain ⟨α, iα, F, hF1, hF2⟩ := cls y1
    have hg0 := cls_box hF1 hL0 _ _ mZ
    simp only [zC, Nat.reduceAdd] at hg0
    refine region_cls (F := F) (by kernel_rfl) (lexB_of_fast (by kernel_rfl)) (cls_drew hF2) ?_
    repeat (go_big_quiet_step (first | fail | (go_at_call 74; with_reducible exact cls_call hF1 hF2 hF3.out _)))
    refine wpQuiet_nil ?_
    rintro wq ⟨xq, rfl⟩
    have hB2 := hB1.trans ((hF1 xq).mono hB1.size)
    clear hg0 hF2
    generalize F xq = y2 at hB2 ⊢
    clear hF1 xq iα F α
    go_wp2_with fail
    go_ret
    exact ⟨by rw [hbf.out]; rfl, hB2⟩
  ·obtain rfl : i = n := by omega
   subst hzi
   have k1 : ¬ (i : Int) < (i : Int) := by omega
   rw [show l.take i = l from List.take_of_length_le (Nat.le_of_eq hlen.out)] at hVL hNF
   have hbt := Lib.hid (hb.out.2 ⟨hVL.out, hNF.out⟩)
   go_wp2_with fail
   go_ret
   exact ⟨by rw [hbt.out]; rfl, hB⟩
theorem pof_w (l : List TI) (ao : Option Addr) (n c : Nat) (hlen : l.length = n) (hbig : n ≤ 10000)
  (HF : ∀ i (h : i < l.length) (w : World), Calls Tryz.prog 74 #[tmV l[i].1 l[i].2.1 l[i].2.2] w fun xe w' => xe = .returned (.int .i64 (flt l[i])) ∧ Below w.heap.size w w')
  (HS : VdL l → ∀ w : World, (0 < n → ∃ g, ao = some ⟨g, 0, none⟩ ∧ TS w g l) → Calls Tryz.prog 41 #[.slice ao n c] w fun xe w' => ∃ v, xe = .returned v ∧ PT w' v (ofL (nfL (toL l))) ∧ Below w.heap.size w w')
  (w : World) (hq : 0 < n → ∃ g, ao = some ⟨g, 0, none⟩ ∧ TS w g l) :
  Calls Tryz.prog 35 #[.slice ao n c] w fun xe w' => ∃ v, xe = .returned (.tuple #[v, .int .i64 (errL l)]) ∧ PT w' v (ofL (nrm l)) ∧ Below w.heap.size w w' := by
 obtain ⟨E, hE⟩ : ∃ E, E = errL l := ⟨_, rfl⟩
 obtain ⟨P, hP⟩ : ∃ P, P = nrm l := ⟨_, rfl⟩
 rw [← hE, ← hP]
 replace hE := Lib.hid hE
 replace hP := Lib.hid hP
 replace hlen := Lib.hid hlen
 replace HF := Lib.hid HF
 replace HS := Lib.hid HS
 replace hq := Lib.hid hq
 go_enter Tryz.func35, Tryz.ntmps35
 go_wp2_with fail
 go_loopg [9] n (fun gk iv wr => ∃ (i : Nat) (zi : Int), i + gk = n ∧ iv = .int .i64 zi ∧ zi = (i : Int) ∧ VdL (l.take i) ∧ Below w.heap.size w wr)
 case atStart => exact ⟨0, 0, Nat.zero_add n, by first | rfl | go_num, rfl, fun t ht => (by cases ht), Below.refl _ _⟩
 case round =>
  obtain ⟨i, zi, hik, rfl, hzi, hVL, hB⟩ := hrel
  replace hVL := Lib.hid hVL
  rcases Nat.lt_or_ge i n with hin | hin
  ·subst hzi
   have hil : i < l.length := by rw [hlen.out]; exact hin
   obtain ⟨g, rfl, hts⟩ := hq.out (by omega)
   have hf := (hts.below hB).cell i hil
   have k1 : (i : Int) < (n : Int) := by omega
   have k0 : (0 : Int) ≤ (i : Int) := Int.natCast_nonneg _
   have hv2 := Lib.hid (fun h => vd_snoc hil hVL.out h)
   have he2 := Lib.hid (fun h => errL_at hil hVL.out h)
   obtain ⟨a, bb, q, hl⟩ : ∃ a bb q, l[i] = (a, bb, q) := ⟨_, _, _, rfl⟩
   have hF3 := HF.out i hil
   rw [hl] at hf hF3 hv2 he2
   obtain ⟨e0, he0⟩ : ∃ e0, e0 = flt (a, bb, q) := ⟨_, rfl⟩
   rw [← he0] at hF3
   replace hF3 := Lib.hid hF3
   replace hl := Lib.hid hl
   obtain ⟨f0, f1, f2, f3, f4, f5, f6⟩ := hf
   have hL0 : GL wr wr [] := GL.start wr
   replace hL0 := hL0.new rfl [.int .i64 a, .int .i64 bb, .int .u64 ((zl q.num : Nat) : Int), .string (zh q.num), .bool (zs q.num), .int .u64 ((lo (fe q) : Nat) : Int), .string (hs (fe q))] 80
   generalize hweq : wr.alloc (.cells #[.int .i64 a, .int .i64 bb, .int .u64 ((zl q.num : Nat) : Int), .string (zh q.num), .bool (zs q.num), .int .u64 ((lo (fe q) : Nat) : Int), .string (hs (fe q))] 80) = y1 at hL0
   have hN0 := cells_of _ 0 [] rfl (hL0.get _ _ mZ)
   simp only [zF, Nat.reduceAdd] at hN0
   replace he0 := Lib.hid he0
   by_cases h0 : e0 = 0
   ·subst h0
    have hv3 := Lib.hid (hv2.out (flt_zero.1 he0.out.symm))
    go_wp2_with (go_at_call 74; with_reducible refine Calls.mono (hF3.out _) ?_; rintro e y2 ⟨rfl, hb⟩; replace hb := Lib.hid hb)
    have hB2 := hB.trans ((hL0.bl.trans (hb.out.mono hL0.bl.size)).mono hB.size)
    clear hweq f0 f1 f2 f3 f4 f5 f6 hN0
    go_wp2_with fail
    go_roundg (gk - 1)
    case measure => omega
    case rel => exact ⟨i + 1, _, by omega, by first | rfl | go_num, by omega, hv3.out, hB2⟩
   ·have b1 : (e0 != 0) = true := by simpa using h0
    have hbad : ¬ Vd (a, bb, q) := fun h => h0 (he0.out.trans (flt_zero.2 h))
    have hEE : E = e0 := by rw [hE.out, he2.out hbad, he0.out]
    have hPP : P = [] := by rw [hP.out]; unfold nrm; rw [if_neg (fun h => hbad (by rw [← hl.out]; exact h _ (List.getElem_mem hil)))]
    replace hEE := Lib.hid hEE
    replace hPP := Lib.hid hPP
    replace hbad := Lib.hid hbad
    replace h0 := Lib.hid h0
    go_wp2_with (go_at_call 74; with_reducible refine Calls.mono (hF3.out _) ?_; rintro e y2 ⟨rfl, hb⟩; replace hb := Lib.hid hb)
    have hB2 := hB.trans ((hL0.bl.trans (hb.out.mono hL0.bl.size)).mono hB.size)
    clear hweq f0 f1 f2 f3 f4 f5 f6 hN0
    go_wp2_with fail
    exact bodyPost_ret (v := .tuple #[.slice none 0 0, .int .i64 e0]) (by simp [results, Tryz.results35, go_sem]) rfl ⟨.slice none 0 0, by rw [hEE.out], by rw [hPP.out]; exact pt_nil _, hB2⟩
  ·obtain rfl : i = n := by omega
   subst hzi
   have k1 : ¬ (i : Int) < (i : Int) := by omega
   rw [show l.take i = l from List.take_of_length_le (Nat.le_of_eq hlen.out)] at hVL
   have hEE := Lib.hid (show E = 0 from hE.out.trans (errL_zero hVL.out))
   have hPP := Lib.hid (show P = nfL (toL l) from by rw [hP.out]; unfold nrm; rw [if_pos hVL.out])
   have hq2 : 0 < i → ∃ g, ao = some ⟨g, 0, none⟩ ∧ TS wr g l := fun h => by obtain ⟨g, h1, h2⟩ := hq.out h; exact ⟨g, h1, h2.below hB⟩
   have hS1 := Lib.hid (HS.out hVL.out wr hq2)
   clear hq2
   go_wp2_with (go_at_call 41; with_reducible refine Calls.mono hS1.out ?_; rintro e y2 ⟨v, rfl, hpt, hb⟩; replace hpt := Lib.hid hpt; replace hb := Lib.hid hb)
   exact bodyPost_ret (v := .tuple #[v, .int .i64 0]) (by simp [results, Tryz.results35, go_sem]) rfl ⟨v, by rw [hEE.out], by rw [hPP.out]; exact hpt.out, hB.trans (hb.out.mono hB.size)⟩
theorem pnorm_w (l : List TI) (ao : Option Addr) (n c : Nat) (b : Bool) (E : Int) (hb : b = true ↔ (VdL l ∧ NF (toL l)))
  (HO : ∀ w : World, PT w (.slice ao n c) l → Calls Tryz.prog 79 #[.slice ao n c] w fun xe w' => xe = .returned (.bool b) ∧ Below w.heap.size w w')
  (HF : ∀ w : World, PT w (.slice ao n c) l → Calls Tryz.prog 35 #[.slice ao n c] w fun xe w' => ∃ v, xe = .returned (.tuple #[v, .int .i64 E]) ∧ PT w' v (ofL (nrm l)) ∧ Below w.heap.size w w')
  (w : World) (hq : PT w (.slice ao n c) l) :
  Calls Tryz.prog 43 #[.slice ao n c] w fun xe w' => ∃ v, xe = .returned v ∧ PT w' v (ofL (nrm l)) ∧ Below w.heap.size w w' := by
 obtain ⟨P, hP⟩ : ∃ P, P = nrm l := ⟨_, rfl⟩
 simp only [← hP] at HF ⊢
 replace hP := Lib.hid hP
 replace hb := Lib.hid hb
 replace HO := Lib.hid HO
 replace HF := Lib.hid HF
 replace hq := Lib.hid hq
 cases b with
 | true =>
  have hh := hb.out.1 rfl
  have hPP : ofL P = l := by rw [hP.out]; unfold nrm; rw [if_pos hh.1, nfL_self hh.2, ofL_toL hh.1]
  replace hPP := Lib.hid hPP
  clear hh
  go_enter Tryz.func43, Tryz.ntmps43
  go_wp2_with (go_at_call 79; with_reducible refine Calls.mono (HO.out _ hq.out) ?_; rintro e y1 ⟨rfl, hb1⟩; replace hb1 := Lib.hid hb1)
  go_ret
  exact ⟨_, rfl, by rw [hPP.out]; exact hq.out.below hb1.out, hb1.out⟩
 | false =>
  go_enter Tryz.func43, Tryz.ntmps43
  go_wp2_with (first | fail | (go_at_call 79; with_reducible refine Calls.mono (HO.out _ hq.out) ?_; rintro e y1 ⟨rfl, hb1⟩; have hq1 := Lib.hid (hq.out.below hb1); replace hb1 := Lib.hid hb1) | (go_at_call 35; with_reducible refine Calls.mono (HF.out _ hq1.out) ?_; rintro e y2 ⟨v, rfl, hpt, hb2⟩; replace hb2 := Lib.hid hb2; replace hpt := Lib.hid hpt))
  go_ret
  exact ⟨_, rfl, hpt.out, hb1.out.trans (hb2.out.mono hb1.out.size)⟩
end Go.Proofs.YtkdbhacimoaohaaGreatDoor
namespace Go.Proofs.YtkdbhacimoaohaaGreatDoor
attribute [local irreducible] Bs
theorem mul_den8 (q : Rat) : q * ((q.den : Nat) : Rat) = (q.num : Rat) := by
 have h := Rat.mkRat_eq_div q.num q.den
 rw [Rat.mkRat_self] at h
 have h0 : ((q.den : Nat) : Rat) ≠ 0 := fun e => by have := Rat.natCast_pos.2 q.den_pos; rw [e] at this; exact absurd this (by decide)
 conv => lhs; arg 1; rw [h]
 exact Rat.div_mul_cancel h0
/-- Over the denominator D the numerators' absolute values add up to at most M. -/
def Ht (D : Nat) : Nat → TL → Prop
 | _, [] => True
 | M, t :: p => ∃ (a : Int) (m : Nat), t.2.2 * (D : Rat) = (a : Rat) ∧ a.natAbs + m ≤ M ∧ Ht D m p
theorem Ht.mono {D : Nat} : ∀ {p : TL} {M M' : Nat}, Ht D M p → M ≤ M' → Ht D M' p
 | [], _, _, _, _ => trivial
 | t :: p, M, M', ⟨a, m, h1, h2, h3⟩, hm => ⟨a, m, h1, by omega, h3⟩
theorem Ht.append {D : Nat} : ∀ {p q : TL} {M M' : Nat}, Ht D M p → Ht D M' q → Ht D (M + M') (p ++ q)
 | [], q, M, M', _, h => h.mono (by omega)
 | t :: p, q, M, M', ⟨a, m, h1, h2, h3⟩, h => ⟨a, m + M', h1, by omega, h3.append h⟩
theorem Ht.scaleD {D : Nat} (E : Nat) : ∀ {p : TL} {M : Nat}, Ht D M p → Ht (D * E) (M * E) p
 | [], _, _ => trivial
 | t :: p, M, ⟨a, m, h1, h2, h3⟩ => ⟨a * (E : Int), m * E, by push_cast; rw [← Rat.mul_assoc, h1], by
   rw [Int.natAbs_mul, Int.natAbs_natCast, ← Nat.add_mul]; exact Nat.mul_le_mul_right _ h2, h3.scaleD E⟩
theorem Ht.times {D E : Nat} {s : Nat × Nat × Rat} {a : Int} (hs : s.2.2 * (D : Rat) = (a : Rat)) : ∀ {q : TL} {M : Nat}, Ht E M q → Ht (D * E) (a.natAbs * M) (timesL s q)
 | [], _, _ => trivial
 | t :: q, M, ⟨b, m, h1, h2, h3⟩ => ⟨a * b, a.natAbs * m, by
   show s.2.2 * t.2.2 * ((D * E : Nat) : Rat) = _
   push_cast
   rw [← hs, ← h1]; grind, by
   rw [Int.natAbs_mul, ← Nat.mul_add]; exact Nat.mul_le_mul_left _ h2, Ht.times hs h3⟩
theorem Ht.prod {D E : Nat} : ∀ {p q : TL} {M N : Nat}, Ht D M p → Ht E N q → Ht (D * E) (M * N) (prodL p q)
 | [], q, M, N, _, _ => trivial
 | t :: p, q, M, N, ⟨a, m, h1, h2, h3⟩, h => by
  have e := (Ht.times h1 h).append (Ht.prod h3 h)
  refine Ht.mono e ?_
  rw [← Nat.add_mul]; exact Nat.mul_le_mul_right _ h2
theorem Ht.ins {D : Nat} {t : Nat × Nat × Rat} {a : Int} (ht : t.2.2 * (D : Rat) = (a : Rat)) : ∀ {p : TL} {M : Nat}, Ht D M p → Ht D (a.natAbs + M) (insT t p)
 | [], M, _ => by
  unfold insT
  split
  ·trivial
  ·exact ⟨a, 0, ht, by omega, trivial⟩
 | u :: p, M, ⟨b, m, h1, h2, h3⟩ => by
  unfold insT
  split
  ·split
   ·exact ⟨b, m, h1, by omega, h3⟩
   ·exact ⟨a, M, ht, Nat.le_refl _, b, m, h1, h2, h3⟩
  ·split
   ·split
    ·exact h3.mono (by omega)
    ·refine ⟨a + b, m, ?_, by omega, h3⟩
     show (t.2.2 + u.2.2) * (D : Rat) = _
     rw [Rat.add_mul, ht, h1]; push_cast; rfl
   ·exact ⟨b, a.natAbs + m, h1, by omega, h3.ins ht⟩
theorem Ht.nf {D : Nat} : ∀ {p : TL} {M : Nat}, Ht D M p → Ht D M (nfL p)
 | [], _, _ => trivial
 | t :: p, M, ⟨a, m, h1, h2, h3⟩ => (Ht.ins h1 h3.nf).mono h2
theorem Ht.take {D : Nat} : ∀ {p : TL} {M : Nat} (i : Nat), Ht D M p → Ht D M (p.take i)
 | _, _, 0, _ => by rw [List.take_zero]; trivial
 | [], _, i + 1, _ => trivial
 | t :: p, M, i + 1, ⟨a, m, h1, h2, h3⟩ => ⟨a, m, h1, h2, h3.take i⟩
theorem Ht.coef {D : Nat} (k : Nat × Nat) : ∀ {p : TL} {M : Nat}, Ht D M p → ∃ a : Int, pair p (ind k) * (D : Rat) = (a : Rat) ∧ a.natAbs ≤ M
 | [], _, _ => ⟨0, by simp only [pair]; rw [Rat.zero_mul]; rfl, Nat.zero_le _⟩
 | t :: p, M, ⟨a, m, h1, h2, h3⟩ => by
  obtain ⟨b, h4, h5⟩ := h3.coef k
  by_cases hk : key t = k
  ·refine ⟨a + b, ?_, by omega⟩
   simp only [pair]
   rw [show ind k t.1 t.2.1 = 1 from if_pos hk, Rat.mul_one, Rat.add_mul, h1, h4]; push_cast; rfl
  ·refine ⟨b, ?_, by omega⟩
   simp only [pair]
   rw [show ind k t.1 t.2.1 = 0 from if_neg hk, Rat.mul_zero, Rat.zero_add, h4]
theorem Ht.mem {D : Nat} : ∀ {p : TL} {M : Nat}, Ht D M p → ∀ t ∈ p, ∃ a : Int, t.2.2 * (D : Rat) = (a : Rat) ∧ a.natAbs ≤ M
 | [], _, _, t, ht => by cases ht
 | u :: p, M, ⟨a, m, h1, h2, h3⟩, t, ht => by
  rcases List.mem_cons.1 ht with rfl | ht
  ·exact ⟨a, h1, by omega⟩
  ·obtain ⟨b, h4, h5⟩ := h3.mem t ht
   exact ⟨b, h4, by omega⟩
theorem Ht.map {D : Nat} {f : Nat × Nat × Rat → Nat × Nat × Rat} (n : Nat) : ∀ {p : TL} {M : Nat}, (∀ t ∈ p, ∃ k : Nat, k ≤ n ∧ (f t).2.2 = (k : Rat) * t.2.2) → Ht D M p → Ht D (n * M) (p.map f)
 | [], _, _, _ => trivial
 | t :: p, M, hf, ⟨a, m, h1, h2, h3⟩ => by
  obtain ⟨k, hk, e⟩ := hf t mZ
  refine ⟨(k : Int) * a, n * m, ?_, ?_, h3.map n fun u hu => hf u (mK hu)⟩
  ·rw [e, Rat.mul_assoc, h1]; push_cast; rfl
  ·rw [Int.natAbs_mul, Int.natAbs_natCast]
   have := Nat.mul_le_mul_right a.natAbs hk
   have := Nat.mul_le_mul_left n h2
   rw [Nat.mul_add] at this
   omega
theorem sz_of {q : Rat} {D : Nat} {a : Int} {k : Nat} (hD : 0 < D) (hD2 : D < Bs ^ k) (ha : a.natAbs < Bs ^ k) (h : q * (D : Rat) = (a : Rat)) : Sz q k := by
 have h1 : (q.num : Rat) * (D : Rat) = (a : Rat) * ((q.den : Nat) : Rat) := by rw [← mul_den8, ← h]; grind
 have h2 : q.num * (D : Int) = a * (q.den : Int) := by exact_mod_cast h1
 have h3 : q.num.natAbs * D = a.natAbs * q.den := by
  have := congrArg Int.natAbs h2
  rwa [Int.natAbs_mul, Int.natAbs_mul, Int.natAbs_natCast, Int.natAbs_natCast] at this
 have hdv : q.den ∣ D := by
  have hc : Nat.Coprime q.den q.num.natAbs := q.reduced.symm
  exact hc.dvd_of_dvd_mul_left (by rw [h3]; exact Nat.dvd_mul_left _ _)
 obtain ⟨e, he⟩ := hdv
 have he0 : 0 < e := by
  rcases Nat.eq_zero_or_pos e with h | h
  ·rw [h, Nat.mul_zero] at he; omega
  ·exact h
 have hn : q.num.natAbs ≤ a.natAbs := by
  have h4 : q.num.natAbs * e = a.natAbs := by
   have hp := q.den_pos
   rw [he] at h3
   have : q.den * (q.num.natAbs * e) = q.den * a.natAbs := by rw [Nat.mul_comm q.den a.natAbs, ← h3]; rw [Nat.mul_left_comm]
   exact Nat.eq_of_mul_eq_mul_left hp this
  rw [← h4]; exact Nat.le_mul_of_pos_right _ he0
 have hd : q.den ≤ D := by rw [he]; exact Nat.le_mul_of_pos_right _ he0
 exact ⟨digs_length_iff.2 (Nat.lt_of_le_of_lt hn ha), digs_length_iff.2 (Nat.lt_of_le_of_lt hd hD2)⟩
/-- The size of a sum of terms. -/
def SzL (p : TL) (k : Nat) : Prop := ∃ D M : Nat, 0 < D ∧ D < Bs ^ k ∧ M < Bs ^ k ∧ Ht D M p
theorem bs_pow (k : Nat) : 0 < Bs ^ k := Nat.pow_pos Bs_pos
theorem bs_mono {a b : Nat} (h : a ≤ b) : Bs ^ a ≤ Bs ^ b := Nat.pow_le_pow_right Bs_pos h
theorem bs_mul {x y a b : Nat} (hx : x < Bs ^ a) (hy : y < Bs ^ b) : x * y < Bs ^ (a + b) := by
 rw [Nat.pow_add]
 exact Nat.mul_lt_mul'' hx hy
theorem bs_two {x y a : Nat} (hx : x < Bs ^ a) (hy : y < Bs ^ a) : x + y < Bs ^ (a + 1) := by
 rw [Nat.pow_succ]
 have : 2 ≤ Bs := by unfold Bs; omega
 have := Nat.mul_le_mul_left (Bs ^ a) this
 omega
theorem SzL.mono {p : TL} {k m : Nat} (h : SzL p k) (hm : k ≤ m) : SzL p m := by
 obtain ⟨D, M, h0, h1, h2, h3⟩ := h
 exact ⟨D, M, h0, Nat.lt_of_lt_of_le h1 (bs_mono hm), Nat.lt_of_lt_of_le h2 (bs_mono hm), h3⟩
theorem SzL.nil (k : Nat) (hk : 0 < k) : SzL [] k := ⟨1, 0, by omega, Nat.lt_of_lt_of_le (by unfold Bs; omega) (bs_mono (a := 1) hk), bs_pow k, trivial⟩
theorem SzL.nf {p : TL} {k : Nat} (h : SzL p k) : SzL (nfL p) k := by
 obtain ⟨D, M, h0, h1, h2, h3⟩ := h
 exact ⟨D, M, h0, h1, h2, h3.nf⟩
theorem SzL.append {p q : TL} {k m : Nat} (h : SzL p k) (g : SzL q m) : SzL (p ++ q) (k + m + 1) := by
 obtain ⟨D, M, h0, h1, h2, h3⟩ := h
 obtain ⟨E, N, g0, g1, g2, g3⟩ := g
 refine ⟨D * E, M * E + N * D, Nat.mul_pos h0 g0, Nat.lt_of_lt_of_le (bs_mul h1 g1) (bs_mono (by omega)), bs_two (bs_mul h2 g1) (by rw [Nat.add_comm k m]; exact bs_mul g2 h1), (h3.scaleD E).append ?_⟩
 rw [Nat.mul_comm D E]; exact g3.scaleD D
theorem SzL.prod {p q : TL} {k m : Nat} (h : SzL p k) (g : SzL q m) : SzL (prodL p q) (k + m) := by
 obtain ⟨D, M, h0, h1, h2, h3⟩ := h
 obtain ⟨E, N, g0, g1, g2, g3⟩ := g
 exact ⟨D * E, M * N, Nat.mul_pos h0 g0, bs_mul h1 g1, bs_mul h2 g2, h3.prod g3⟩
theorem SzL.one {i j : Nat} {q : Rat} {k : Nat} (h : Sz q k) : SzL [(i, j, q)] k :=
 ⟨q.den, q.num.natAbs, q.den_pos, digs_length_iff.1 h.2, digs_length_iff.1 h.1, q.num, 0, mul_den8 q, by omega, trivial⟩
theorem SzL.cons {i j : Nat} {q : Rat} {p : TL} {k m : Nat} (h : Sz q k) (g : SzL p m) : SzL ((i, j, q) :: p) (k + m + 1) := (SzL.one (i := i) (j := j) h).append g
theorem SzL.map {p : TL} {f : Nat × Nat × Rat → Nat × Nat × Rat} {k : Nat} (n : Nat) (hn : n < Bs) (hf : ∀ t ∈ p, ∃ m : Nat, m ≤ n ∧ (f t).2.2 = (m : Rat) * t.2.2) (h : SzL p k) : SzL (p.map f) (k + 1) := by
 obtain ⟨D, M, h0, h1, h2, h3⟩ := h
 refine ⟨D, n * M, h0, Nat.lt_of_lt_of_le h1 (bs_mono (by omega)), ?_, h3.map n hf⟩
 rw [Nat.add_comm k 1]
 exact bs_mul (by rw [Nat.pow_one]; exact hn) h2
theorem SzL.coef {p : TL} {k : Nat} (h : SzL p k) (i : Nat) (c : Nat × Nat) : Sz (pair (p.take i) (ind c)) k := by
 obtain ⟨D, M, h0, h1, h2, h3⟩ := h
 obtain ⟨a, e, ha⟩ := (h3.take i).coef c
 exact sz_of h0 h1 (Nat.lt_of_le_of_lt ha h2) e
theorem SzL.mem {p : TL} {k : Nat} (h : SzL p k) {t : Nat × Nat × Rat} (ht : t ∈ p) : Sz t.2.2 k := by
 obtain ⟨D, M, h0, h1, h2, h3⟩ := h
 obtain ⟨a, e, ha⟩ := h3.mem t ht
 exact sz_of h0 h1 (Nat.lt_of_le_of_lt ha h2) e
end Go.Proofs.YtkdbhacimoaohaaGreatDoor
