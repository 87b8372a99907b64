/-
  The law answers true at every input, and leaves its arguments as they were: a part of the proof. CONDITIONS: the package-level tables start as the program's text lays them (the card ties them).
-/
import Derived.Test.YthffglapmkkohaaGreatDoorZdb
import Derived.Test.YthffglapmkkohaaGreatDoorRows
set_option linter.unusedVariables false
set_option linter.unusedSimpArgs false
set_option maxHeartbeats 16000000
set_option maxRecDepth 100000
namespace Go.Proofs.YthffglapmkkohaaGreatDoor
open Go.RowKit
theorem canc {z : Int} {d : Nat} (hd : d ≠ 0) : (mkRat z d).num = z.tdiv (Nat.gcd z.natAbs d : Nat) ∧ (mkRat z d).den = d / Nat.gcd z.natAbs d := by
 have hg : ((Nat.gcd z.natAbs d : Nat) : Int) ∣ z := by rw [← Int.dvd_natAbs, Int.ofNat_dvd]; exact Nat.gcd_dvd_left _ _
 rw [Rat.num_mkRat, Rat.den_mkRat, if_neg hd, if_neg hd, Nat.gcd_comm d]
 exact ⟨(Int.tdiv_eq_ediv_of_dvd hg).symm, rfl⟩
theorem rmul_parts (a b : Rat) : (a * b).num = a.num.tdiv (Nat.gcd a.num.natAbs b.den : Nat) * b.num.tdiv (Nat.gcd b.num.natAbs a.den : Nat) ∧
  (a * b).den = b.den / Nat.gcd a.num.natAbs b.den * (a.den / Nat.gcd b.num.natAbs a.den) := by
 have h : a * b = Rat.mul a b := rfl
 rw [h]; unfold Rat.mul
 simp only [Int.divExact_eq_tdiv]
 exact ⟨trivial, Nat.mul_comm _ _⟩
theorem rinv_parts {a : Rat} (h : a ≠ 0) : (a⁻¹).num = (if a.num < 0 then -(a.den : Int) else (a.den : Int)) ∧ (a⁻¹).den = a.num.natAbs := by
 have h0 : a.num ≠ 0 := fun e => h (Rat.num_eq_zero.1 e)
 rw [Rat.num_inv, Rat.den_inv, if_neg h0]
 refine ⟨?_, rfl⟩
 split
 ·rename_i h1; rw [Int.sign_eq_neg_one_of_neg h1]; omega
 ·rw [Int.sign_eq_one_of_pos (by omega)]; omega
theorem radd_parts (a b : Rat) :
  (a + b).num = (a.num * ((b.den / Nat.gcd a.den b.den : Nat) : Int) + b.num * ((a.den / Nat.gcd a.den b.den : Nat) : Int)).tdiv (Nat.gcd (a.num * ((b.den / Nat.gcd a.den b.den : Nat) : Int) + b.num * ((a.den / Nat.gcd a.den b.den : Nat) : Int)).natAbs (Nat.gcd a.den b.den) : Nat) ∧
  (a + b).den = a.den / Nat.gcd a.den b.den * (b.den / Nat.gcd a.den b.den) * (Nat.gcd a.den b.den / Nat.gcd (a.num * ((b.den / Nat.gcd a.den b.den : Nat) : Int) + b.num * ((a.den / Nat.gcd a.den b.den : Nat) : Int)).natAbs (Nat.gcd a.den b.den)) := by
 have h : a + b = Rat.add a b := rfl
 rw [h]; unfold Rat.add
 by_cases hg : a.den.gcd b.den = 1
 ·simp only [hg, dif_pos]
  simp
 ·simp only [hg, dif_neg, not_false_eq_true, Rat.maybeNormalize_eq]
  refine ⟨Int.divExact_eq_tdiv .., ?_⟩
  generalize hx : a.num * ((b.den / Nat.gcd a.den b.den : Nat) : Int) + b.num * ((a.den / Nat.gcd a.den b.den : Nat) : Int) = x
  have e1 : b.den = b.den / Nat.gcd a.den b.den * Nat.gcd a.den b.den := (Nat.div_mul_cancel (Nat.gcd_dvd_right _ _)).symm
  generalize hg' : Nat.gcd a.den b.den = g at *
  generalize hq : b.den / g = q at *
  rw [e1, ← Nat.mul_assoc, Nat.mul_div_assoc _ (Nat.gcd_dvd_right _ _)]
theorem num_le_add (a b : Rat) : (a + b).num.natAbs ≤ (a.num * b.den + b.num * a.den).natAbs := by
 rw [Rat.num_add]; exact Int.natAbs_ediv_le_natAbs _ _
theorem den_le_add (a b : Rat) : (a + b).den ≤ a.den * b.den := by
 rw [Rat.den_add]; exact Nat.div_le_self _ _
theorem num_le_mul (a b : Rat) : (a * b).num.natAbs ≤ (a.num * b.num).natAbs := by
 rw [Rat.num_mul]; exact Int.natAbs_ediv_le_natAbs _ _
theorem den_le_mul (a b : Rat) : (a * b).den ≤ a.den * b.den := by
 rw [Rat.den_mul]; exact Nat.div_le_self _ _
/-- The denominator as it is kept: 0 stands for 1. -/
def fe (q : Rat) : Nat := if q.den = 1 then 0 else q.den
theorem fe_one {q : Rat} (h : q.den = 1) : fe q = 0 := if_pos h
theorem fe_ne {q : Rat} (h : q.den ≠ 1) : fe q = q.den := if_neg h
/-- A fraction: its numerator, and its denominator as it is kept. -/
abbrev frV (n : Int) (e : Nat) : Value := .agg #[.int .u64 ((zl n : Nat) : Int), .string (zh n), .bool (zs n), .int .u64 ((lo e : Nat) : Int), .string (hs e)]
abbrev fracV (q : Rat) : Value := frV q.num (fe q)
theorem frV_inj {m n : Int} {d e : Nat} (h : frV m d = frV n e) : m = n ∧ d = e := by
 simp only [frV, Value.agg.injEq, Array.mk.injEq, List.cons.injEq, Value.int.injEq, Value.string.injEq, Value.bool.injEq, and_true, true_and] at h
 obtain ⟨h1, h2, h3, h4, h5⟩ := h
 exact ⟨intV_inj (by unfold intV; rw [h1, h2, h3]), natV_inj (by unfold natV; rw [h4, h5])⟩
theorem fracV_inj {p q : Rat} (h : fracV p = fracV q) : p = q := by
 obtain ⟨h1, h2⟩ := frV_inj h
 refine Rat.ext h1 ?_
 unfold fe at h2
 have := p.den_nz
 have := q.den_nz
 split at h2 <;> split at h2 <;> omega
/-- What == sees of two naturals that differ. -/
theorem ne_nat {a b : Nat} (h : a ≠ b) : (((lo a : Nat) : Int) == ((lo b : Nat) : Int)) = false ∨ ((((lo a : Nat) : Int) == ((lo b : Nat) : Int)) = true ∧ ((hs a).toList == (hs b).toList) = false) := by
 by_cases h1 : lo a = lo b
 ·right
  refine ⟨by rw [h1]; exact beq_self_eq_true _, beq_eq_false_iff_ne.2 fun h3 => h ?_⟩
  rw [hs_toList, hs_toList] at h3
  have h4 := hiB_inj h3
  have h5 := divmod a
  have h6 := divmod b
  rw [h4, h1, ← h6] at h5
  exact h5
 ·left
  exact beq_eq_false_iff_ne.2 fun h2 => h1 (by omega)
/-- At most k words in the numerator and in the denominator. -/
def Sz (q : Rat) (k : Nat) : Prop := dI q.num ≤ k ∧ (digs q.den).length ≤ k
theorem Sz.n {q : Rat} {k : Nat} (h : Sz q k) : dI q.num ≤ k := h.1
theorem Sz.d {q : Rat} {k : Nat} (h : Sz q k) : (digs q.den).length ≤ k := h.2
theorem Sz.mono {q : Rat} {k m : Nat} (h : Sz q k) (hm : k ≤ m) : Sz q m := ⟨Nat.le_trans h.1 hm, Nat.le_trans h.2 hm⟩
theorem Sz.neg {q : Rat} {k : Nat} (h : Sz q k) : Sz (-q) k := ⟨by rw [Rat.neg_num, dI_neg]; exact h.1, h.2⟩
theorem Sz.add {p q : Rat} {k m : Nat} (hp : Sz p k) (hq : Sz q m) : Sz (p + q) (k + m + 1) := by
 constructor
 ·refine Nat.le_trans (dI_mono (num_le_add p q)) (dI_add (k := k + m) (dI_mul hp.1 (by rw [dI_nat]; exact hq.2)) ?_)
  rw [Nat.add_comm k m]
  exact dI_mul hq.1 (by rw [dI_nat]; exact hp.2)
 ·exact Nat.le_trans (digs_mono (den_le_add p q)) (Nat.le_trans (digs_mul_le hp.2 hq.2) (by omega))
theorem Sz.sub {p q : Rat} {k m : Nat} (hp : Sz p k) (hq : Sz q m) : Sz (p - q) (k + m + 1) := by
 rw [Rat.sub_eq_add_neg]; exact hp.add hq.neg
theorem Sz.mul {p q : Rat} {k m : Nat} (hp : Sz p k) (hq : Sz q m) : Sz (p * q) (k + m) :=
 ⟨Nat.le_trans (dI_mono (num_le_mul p q)) (dI_mul hp.1 hq.1), Nat.le_trans (digs_mono (den_le_mul p q)) (digs_mul_le hp.2 hq.2)⟩
theorem Sz.inv {q : Rat} {k : Nat} (h : Sz q k) (h0 : q ≠ 0) : Sz q⁻¹ k := by
 obtain ⟨h1, h2⟩ := rinv_parts h0
 refine ⟨?_, by rw [h2]; exact h.1⟩
 rw [h1]
 split
 ·rw [dI_neg, dI_nat]; exact h.2
 ·rw [dI_nat]; exact h.2
theorem Sz.div {p q : Rat} {k m : Nat} (hp : Sz p k) (hq : Sz q m) (h0 : q ≠ 0) : Sz (p / q) (k + m) := by
 rw [Rat.div_def]; exact hp.mul (hq.inv h0)
theorem Sz.int {z : Int} {k : Nat} (h : dI z ≤ k) (hk : 0 < k) : Sz (z : Rat) k :=
 ⟨h, Nat.le_trans (digs_length_iff (k := 1).2 (by show (z : Rat).den < _; rw [Rat.den_intCast, Nat.pow_one]; exact Bs_gt)) hk⟩
theorem Sz.mk {z : Int} {d k : Nat} (hz : dI z ≤ k) (hd : (digs d).length ≤ k) (h0 : d ≠ 0) : Sz (mkRat z d) k := by
 obtain ⟨h1, h2⟩ := canc (z := z) h0
 refine ⟨?_, ?_⟩
 ·rw [h1]
  refine Nat.le_trans (dI_mono ?_) hz
  rw [Int.natAbs_tdiv]
  exact Nat.div_le_self _ _
 ·rw [h2]; exact Nat.le_trans (digs_mono (Nat.div_le_self _ _)) hd
theorem new_natc (w : World) : (Instr.alloc 32 true (.tuple #[])).run Tryz.prog w = .ok (.pointer (some ⟨w.heap.size, 0, none⟩)) (w.alloc (.cells #[.int .u64 0, .string ⟨#[]⟩] 32)) := by
 simp [go_sem, Instr.alloc]
theorem put_natc (i0 i : Int) (s0 s : ByteArray) (w : World) (k : Nat) (h : Hd w k [.int .u64 i0, .string s0]) :
  ∃ w', (Instr.storeAt 32 (.pointer (some ⟨k, 0, none⟩)) (.agg #[.int .u64 i, .string s])).run Tryz.prog w = .ok () w' ∧ Hd w' k [.int .u64 i, .string s] ∧ Upd k w w' := by
 have h0 : w.cell? ⟨k, 0, none⟩ = some (.int .u64 i0) := h.cell 0 (by simp)
 have h1 : w.cell? ⟨k, 1, none⟩ = some (.string s0) := h.cell 1 (by simp)
 have hf := h.frz
 refine ⟨_, ?_, setAll_hd [.int .u64 i, .string s] 0 w k [] [.int .u64 i0, .string s0] rfl rfl h, (((Upd.refl k w).setCell 0 _).setCell 1 _)⟩
 simp [go_sem, Instr.storeAt, Instr.sureAddr, h0, h1, hf, setAll]
theorem new_frac (w : World) : (Instr.alloc 36 true (.tuple #[])).run Tryz.prog w = .ok (.pointer (some ⟨w.heap.size, 0, none⟩)) (w.alloc (.cells #[.int .u64 0, .string ⟨#[]⟩, .bool false, .int .u64 0, .string ⟨#[]⟩] 36)) := by
 simp [go_sem, Instr.alloc]
/-- A property of worlds that stays while memory is only made. -/
def Keeps (K : World → Prop) : Prop := ∀ w w', Below w.heap.size w w' → K w → K w'
theorem Keeps.at {K : World → Prop} (h : Keeps K) {w w' : World} (hb : Below w.heap.size w w') (hk : K w) : K w' := h _ _ hb hk
theorem Keeps.tab : Keeps Tab := fun _ _ hb h => h.below hb
theorem Keeps.and {K L : World → Prop} (h : Keeps K) (g : Keeps L) : Keeps (fun w => K w ∧ L w) := fun _ _ hb ⟨a, b⟩ => ⟨h _ _ hb a, g _ _ hb b⟩
theorem cls_callK {α : Type} {F : α → World} {w0 : World} {K : World → Prop} (hK : Keeps K) (h1 : ∀ x, Below w0.heap.size w0 (F x)) (h2 : ∀ W, Below w0.heap.size w0 W → ∃ x, W = F x) (hk : K w0) {P : Program} {f : FuncId} {args : Array Value} {v : Value}
  (h : ∀ w, K w → Calls P f args w fun e w' => e = .returned v ∧ Below w.heap.size w w') (x : α) : Calls P f args (F x) fun e w'' => e = .returned v ∧ ∃ y, w'' = F y :=
 (h (F x) (hK _ _ (h1 x) hk)).mono fun _ _ ⟨he, hb⟩ => ⟨he, h2 _ ((h1 x).trans (hb.mono (h1 x).size))⟩
end Go.Proofs.YthffglapmkkohaaGreatDoor
namespace Go.Proofs.YthffglapmkkohaaGreatDoor
open Go.RowKit
attribute [local irreducible] lo hs sm s64 c64 d64 b64 mh ml pd pc qd qc val hiB str cmpI srD lz nb zl zh zs
theorem cls_box {α : Type} {F : α → World} {z : World} (h1 : ∀ x, Below z.heap.size z (F x)) {w : World} {L : List (Nat × List Value)} (hL : GL w z L) (k : Nat) (c : List Value) (hm : (k, c) ∈ L) : cellsC F k 0 c :=
 cellsC_of c 0 fun x => cells_of c 0 [] rfl ((hL.get k c hm).below (h1 x))
end Go.Proofs.YthffglapmkkohaaGreatDoor
namespace Go.Proofs.YthffglapmkkohaaGreatDoor
open Go.RowKit
attribute [local irreducible] lo hs sm s64 c64 d64 b64 mh ml pd pc qd qc val hiB str cmpI srD lz nb zl zh zs dval
end Go.Proofs.YthffglapmkkohaaGreatDoor
namespace Go.Proofs.YthffglapmkkohaaGreatDoor
open Go.RowKit
attribute [local irreducible] lo hs zl zh zs
theorem Ws.len {w : World} {a : Option Addr} {n c : Nat} {l : List Nat} (h : Ws w (.slice a n c) l) : l.length = n := by
 rcases h with ⟨ao, c1, h1, h2⟩ | ⟨a1, c1, h1, h2⟩
 ·simp only [Value.slice.injEq] at h1; rw [h2, h1.2.1]; rfl
 ·simp only [Value.slice.injEq] at h1; rw [h1.2.1]
end Go.Proofs.YthffglapmkkohaaGreatDoor
namespace Go.Proofs.YthffglapmkkohaaGreatDoor
open Go.RowKit
attribute [local irreducible] lo hs sm s64 c64 d64 b64 mh ml pd pc qd qc val hiB str cmpI srD lz nb zl zh zs
theorem whole_yes (n : Int) (w : World) :
  Calls Tryz.prog 141 #[frV n 0] w fun xe w' => xe = .returned (.bool true) ∧ Below w.heap.size w w' := by
 have hL0 : GL w w [] := GL.start w
 have e0 : (((lo 0 : Nat) : Int) == 0) = true := by rw [lo_small Bs_pos]; rfl
 have e1 : ((hs 0).toList == []) = true := by rw [hs_small Bs_pos, ByteArray.toList_eq]; rfl
 obtain ⟨x1, hweq, hL0⟩ := GL.named (hL0.new rfl [.int .u64 ((zl n : Nat) : Int), .string (zh n), .bool (zs n), .int .u64 ((lo 0 : Nat) : Int), .string (hs 0)] 36)
 go_enter Tryz.func141, Tryz.ntmps141
 have hN0 := cells_of _ 0 [] rfl (hL0.get _ _ mZ)
 simp only [zF, Nat.reduceAdd] at hN0
 go_wp2_with fail
 exact bodyPost_ret (v := .bool true) (by simp [results, Tryz.results141, go_sem, hN0]) rfl ⟨rfl, hL0.bl⟩
theorem whole_no (n : Int) (e : Nat) (he : e ≠ 0) (w : World) :
  Calls Tryz.prog 141 #[frV n e] w fun xe w' => xe = .returned (.bool false) ∧ Below w.heap.size w w' := by
 have hL0 : GL w w [] := GL.start w
 have hz := ne0 he
 clear he
 rcases hz with e0 | ⟨e0, e1⟩
 all_goals (
  obtain ⟨x1, hweq, hL0⟩ := GL.named (hL0.new rfl [.int .u64 ((zl n : Nat) : Int), .string (zh n), .bool (zs n), .int .u64 ((lo e : Nat) : Int), .string (hs e)] 36)
  go_enter Tryz.func141, Tryz.ntmps141
  have hN0 := cells_of _ 0 [] rfl (hL0.get _ _ mZ)
  simp only [zF, Nat.reduceAdd] at hN0
  go_wp2_with fail
  exact bodyPost_ret (v := .bool false) (by simp [results, Tryz.results141, go_sem, hN0]) rfl ⟨rfl, hL0.bl⟩)
theorem den_one_w (n : Int) (HW : RT 141 #[frV n 0] (.bool true)) (HO : RT 133 #[.int .u64 1] (natV 1)) (w : World) :
  Calls Tryz.prog 66 #[frV n 0] w fun xe w' => xe = .returned (natV 1) ∧ Below w.heap.size w w' := by
 have hL0 : GL w w [] := GL.start w
 replace HW := Lib.hid HW
 replace HO := Lib.hid HO
 obtain ⟨x1, hweq, hL0⟩ := GL.named ((hL0.new rfl [.int .u64 ((zl n : Nat) : Int), .string (zh n), .bool (zs n), .int .u64 ((lo 0 : Nat) : Int), .string (hs 0)] 36).new (K := w.heap.size + 1) (szA _ _) [.int .u64 0, .string ⟨#[]⟩] 32)
 go_enter Tryz.func66, Tryz.ntmps66
 have hN0 := cells_of _ 0 [] rfl (hL0.get _ _ (mK mZ))
 simp only [zF, Nat.reduceAdd] at hN0
 go_wp2_with fail
 clear hN0
 with_reducible refine Calls.mono (HW.out _) ?_
 rintro e x2 ⟨rfl, hb⟩
 replace hL0 := hL0.call hb
 clear hb hweq
 go_wp2_with fail
 with_reducible refine Calls.mono (HO.out _) ?_
 rintro e x3 ⟨rfl, hb⟩
 replace hL0 := hL0.call hb
 clear hb
 have hA := hL0.fc
 simp only [zF, Nat.reduceAdd] at hA
 obtain ⟨x4, hput1, hP⟩ := GL.named (hL0.put 0 (w.heap.size + 1) _ rfl [.int .u64 ((lo 1 : Nat) : Int), .string (hs 1)] rfl)
 simp only [setAll] at hput1
 simp only [List.set_cons_zero, List.set_cons_succ] at hP
 have hB1 := hP.fc
 simp only [zF, Nat.reduceAdd] at hB1
 replace hL0 := hP
 go_wp2_with fail
 exact bodyPost_ret (v := natV 1) (by simp [results, Tryz.results66, go_sem, hB1]) rfl ⟨rfl, hL0.bl⟩
theorem den_part_w (n : Int) (e : Nat) (HW : RT 141 #[frV n e] (.bool false)) (w : World) :
  Calls Tryz.prog 66 #[frV n e] w fun xe w' => xe = .returned (natV e) ∧ Below w.heap.size w w' := by
 have hL0 : GL w w [] := GL.start w
 replace HW := Lib.hid HW
 obtain ⟨x1, hweq, hL0⟩ := GL.named ((hL0.new rfl [.int .u64 ((zl n : Nat) : Int), .string (zh n), .bool (zs n), .int .u64 ((lo e : Nat) : Int), .string (hs e)] 36).new (K := w.heap.size + 1) (szA _ _) [.int .u64 0, .string ⟨#[]⟩] 32)
 go_enter Tryz.func66, Tryz.ntmps66
 have hN0 := cells_of _ 0 [] rfl (hL0.get _ _ (mK mZ))
 simp only [zF, Nat.reduceAdd] at hN0
 go_wp2_with fail
 clear hN0
 with_reducible refine Calls.mono (HW.out _) ?_
 rintro e x2 ⟨rfl, hb⟩
 replace hL0 := hL0.call hb
 clear hb hweq
 have hA := hL0.fc
 simp only [zF, Nat.reduceAdd] at hA
 obtain ⟨x3, hput1, hP⟩ := GL.named (hL0.put 0 (w.heap.size + 1) _ rfl [.int .u64 ((lo e : Nat) : Int), .string (hs e)] rfl)
 simp only [setAll] at hput1
 simp only [List.set_cons_zero, List.set_cons_succ] at hP
 have hB1 := hP.fc
 simp only [zF, Nat.reduceAdd] at hB1
 replace hL0 := hP
 go_wp2_with fail
 exact bodyPost_ret (v := natV e) (by simp [results, Tryz.results66, go_sem, hB1]) rfl ⟨rfl, hL0.bl⟩
theorem lowest_one (n : Int) (HO : RT 133 #[.int .u64 1] (natV 1)) (w : World) :
  Calls Tryz.prog 67 #[intV n, natV 1] w fun xe w' => xe = .returned (.agg #[.int .u64 ((zl n : Nat) : Int), .string (zh n), .bool (zs n), .int .u64 0, .string ⟨#[]⟩]) ∧ Below w.heap.size w w' := by
 have hL0 : GL w w [] := GL.start w
 replace HO := Lib.hid HO
 obtain ⟨x1, hweq, hL0⟩ := GL.named (((hL0.new rfl [.int .u64 ((zl n : Nat) : Int), .string (zh n), .bool (zs n)] 34).new (K := w.heap.size + 1) (szA _ _) [.int .u64 ((lo 1 : Nat) : Int), .string (hs 1)] 32).new (K := w.heap.size + 1 + 1) (by simp only [World.size_alloc]) [.int .u64 0, .string ⟨#[]⟩, .bool false, .int .u64 0, .string ⟨#[]⟩] 36)
 go_enter Tryz.func67, Tryz.ntmps67
 go_upto_region 1 with fail
 clear hweq
 obtain ⟨α, iα, F, hF1, hF2⟩ := cls x1
 have hq0 := cls_box hF1 hL0 _ _ (mK mZ)
 simp only [zC, Nat.reduceAdd] at hq0
 refine region_qs 3 (C := fun w' => ∃ x, w' = F x) (by kernel_rfl) (by kernel_rfl) (cls_drew hF2) ?_
 simp only [zT]
 repeat (go_big_quiet_step (first | fail | (go_at_call 133; with_reducible exact cls_call hF1 hF2 HO.out _)))
 refine wpQuiet_nil ?_
 rintro wq ⟨xq, rfl⟩
 replace hL0 := hL0.call (hF1 xq)
 clear  hq0 hF2
 generalize F xq = x2 at hL0 ⊢
 clear hF1 xq iα F α
 have hA := hL0.fc
 simp only [zF, Nat.reduceAdd] at hA
 obtain ⟨x3, hput1, hP⟩ := GL.named (hL0.put 0 (w.heap.size + 1 + 1) _ rfl [.int .u64 ((zl n : Nat) : Int), .string (zh n), .bool (zs n), .int .u64 0, .string ⟨#[]⟩] rfl)
 simp only [setAll] at hput1
 simp only [List.set_cons_zero, List.set_cons_succ] at hP
 have hB1 := hP.fc
 simp only [zF, Nat.reduceAdd] at hB1
 replace hL0 := hP
 go_wp2_with fail
 exact bodyPost_ret (v := .agg #[.int .u64 ((zl n : Nat) : Int), .string (zh n), .bool (zs n), .int .u64 0, .string ⟨#[]⟩]) (by simp [results, Tryz.results67, go_sem, hB1]) rfl ⟨rfl, hL0.bl⟩
theorem lowest_part (n : Int) (d : Nat) (HO : RT 133 #[.int .u64 1] (natV 1)) (hd : d ≠ 1) (w : World) :
  Calls Tryz.prog 67 #[intV n, natV d] w fun xe w' => xe = .returned (frV n d) ∧ Below w.heap.size w w' := by
 have hL0 : GL w w [] := GL.start w
 replace HO := Lib.hid HO
 have hz := ne_nat hd
 clear hd
 rcases hz with e0 | ⟨e0, e1⟩
 all_goals (
  obtain ⟨x1, hweq, hL0⟩ := GL.named (((hL0.new rfl [.int .u64 ((zl n : Nat) : Int), .string (zh n), .bool (zs n)] 34).new (K := w.heap.size + 1) (szA _ _) [.int .u64 ((lo d : Nat) : Int), .string (hs d)] 32).new (K := w.heap.size + 1 + 1) (by simp only [World.size_alloc]) [.int .u64 0, .string ⟨#[]⟩, .bool false, .int .u64 0, .string ⟨#[]⟩] 36)
  go_enter Tryz.func67, Tryz.ntmps67
  go_upto_region 1 with fail
  clear hweq
  obtain ⟨α, iα, F, hF1, hF2⟩ := cls x1
  have hq0 := cls_box hF1 hL0 _ _ (mK mZ)
  simp only [zC, Nat.reduceAdd] at hq0
  refine region_qs 3 (C := fun w' => ∃ x, w' = F x) (by kernel_rfl) (by kernel_rfl) (cls_drew hF2) ?_
  simp only [zT]
  repeat (go_big_quiet_step (first | fail | (go_at_call 133; with_reducible exact cls_call hF1 hF2 HO.out _)))
  refine wpQuiet_nil ?_
  rintro wq ⟨xq, rfl⟩
  replace hL0 := hL0.call (hF1 xq)
  clear  hq0 hF2
  generalize F xq = x2 at hL0 ⊢
  clear hF1 xq iα F α
  have hA := hL0.fc
  simp only [zF, Nat.reduceAdd] at hA
  obtain ⟨x3, hput1, hP⟩ := GL.named (hL0.put 0 (w.heap.size + 1 + 1) _ rfl [.int .u64 ((zl n : Nat) : Int), .string (zh n), .bool (zs n), .int .u64 ((lo d : Nat) : Int), .string (hs d)] rfl)
  simp only [setAll] at hput1
  simp only [List.set_cons_zero, List.set_cons_succ] at hP
  have hB1 := hP.fc
  simp only [zF, Nat.reduceAdd] at hB1
  replace hL0 := hP
  go_wp2_with fail
  exact bodyPost_ret (v := frV n d) (by simp [results, Tryz.results67, go_sem, hB1]) rfl ⟨rfl, hL0.bl⟩)
theorem pon_one (n : Nat) (HO : RT 133 #[.int .u64 1] (natV 1)) (w : World) :
  Calls Tryz.prog 135 #[natV n, natV 1] w fun xe w' => xe = .returned (natV n) ∧ Below w.heap.size w w' := by
 have hL0 : GL w w [] := GL.start w
 replace HO := Lib.hid HO
 obtain ⟨x1, hweq, hL0⟩ := GL.named (((hL0.new rfl [.int .u64 ((lo n : Nat) : Int), .string (hs n)] 32).new (K := w.heap.size + 1) (szA _ _) [.int .u64 ((lo 1 : Nat) : Int), .string (hs 1)] 32).new (K := w.heap.size + 1 + 1) (by simp only [World.size_alloc]) [.int .u64 0, .string ⟨#[]⟩] 32)
 go_enter Tryz.func135, Tryz.ntmps135
 go_upto_region 1 with fail
 clear hweq
 obtain ⟨α, iα, F, hF1, hF2⟩ := cls x1
 have hq0 := cls_box hF1 hL0 _ _ (mK mZ)
 simp only [zC, Nat.reduceAdd] at hq0
 refine region_qs 3 (C := fun w' => ∃ x, w' = F x) (by kernel_rfl) (by kernel_rfl) (cls_drew hF2) ?_
 simp only [zT]
 repeat (go_big_quiet_step (first | fail | (go_at_call 133; with_reducible exact cls_call hF1 hF2 HO.out _)))
 refine wpQuiet_nil ?_
 rintro wq ⟨xq, rfl⟩
 replace hL0 := hL0.call (hF1 xq)
 clear  hq0 hF2
 generalize F xq = x2 at hL0 ⊢
 clear hF1 xq iα F α
 have hA := hL0.fc
 simp only [zF, Nat.reduceAdd] at hA
 obtain ⟨x3, hput1, hP⟩ := GL.named (hL0.put 0 (w.heap.size + 1 + 1) _ rfl [.int .u64 ((lo n : Nat) : Int), .string (hs n)] rfl)
 simp only [setAll] at hput1
 simp only [List.set_cons_zero, List.set_cons_succ] at hP
 have hB1 := hP.fc
 simp only [zF, Nat.reduceAdd] at hB1
 replace hL0 := hP
 go_wp2_with fail
 exact bodyPost_ret (v := natV n) (by simp [results, Tryz.results135, go_sem, hB1]) rfl ⟨rfl, hL0.bl⟩
theorem pon_div (n d q r : Nat) (HO : RT 133 #[.int .u64 1] (natV 1)) (HD : RT 173 #[natV n, natV d] (.tuple #[natV q, natV r, .bool true])) (hd : d ≠ 1) (w : World) :
  Calls Tryz.prog 135 #[natV n, natV d] w fun xe w' => xe = .returned (natV q) ∧ Below w.heap.size w w' := by
 have hL0 : GL w w [] := GL.start w
 replace HO := Lib.hid HO
 replace HD := Lib.hid HD
 have hz := ne_nat hd
 clear hd
 rcases hz with e0 | ⟨e0, e1⟩
 all_goals (
  obtain ⟨x1, hweq, hL0⟩ := GL.named (((hL0.new rfl [.int .u64 ((lo n : Nat) : Int), .string (hs n)] 32).new (K := w.heap.size + 1) (szA _ _) [.int .u64 ((lo d : Nat) : Int), .string (hs d)] 32).new (K := w.heap.size + 1 + 1) (by simp only [World.size_alloc]) [.int .u64 0, .string ⟨#[]⟩] 32)
  go_enter Tryz.func135, Tryz.ntmps135
  go_upto_region 1 with fail
  clear hweq
  obtain ⟨α, iα, F, hF1, hF2⟩ := cls x1
  have hq0 := cls_box hF1 hL0 _ _ (mK mZ)
  simp only [zC, Nat.reduceAdd] at hq0
  refine region_qs 3 (C := fun w' => ∃ x, w' = F x) (by kernel_rfl) (by kernel_rfl) (cls_drew hF2) ?_
  simp only [zT]
  repeat (go_big_quiet_step (first | fail | (go_at_call 133; with_reducible exact cls_call hF1 hF2 HO.out _)))
  refine wpQuiet_nil ?_
  rintro wq ⟨xq, rfl⟩
  replace hL0 := hL0.call (hF1 xq)
  clear  hq0 hF2
  generalize F xq = x2 at hL0 ⊢
  clear hF1 xq iα F α
  have hN0 := cells_of _ 0 [] rfl (hL0.get _ _ (mK mZ))
  simp only [zF, Nat.reduceAdd] at hN0
  have hN1 := cells_of _ 0 [] rfl (hL0.get _ _ (mK (mK mZ)))
  simp only [zF, Nat.reduceAdd] at hN1
  go_wp2_with fail
  clear hN0 hN1
  with_reducible refine Calls.mono (HD.out _) ?_
  rintro e x3 ⟨rfl, hb⟩
  replace hL0 := hL0.call hb
  clear hb
  obtain ⟨x4, hweq, hL0⟩ := GL.named ((hL0.new rfl [.int .u64 ((lo q : Nat) : Int), .string (hs q)] 32).new (K := x3.heap.size + 1) (szA _ _) [.int .u64 ((lo r : Nat) : Int), .string (hs r)] 32)
  have hA := hL0.fc
  simp only [zF, Nat.reduceAdd] at hA
  obtain ⟨x5, hput1, hP⟩ := GL.named (hL0.put 2 (w.heap.size + 1 + 1) _ rfl [.int .u64 ((lo q : Nat) : Int), .string (hs q)] rfl)
  simp only [setAll] at hput1
  simp only [List.set_cons_zero, List.set_cons_succ] at hP
  have hB1 := hP.fc
  simp only [zF, Nat.reduceAdd] at hB1
  replace hL0 := hP
  go_wp2_with fail
  exact bodyPost_ret (v := natV q) (by simp [results, Tryz.results135, go_sem, hB1]) rfl ⟨rfl, hL0.bl⟩)
theorem part_true (z s u : Int) (a g q : Nat) (HS : RT 121 #[intV z] (.int .i64 s)) (HA : RT 124 #[intV z] (natV a)) (HP : RT 135 #[natV a, natV g] (natV q)) (HF : RT 132 #[.bool true, natV q] (intV u)) (hsg : decide (s < 0) = true) (w : World) :
  Calls Tryz.prog 140 #[intV z, natV g] w fun xe w' => xe = .returned (intV u) ∧ Below w.heap.size w w' := by
 have hL0 : GL w w [] := GL.start w
 replace HS := Lib.hid HS
 replace HA := Lib.hid HA
 replace HP := Lib.hid HP
 replace HF := Lib.hid HF
 obtain ⟨x1, hweq, hL0⟩ := GL.named (((hL0.new rfl [.int .u64 ((zl z : Nat) : Int), .string (zh z), .bool (zs z)] 34).new (K := w.heap.size + 1) (szA _ _) [.int .u64 ((lo g : Nat) : Int), .string (hs g)] 32).new (K := w.heap.size + 1 + 1) (by simp only [World.size_alloc]) [.int .u64 0, .string ⟨#[]⟩, .bool false] 34)
 go_enter Tryz.func140, Tryz.ntmps140
 go_upto_region 1 with fail
 clear hweq
 obtain ⟨α, iα, F, hF1, hF2⟩ := cls x1
 have hq0 := cls_box hF1 hL0 _ _ (mK mZ)
 simp only [zC, Nat.reduceAdd] at hq0
 have hq1 := cls_box hF1 hL0 _ _ (mK (mK mZ))
 simp only [zC, Nat.reduceAdd] at hq1
 refine region_qs 8 (C := fun w' => ∃ x, w' = F x) (by kernel_rfl) (by kernel_rfl) (cls_drew hF2) ?_
 simp only [zT]
 repeat (go_big_quiet_step (first | fail | (go_at_call 121; with_reducible exact cls_call hF1 hF2 HS.out _) | (go_at_call 124; with_reducible exact cls_call hF1 hF2 HA.out _) | (go_at_call 135; with_reducible exact cls_call hF1 hF2 HP.out _) | (go_at_call 132; with_reducible exact cls_call hF1 hF2 HF.out _)))
 refine wpQuiet_nil ?_
 rintro wq ⟨xq, rfl⟩
 replace hL0 := hL0.call (hF1 xq)
 clear  hq0 hq1 hF2
 generalize F xq = x2 at hL0 ⊢
 clear hF1 xq iα F α
 have hA := hL0.fc
 simp only [zF, Nat.reduceAdd] at hA
 obtain ⟨x3, hput1, hP⟩ := GL.named (hL0.put 0 (w.heap.size + 1 + 1) _ rfl [.int .u64 ((zl u : Nat) : Int), .string (zh u), .bool (zs u)] rfl)
 simp only [setAll] at hput1
 simp only [List.set_cons_zero, List.set_cons_succ] at hP
 have hB1 := hP.fc
 simp only [zF, Nat.reduceAdd] at hB1
 replace hL0 := hP
 go_wp2_with fail
 exact bodyPost_ret (v := intV u) (by simp [results, Tryz.results140, go_sem, hB1]) rfl ⟨rfl, hL0.bl⟩
theorem part_false (z s u : Int) (a g q : Nat) (HS : RT 121 #[intV z] (.int .i64 s)) (HA : RT 124 #[intV z] (natV a)) (HP : RT 135 #[natV a, natV g] (natV q)) (HF : RT 132 #[.bool false, natV q] (intV u)) (hsg : decide (s < 0) = false) (w : World) :
  Calls Tryz.prog 140 #[intV z, natV g] w fun xe w' => xe = .returned (intV u) ∧ Below w.heap.size w w' := by
 have hL0 : GL w w [] := GL.start w
 replace HS := Lib.hid HS
 replace HA := Lib.hid HA
 replace HP := Lib.hid HP
 replace HF := Lib.hid HF
 obtain ⟨x1, hweq, hL0⟩ := GL.named (((hL0.new rfl [.int .u64 ((zl z : Nat) : Int), .string (zh z), .bool (zs z)] 34).new (K := w.heap.size + 1) (szA _ _) [.int .u64 ((lo g : Nat) : Int), .string (hs g)] 32).new (K := w.heap.size + 1 + 1) (by simp only [World.size_alloc]) [.int .u64 0, .string ⟨#[]⟩, .bool false] 34)
 go_enter Tryz.func140, Tryz.ntmps140
 go_upto_region 1 with fail
 clear hweq
 obtain ⟨α, iα, F, hF1, hF2⟩ := cls x1
 have hq0 := cls_box hF1 hL0 _ _ (mK mZ)
 simp only [zC, Nat.reduceAdd] at hq0
 have hq1 := cls_box hF1 hL0 _ _ (mK (mK mZ))
 simp only [zC, Nat.reduceAdd] at hq1
 refine region_qs 8 (C := fun w' => ∃ x, w' = F x) (by kernel_rfl) (by kernel_rfl) (cls_drew hF2) ?_
 simp only [zT]
 repeat (go_big_quiet_step (first | fail | (go_at_call 121; with_reducible exact cls_call hF1 hF2 HS.out _) | (go_at_call 124; with_reducible exact cls_call hF1 hF2 HA.out _) | (go_at_call 135; with_reducible exact cls_call hF1 hF2 HP.out _) | (go_at_call 132; with_reducible exact cls_call hF1 hF2 HF.out _)))
 refine wpQuiet_nil ?_
 rintro wq ⟨xq, rfl⟩
 replace hL0 := hL0.call (hF1 xq)
 clear  hq0 hq1 hF2
 generalize F xq = x2 at hL0 ⊢
 clear hF1 xq iα F α
 have hA := hL0.fc
 simp only [zF, Nat.reduceAdd] at hA
 obtain ⟨x3, hput1, hP⟩ := GL.named (hL0.put 0 (w.heap.size + 1 + 1) _ rfl [.int .u64 ((zl u : Nat) : Int), .string (zh u), .bool (zs u)] rfl)
 simp only [setAll] at hput1
 simp only [List.set_cons_zero, List.set_cons_succ] at hP
 have hB1 := hP.fc
 simp only [zF, Nat.reduceAdd] at hB1
 replace hL0 := hP
 go_wp2_with fail
 exact bodyPost_ret (v := intV u) (by simp [results, Tryz.results140, go_sem, hB1]) rfl ⟨rfl, hL0.bl⟩
theorem cancel_w (z u : Int) (a d g v : Nat) (HA : RT 124 #[intV z] (natV a)) (HG : RT 134 #[natV a, natV d] (natV g)) (HP : RT 140 #[intV z, natV g] (intV u)) (HQ : RT 135 #[natV d, natV g] (natV v)) (w : World) :
  Calls Tryz.prog 65 #[intV z, natV d] w fun xe w' => xe = .returned (.tuple #[intV u, natV v]) ∧ Below w.heap.size w w' := by
 have hL0 : GL w w [] := GL.start w
 replace HA := Lib.hid HA
 replace HG := Lib.hid HG
 replace HP := Lib.hid HP
 replace HQ := Lib.hid HQ
 obtain ⟨x1, hweq, hL0⟩ := GL.named ((((hL0.new rfl [.int .u64 ((zl z : Nat) : Int), .string (zh z), .bool (zs z)] 34).new (K := w.heap.size + 1) (szA _ _) [.int .u64 ((lo d : Nat) : Int), .string (hs d)] 32).new (K := w.heap.size + 1 + 1) (by simp only [World.size_alloc]) [.int .u64 0, .string ⟨#[]⟩, .bool false] 34).new (K := w.heap.size + 1 + 1 + 1) (by simp only [World.size_alloc]) [.int .u64 0, .string ⟨#[]⟩] 32)
 go_enter Tryz.func65, Tryz.ntmps65
 go_upto_region 1 with fail
 clear hweq
 refine region_gh (by kernel_rfl) (by kernel_rfl) ?_
 refine lex_seg (gl := []) 4 (by kernel_rfl) ?_
 intro α iα F hF1 hF2
 have hq := GL.seg hF1 hL0
 simp only [zC, Nat.reduceAdd] at hq
 simp only [zT]
 repeat (go_big_quiet_step (first | fail | (go_at_call 124; with_reducible exact seg_call hF2 HA.out _) | (go_at_call 134; with_reducible exact seg_call hF2 HG.out _)))
 refine wpQuiet_nil ?_
 clear hq hF1 hF2 iα F α
 refine lex_new [.int .u64 0, .string ⟨#[]⟩] 6 32 32 rfl rfl (of_decide_eq_true (by kernel_rfl)) (by kernel_rfl) rfl new_natc ?_
 simp only [Act.put, zP]
 refine lex_put [.int .u64 ((lo g : Nat) : Int), .string (hs g)] [.int .u64 0, .string ⟨#[]⟩] 6 32 (.tmp 10) rfl (by kernel_rfl) (by simp [toG, upd]) rfl (fun w k h => put_natc _ _ _ _ w k h) ?_
 simp only [Act.put]
 refine lexG_nil ?_
 intro κ x2 hS
 replace hL0 := hL0.ghs hS [(6, [.int .u64 ((lo g : Nat) : Int), .string (hs g)])] (by simp) (by intro p hp; simp only [List.mem_cons, List.not_mem_nil, or_false] at hp; rcases hp with rfl <;> exact ⟨_, by simp only [toG, upd]; rfl⟩)
 simp only [List.map_cons, List.map_nil, List.cons_append, List.nil_append] at hL0
 simp only [over_toG, over_nil, Act.put, zP]
 clear hS
 generalize κ 6 = k2_6 at *
 go_upto_region 2 with fail
 obtain ⟨α, iα, F, hF1, hF2⟩ := cls x2
 have hq0 := cls_box hF1 hL0 _ _ mZ
 simp only [zC, Nat.reduceAdd] at hq0
 have hq1 := cls_box hF1 hL0 _ _ (mK (mK (mK mZ)))
 simp only [zC, Nat.reduceAdd] at hq1
 have hq2 := cls_box hF1 hL0 _ _ (mK (mK (mK (mK mZ))))
 simp only [zC, Nat.reduceAdd] at hq2
 refine region_qs 6 (C := fun w' => ∃ x, w' = F x) (by kernel_rfl) (by kernel_rfl) (cls_drew hF2) ?_
 simp only [zT]
 repeat (go_big_quiet_step (first | fail | (go_at_call 140; with_reducible exact cls_call hF1 hF2 HP.out _) | (go_at_call 135; with_reducible exact cls_call hF1 hF2 HQ.out _)))
 refine wpQuiet_nil ?_
 rintro wq ⟨xq, rfl⟩
 replace hL0 := hL0.call (hF1 xq)
 clear  hq0 hq1 hq2 hF2
 generalize F xq = x3 at hL0 ⊢
 clear hF1 xq iα F α
 have hA := hL0.fc
 simp only [zF, Nat.reduceAdd] at hA
 obtain ⟨x4, hput1, hP⟩ := GL.named (hL0.put 2 (w.heap.size + 1 + 1) _ rfl [.int .u64 ((zl u : Nat) : Int), .string (zh u), .bool (zs u)] rfl)
 simp only [setAll] at hput1
 simp only [List.set_cons_zero, List.set_cons_succ] at hP
 have hB1 := hP.fc
 simp only [zF, Nat.reduceAdd] at hB1
 replace hL0 := hP
 obtain ⟨x5, hput2, hP⟩ := GL.named (hL0.put 1 (w.heap.size + 1 + 1 + 1) _ rfl [.int .u64 ((lo v : Nat) : Int), .string (hs v)] rfl)
 simp only [setAll] at hput2
 simp only [List.set_cons_zero, List.set_cons_succ] at hP
 have hB2 := hP.fc
 simp only [zF, Nat.reduceAdd] at hB2
 replace hL0 := hP
 go_wp2_with fail
 exact bodyPost_ret (v := .tuple #[intV u, natV v]) (by simp [results, Tryz.results65, go_sem, hB2]) rfl ⟨rfl, hL0.bl⟩
theorem times_one (z : Int) (HO : RT 133 #[.int .u64 1] (natV 1)) (w : World) :
  Calls Tryz.prog 136 #[intV z, natV 1] w fun xe w' => xe = .returned (intV z) ∧ Below w.heap.size w w' := by
 have hL0 : GL w w [] := GL.start w
 replace HO := Lib.hid HO
 obtain ⟨x1, hweq, hL0⟩ := GL.named (((hL0.new rfl [.int .u64 ((zl z : Nat) : Int), .string (zh z), .bool (zs z)] 34).new (K := w.heap.size + 1) (szA _ _) [.int .u64 ((lo 1 : Nat) : Int), .string (hs 1)] 32).new (K := w.heap.size + 1 + 1) (by simp only [World.size_alloc]) [.int .u64 0, .string ⟨#[]⟩, .bool false] 34)
 go_enter Tryz.func136, Tryz.ntmps136
 go_upto_region 1 with fail
 clear hweq
 obtain ⟨α, iα, F, hF1, hF2⟩ := cls x1
 have hq0 := cls_box hF1 hL0 _ _ (mK mZ)
 simp only [zC, Nat.reduceAdd] at hq0
 refine region_qs 3 (C := fun w' => ∃ x, w' = F x) (by kernel_rfl) (by kernel_rfl) (cls_drew hF2) ?_
 simp only [zT]
 repeat (go_big_quiet_step (first | fail | (go_at_call 133; with_reducible exact cls_call hF1 hF2 HO.out _)))
 refine wpQuiet_nil ?_
 rintro wq ⟨xq, rfl⟩
 replace hL0 := hL0.call (hF1 xq)
 clear  hq0 hF2
 generalize F xq = x2 at hL0 ⊢
 clear hF1 xq iα F α
 have hA := hL0.fc
 simp only [zF, Nat.reduceAdd] at hA
 obtain ⟨x3, hput1, hP⟩ := GL.named (hL0.put 0 (w.heap.size + 1 + 1) _ rfl [.int .u64 ((zl z : Nat) : Int), .string (zh z), .bool (zs z)] rfl)
 simp only [setAll] at hput1
 simp only [List.set_cons_zero, List.set_cons_succ] at hP
 have hB1 := hP.fc
 simp only [zF, Nat.reduceAdd] at hB1
 replace hL0 := hP
 go_wp2_with fail
 exact bodyPost_ret (v := intV z) (by simp [results, Tryz.results136, go_sem, hB1]) rfl ⟨rfl, hL0.bl⟩
theorem times_mul (z f p : Int) (d : Nat) (HO : RT 133 #[.int .u64 1] (natV 1)) (HF : RT 132 #[.bool false, natV d] (intV f)) (HM : RT 68 #[intV z, intV f] (intV p)) (hd : d ≠ 1) (w : World) :
  Calls Tryz.prog 136 #[intV z, natV d] w fun xe w' => xe = .returned (intV p) ∧ Below w.heap.size w w' := by
 have hL0 : GL w w [] := GL.start w
 replace HO := Lib.hid HO
 replace HF := Lib.hid HF
 replace HM := Lib.hid HM
 have hz := ne_nat hd
 clear hd
 rcases hz with e0 | ⟨e0, e1⟩
 all_goals (
  obtain ⟨x1, hweq, hL0⟩ := GL.named (((hL0.new rfl [.int .u64 ((zl z : Nat) : Int), .string (zh z), .bool (zs z)] 34).new (K := w.heap.size + 1) (szA _ _) [.int .u64 ((lo d : Nat) : Int), .string (hs d)] 32).new (K := w.heap.size + 1 + 1) (by simp only [World.size_alloc]) [.int .u64 0, .string ⟨#[]⟩, .bool false] 34)
  go_enter Tryz.func136, Tryz.ntmps136
  go_upto_region 1 with fail
  clear hweq
  obtain ⟨α, iα, F, hF1, hF2⟩ := cls x1
  have hq0 := cls_box hF1 hL0 _ _ (mK mZ)
  simp only [zC, Nat.reduceAdd] at hq0
  refine region_qs 3 (C := fun w' => ∃ x, w' = F x) (by kernel_rfl) (by kernel_rfl) (cls_drew hF2) ?_
  simp only [zT]
  repeat (go_big_quiet_step (first | fail | (go_at_call 133; with_reducible exact cls_call hF1 hF2 HO.out _)))
  refine wpQuiet_nil ?_
  rintro wq ⟨xq, rfl⟩
  replace hL0 := hL0.call (hF1 xq)
  clear  hq0 hF2
  generalize F xq = x2 at hL0 ⊢
  clear hF1 xq iα F α
  go_upto_region 3 with fail
  obtain ⟨α, iα, F, hF1, hF2⟩ := cls x2
  have hq0 := cls_box hF1 hL0 _ _ (mK mZ)
  simp only [zC, Nat.reduceAdd] at hq0
  have hq1 := cls_box hF1 hL0 _ _ (mK (mK mZ))
  simp only [zC, Nat.reduceAdd] at hq1
  refine region_qs 4 (C := fun w' => ∃ x, w' = F x) (by kernel_rfl) (by kernel_rfl) (cls_drew hF2) ?_
  simp only [zT]
  repeat (go_big_quiet_step (first | fail | (go_at_call 132; with_reducible exact cls_call hF1 hF2 HF.out _) | (go_at_call 68; with_reducible exact cls_call hF1 hF2 HM.out _)))
  refine wpQuiet_nil ?_
  rintro wq ⟨xq, rfl⟩
  replace hL0 := hL0.call (hF1 xq)
  clear  hq0 hq1 hF2
  generalize F xq = x3 at hL0 ⊢
  clear hF1 xq iα F α
  have hA := hL0.fc
  simp only [zF, Nat.reduceAdd] at hA
  obtain ⟨x4, hput1, hP⟩ := GL.named (hL0.put 0 (w.heap.size + 1 + 1) _ rfl [.int .u64 ((zl p : Nat) : Int), .string (zh p), .bool (zs p)] rfl)
  simp only [setAll] at hput1
  simp only [List.set_cons_zero, List.set_cons_succ] at hP
  have hB1 := hP.fc
  simp only [zF, Nat.reduceAdd] at hB1
  replace hL0 := hP
  go_wp2_with fail
  exact bodyPost_ret (v := intV p) (by simp [results, Tryz.results136, go_sem, hB1]) rfl ⟨rfl, hL0.bl⟩)
theorem int_w (k z : Int) (HO : RT 62 #[.int .i64 k] (intV z)) (w : World) :
  Calls Tryz.prog 12 #[.int .i64 k] w fun xe w' => xe = .returned (.agg #[.int .u64 ((zl z : Nat) : Int), .string (zh z), .bool (zs z), .int .u64 0, .string ⟨#[]⟩]) ∧ Below w.heap.size w w' := by
 have hL0 : GL w w [] := GL.start w
 replace HO := Lib.hid HO
 obtain ⟨x1, hweq, hL0⟩ := GL.named (hL0.new rfl [.int .u64 0, .string ⟨#[]⟩, .bool false, .int .u64 0, .string ⟨#[]⟩] 36)
 go_enter Tryz.func12, Tryz.ntmps12
 go_wp2_with fail
 with_reducible refine Calls.mono (HO.out _) ?_
 rintro e x2 ⟨rfl, hb⟩
 replace hL0 := hL0.call hb
 clear hb hweq
 have hA := hL0.fc
 simp only [zF, Nat.reduceAdd] at hA
 obtain ⟨x3, hput1, hP⟩ := GL.named (hL0.put 0 (w.heap.size) _ rfl [.int .u64 ((zl z : Nat) : Int), .string (zh z), .bool (zs z), .int .u64 0, .string ⟨#[]⟩] rfl)
 simp only [setAll] at hput1
 simp only [List.set_cons_zero, List.set_cons_succ] at hP
 have hB1 := hP.fc
 simp only [zF, Nat.reduceAdd] at hB1
 replace hL0 := hP
 go_wp2_with fail
 exact bodyPost_ret (v := .agg #[.int .u64 ((zl z : Nat) : Int), .string (zh z), .bool (zs z), .int .u64 0, .string ⟨#[]⟩]) (by simp [results, Tryz.results12, go_sem, hB1]) rfl ⟨rfl, hL0.bl⟩
theorem fof_true (x y s z p : Int) (a b : Int) (d e : Nat) (c : Int) (HO : RT 62 #[.int .i64 a] (intV x)) (HQ : RT 62 #[.int .i64 b] (intV y)) (HS : RT 121 #[intV y] (.int .i64 s)) (HN : RT 122 #[intV x] (intV z)) (HA : RT 124 #[intV y] (natV d)) (HF : RT 123 #[intV z, natV d] (.tuple #[frV p e, .int .i64 c])) (hsg : decide (s < 0) = true) (w : World) :
  Calls Tryz.prog 57 #[.int .i64 a, .int .i64 b] w fun xe w' => xe = .returned (.tuple #[frV p e, .int .i64 c]) ∧ Below w.heap.size w w' := by
 have hL0 : GL w w [] := GL.start w
 replace HO := Lib.hid HO
 replace HQ := Lib.hid HQ
 replace HS := Lib.hid HS
 replace HN := Lib.hid HN
 replace HA := Lib.hid HA
 replace HF := Lib.hid HF
 obtain ⟨x1, hweq, hL0⟩ := GL.named (hL0.new rfl [.int .u64 0, .string ⟨#[]⟩, .bool false, .int .u64 0, .string ⟨#[]⟩] 36)
 go_enter Tryz.func57, Tryz.ntmps57
 go_wp2_with fail
 with_reducible refine Calls.mono (HO.out _) ?_
 rintro e x2 ⟨rfl, hb⟩
 replace hL0 := hL0.call hb
 clear hb hweq
 go_wp2_with fail
 with_reducible refine Calls.mono (HQ.out _) ?_
 rintro e x3 ⟨rfl, hb⟩
 replace hL0 := hL0.call hb
 clear hb
 obtain ⟨x4, hweq, hL0⟩ := GL.named ((hL0.new rfl [.int .u64 ((zl x : Nat) : Int), .string (zh x), .bool (zs x)] 34).new (K := x3.heap.size + 1) (szA _ _) [.int .u64 ((zl y : Nat) : Int), .string (zh y), .bool (zs y)] 34)
 have hN0 := cells_of _ 0 [] rfl (hL0.get _ _ mZ)
 simp only [zF, Nat.reduceAdd] at hN0
 go_wp2_with fail
 clear hN0
 with_reducible refine Calls.mono (HS.out _) ?_
 rintro e x5 ⟨rfl, hb⟩
 replace hL0 := hL0.call hb
 clear hb hweq
 have hN0 := cells_of _ 0 [] rfl (hL0.get _ _ (mK mZ))
 simp only [zF, Nat.reduceAdd] at hN0
 go_wp2_with fail
 clear hN0
 with_reducible refine Calls.mono (HN.out _) ?_
 rintro e x6 ⟨rfl, hb⟩
 replace hL0 := hL0.call hb
 clear hb
 have hA := hL0.fc
 simp only [zF, Nat.reduceAdd] at hA
 obtain ⟨x7, hput1, hP⟩ := GL.named (hL0.put 1 (x3.heap.size) _ rfl [.int .u64 ((zl z : Nat) : Int), .string (zh z), .bool (zs z)] rfl)
 simp only [setAll] at hput1
 simp only [List.set_cons_zero, List.set_cons_succ] at hP
 have hB1 := hP.fc
 simp only [zF, Nat.reduceAdd] at hB1
 replace hL0 := hP
 go_upto_region 4 with fail
 clear hA
 clear hput1 hB1
 obtain ⟨α, iα, F, hF1, hF2⟩ := cls x7
 have hq0 := cls_box hF1 hL0 _ _ mZ
 simp only [zC, Nat.reduceAdd] at hq0
 have hq1 := cls_box hF1 hL0 _ _ (mK mZ)
 simp only [zC, Nat.reduceAdd] at hq1
 refine region_qs 6 (C := fun w' => ∃ x, w' = F x) (by kernel_rfl) (by kernel_rfl) (cls_drew hF2) ?_
 simp only [zT]
 repeat (go_big_quiet_step (first | fail | (go_at_call 124; with_reducible exact cls_call hF1 hF2 HA.out _) | (go_at_call 123; with_reducible exact cls_call hF1 hF2 HF.out _)))
 refine wpQuiet_nil ?_
 rintro wq ⟨xq, rfl⟩
 replace hL0 := hL0.call (hF1 xq)
 clear  hq0 hq1 hF2
 generalize F xq = x8 at hL0 ⊢
 clear hF1 xq iα F α
 have hA := hL0.fc
 simp only [zF, Nat.reduceAdd] at hA
 obtain ⟨x9, hput2, hP⟩ := GL.named (hL0.put 2 (w.heap.size) _ rfl [.int .u64 ((zl p : Nat) : Int), .string (zh p), .bool (zs p), .int .u64 ((lo e : Nat) : Int), .string (hs e)] rfl)
 simp only [setAll] at hput2
 simp only [List.set_cons_zero, List.set_cons_succ] at hP
 have hB2 := hP.fc
 simp only [zF, Nat.reduceAdd] at hB2
 replace hL0 := hP
 go_wp2_with fail
 exact bodyPost_ret (v := .tuple #[frV p e, .int .i64 c]) (by simp [results, Tryz.results57, go_sem, hB2]) rfl ⟨rfl, hL0.bl⟩
theorem fof_false (x y s z p : Int) (a b : Int) (d e : Nat) (c : Int) (HO : RT 62 #[.int .i64 a] (intV x)) (HQ : RT 62 #[.int .i64 b] (intV y)) (HS : RT 121 #[intV y] (.int .i64 s)) (HA : RT 124 #[intV y] (natV d)) (HF : RT 123 #[intV x, natV d] (.tuple #[frV p e, .int .i64 c])) (hsg : decide (s < 0) = false) (w : World) :
  Calls Tryz.prog 57 #[.int .i64 a, .int .i64 b] w fun xe w' => xe = .returned (.tuple #[frV p e, .int .i64 c]) ∧ Below w.heap.size w w' := by
 have hL0 : GL w w [] := GL.start w
 replace HO := Lib.hid HO
 replace HQ := Lib.hid HQ
 replace HS := Lib.hid HS
 replace HA := Lib.hid HA
 replace HF := Lib.hid HF
 obtain ⟨x1, hweq, hL0⟩ := GL.named (hL0.new rfl [.int .u64 0, .string ⟨#[]⟩, .bool false, .int .u64 0, .string ⟨#[]⟩] 36)
 go_enter Tryz.func57, Tryz.ntmps57
 go_wp2_with fail
 with_reducible refine Calls.mono (HO.out _) ?_
 rintro e x2 ⟨rfl, hb⟩
 replace hL0 := hL0.call hb
 clear hb hweq
 go_wp2_with fail
 with_reducible refine Calls.mono (HQ.out _) ?_
 rintro e x3 ⟨rfl, hb⟩
 replace hL0 := hL0.call hb
 clear hb
 obtain ⟨x4, hweq, hL0⟩ := GL.named ((hL0.new rfl [.int .u64 ((zl x : Nat) : Int), .string (zh x), .bool (zs x)] 34).new (K := x3.heap.size + 1) (szA _ _) [.int .u64 ((zl y : Nat) : Int), .string (zh y), .bool (zs y)] 34)
 have hN0 := cells_of _ 0 [] rfl (hL0.get _ _ mZ)
 simp only [zF, Nat.reduceAdd] at hN0
 go_wp2_with fail
 clear hN0
 with_reducible refine Calls.mono (HS.out _) ?_
 rintro e x5 ⟨rfl, hb⟩
 replace hL0 := hL0.call hb
 clear hb hweq
 go_upto_region 4 with fail
 obtain ⟨α, iα, F, hF1, hF2⟩ := cls x5
 have hq0 := cls_box hF1 hL0 _ _ mZ
 simp only [zC, Nat.reduceAdd] at hq0
 have hq1 := cls_box hF1 hL0 _ _ (mK mZ)
 simp only [zC, Nat.reduceAdd] at hq1
 refine region_qs 6 (C := fun w' => ∃ x, w' = F x) (by kernel_rfl) (by kernel_rfl) (cls_drew hF2) ?_
 simp only [zT]
 repeat (go_big_quiet_step (first | fail | (go_at_call 124; with_reducible exact cls_call hF1 hF2 HA.out _) | (go_at_call 123; with_reducible exact cls_call hF1 hF2 HF.out _)))
 refine wpQuiet_nil ?_
 rintro wq ⟨xq, rfl⟩
 replace hL0 := hL0.call (hF1 xq)
 clear  hq0 hq1 hF2
 generalize F xq = x6 at hL0 ⊢
 clear hF1 xq iα F α
 have hA := hL0.fc
 simp only [zF, Nat.reduceAdd] at hA
 obtain ⟨x7, hput1, hP⟩ := GL.named (hL0.put 2 (w.heap.size) _ rfl [.int .u64 ((zl p : Nat) : Int), .string (zh p), .bool (zs p), .int .u64 ((lo e : Nat) : Int), .string (hs e)] rfl)
 simp only [setAll] at hput1
 simp only [List.set_cons_zero, List.set_cons_succ] at hP
 have hB1 := hP.fc
 simp only [zF, Nat.reduceAdd] at hB1
 replace hL0 := hP
 go_wp2_with fail
 exact bodyPost_ret (v := .tuple #[frV p e, .int .i64 c]) (by simp [results, Tryz.results57, go_sem, hB1]) rfl ⟨rfl, hL0.bl⟩
end Go.Proofs.YthffglapmkkohaaGreatDoor
namespace Go.Proofs.YthffglapmkkohaaGreatDoor
open Go.RowKit
attribute [local irreducible] lo hs sm s64 c64 d64 b64 mh ml pd pc qd qc val hiB str cmpI srD lz nb zl zh zs
theorem fmul_w (m n u v x y : Int) (d e p q g h k f : Nat) (HD : RT 66 #[frV m d] (natV p)) (HE : RT 66 #[frV n e] (natV q)) (HX : RT 65 #[intV m, natV q] (.tuple #[intV u, natV g])) (HY : RT 65 #[intV n, natV p] (.tuple #[intV v, natV h])) (HM : RT 68 #[intV u, intV v] (intV x)) (HP : RT 69 #[natV h, natV g] (natV k)) (HL : RT 67 #[intV x, natV k] (frV y f)) (w : World) :
  Calls Tryz.prog 15 #[frV m d, frV n e] w fun xe w' => xe = .returned (frV y f) ∧ Below w.heap.size w w' := by
 have hL0 : GL w w [] := GL.start w
 replace HD := Lib.hid HD
 replace HE := Lib.hid HE
 replace HX := Lib.hid HX
 replace HY := Lib.hid HY
 replace HM := Lib.hid HM
 replace HP := Lib.hid HP
 replace HL := Lib.hid HL
 obtain ⟨x1, hweq, hL0⟩ := GL.named (((hL0.new rfl [.int .u64 ((zl m : Nat) : Int), .string (zh m), .bool (zs m), .int .u64 ((lo d : Nat) : Int), .string (hs d)] 36).new (K := w.heap.size + 1) (szA _ _) [.int .u64 ((zl n : Nat) : Int), .string (zh n), .bool (zs n), .int .u64 ((lo e : Nat) : Int), .string (hs e)] 36).new (K := w.heap.size + 1 + 1) (by simp only [World.size_alloc]) [.int .u64 0, .string ⟨#[]⟩, .bool false, .int .u64 0, .string ⟨#[]⟩] 36)
 go_enter Tryz.func15, Tryz.ntmps15
 go_upto_region 1 with fail
 clear hweq
 refine region_gh (by kernel_rfl) (by kernel_rfl) ?_
 refine lex_seg (gl := []) 8 (by kernel_rfl) ?_
 intro α iα F hF1 hF2
 have hq := GL.seg hF1 hL0
 simp only [zC, Nat.reduceAdd] at hq
 simp only [zT]
 repeat (go_big_quiet_step (first | fail | (go_at_call 66; with_reducible exact seg_call hF2 HE.out _) | (go_at_call 65; with_reducible exact seg_call hF2 HX.out _)))
 refine wpQuiet_nil ?_
 clear hq hF1 hF2 iα F α
 refine lex_new [.int .u64 0, .string ⟨#[]⟩, .bool false] 5 34 34 rfl rfl (of_decide_eq_true (by kernel_rfl)) (by kernel_rfl) rfl new_int ?_
 simp only [Act.put, zP]
 refine lex_new [.int .u64 0, .string ⟨#[]⟩] 6 32 32 rfl rfl (of_decide_eq_true (by kernel_rfl)) (by kernel_rfl) rfl new_natc ?_
 simp only [Act.put, zP]
 refine lex_put [.int .u64 ((zl u : Nat) : Int), .string (zh u), .bool (zs u)] [.int .u64 0, .string ⟨#[]⟩, .bool false] 5 34 (.tmp 15) rfl (by kernel_rfl) (by simp [toG, upd]) rfl (fun w k h => put_int _ _ _ _ _ _ w k h) ?_
 simp only [Act.put]
 refine lex_put [.int .u64 ((lo g : Nat) : Int), .string (hs g)] [.int .u64 0, .string ⟨#[]⟩] 6 32 (.tmp 16) rfl (by kernel_rfl) (by simp [toG, upd]) rfl (fun w k h => put_natc _ _ _ _ w k h) ?_
 simp only [Act.put]
 refine lexG_nil ?_
 intro κ x2 hS
 replace hL0 := hL0.ghs hS [(6, [.int .u64 ((lo g : Nat) : Int), .string (hs g)]), (5, [.int .u64 ((zl u : Nat) : Int), .string (zh u), .bool (zs u)])] (by simp) (by intro p hp; simp only [List.mem_cons, List.not_mem_nil, or_false] at hp; rcases hp with rfl | rfl <;> exact ⟨_, by simp only [toG, upd]; rfl⟩)
 simp only [List.map_cons, List.map_nil, List.cons_append, List.nil_append] at hL0
 simp only [over_toG, over_nil, Act.put, zP]
 clear hS
 generalize κ 6 = k2_6 at *
 generalize κ 5 = k2_5 at *
 go_upto_region 2 with fail
 refine region_gh (by kernel_rfl) (by kernel_rfl) ?_
 refine lex_seg (gl := []) 8 (by kernel_rfl) ?_
 intro α iα F hF1 hF2
 have hq := GL.seg hF1 hL0
 simp only [zC, Nat.reduceAdd] at hq
 simp only [zT]
 repeat (go_big_quiet_step (first | fail | (go_at_call 66; with_reducible exact seg_call hF2 HD.out _) | (go_at_call 65; with_reducible exact seg_call hF2 HY.out _)))
 refine wpQuiet_nil ?_
 clear hq hF1 hF2 iα F α
 refine lex_new [.int .u64 0, .string ⟨#[]⟩, .bool false] 7 34 34 rfl rfl (of_decide_eq_true (by kernel_rfl)) (by kernel_rfl) rfl new_int ?_
 simp only [Act.put, zP]
 refine lex_new [.int .u64 0, .string ⟨#[]⟩] 8 32 32 rfl rfl (of_decide_eq_true (by kernel_rfl)) (by kernel_rfl) rfl new_natc ?_
 simp only [Act.put, zP]
 refine lex_put [.int .u64 ((zl v : Nat) : Int), .string (zh v), .bool (zs v)] [.int .u64 0, .string ⟨#[]⟩, .bool false] 7 34 (.tmp 23) rfl (by kernel_rfl) (by simp [toG, upd]) rfl (fun w k h => put_int _ _ _ _ _ _ w k h) ?_
 simp only [Act.put]
 refine lex_put [.int .u64 ((lo h : Nat) : Int), .string (hs h)] [.int .u64 0, .string ⟨#[]⟩] 8 32 (.tmp 24) rfl (by kernel_rfl) (by simp [toG, upd]) rfl (fun w k h => put_natc _ _ _ _ w k h) ?_
 simp only [Act.put]
 refine lexG_nil ?_
 intro κ x3 hS
 replace hL0 := hL0.ghs hS [(8, [.int .u64 ((lo h : Nat) : Int), .string (hs h)]), (7, [.int .u64 ((zl v : Nat) : Int), .string (zh v), .bool (zs v)])] (by simp) (by intro p hp; simp only [List.mem_cons, List.not_mem_nil, or_false] at hp; rcases hp with rfl | rfl <;> exact ⟨_, by simp only [toG, upd]; rfl⟩)
 simp only [List.map_cons, List.map_nil, List.cons_append, List.nil_append] at hL0
 simp only [over_toG, over_nil, Act.put, zP]
 clear hS
 generalize κ 8 = k3_8 at *
 generalize κ 7 = k3_7 at *
 go_upto_region 3 with fail
 obtain ⟨α, iα, F, hF1, hF2⟩ := cls x3
 have hq0 := cls_box hF1 hL0 _ _ mZ
 simp only [zC, Nat.reduceAdd] at hq0
 have hq1 := cls_box hF1 hL0 _ _ (mK mZ)
 simp only [zC, Nat.reduceAdd] at hq1
 have hq2 := cls_box hF1 hL0 _ _ (mK (mK mZ))
 simp only [zC, Nat.reduceAdd] at hq2
 have hq3 := cls_box hF1 hL0 _ _ (mK (mK (mK mZ)))
 simp only [zC, Nat.reduceAdd] at hq3
 refine region_qs 7 (C := fun w' => ∃ x, w' = F x) (by kernel_rfl) (by kernel_rfl) (cls_drew hF2) ?_
 simp only [zT]
 repeat (go_big_quiet_step (first | fail | (go_at_call 68; with_reducible exact cls_call hF1 hF2 HM.out _) | (go_at_call 69; with_reducible exact cls_call hF1 hF2 HP.out _) | (go_at_call 67; with_reducible exact cls_call hF1 hF2 HL.out _)))
 refine wpQuiet_nil ?_
 rintro wq ⟨xq, rfl⟩
 replace hL0 := hL0.call (hF1 xq)
 clear  hq0 hq1 hq2 hq3 hF2
 generalize F xq = x4 at hL0 ⊢
 clear hF1 xq iα F α
 have hA := hL0.fc
 simp only [zF, Nat.reduceAdd] at hA
 obtain ⟨x5, hput1, hP⟩ := GL.named (hL0.put 4 (w.heap.size + 1 + 1) _ rfl [.int .u64 ((zl y : Nat) : Int), .string (zh y), .bool (zs y), .int .u64 ((lo f : Nat) : Int), .string (hs f)] rfl)
 simp only [setAll] at hput1
 simp only [List.set_cons_zero, List.set_cons_succ] at hP
 have hB1 := hP.fc
 simp only [zF, Nat.reduceAdd] at hB1
 replace hL0 := hP
 go_wp2_with fail
 exact bodyPost_ret (v := frV y f) (by simp [results, Tryz.results15, go_sem, hB1]) rfl ⟨rfl, hL0.bl⟩
theorem fcombine_add (m n x y s u z : Int) (d e p0 q0 g p q r t v f : Nat) (HD : RT 66 #[frV m d] (natV p0)) (HE : RT 66 #[frV n e] (natV q0)) (HG : RT 134 #[natV p0, natV q0] (natV g)) (HP : RT 135 #[natV p0, natV g] (natV p)) (HQ : RT 135 #[natV q0, natV g] (natV q)) (HS : RT 136 #[intV m, natV q] (intV x)) (HT : RT 136 #[intV n, natV p] (intV y)) (HB : RT 64 #[intV x, intV y] (intV s)) (HC : RT 65 #[intV s, natV g] (.tuple #[intV u, natV r])) (HU : RT 69 #[natV p, natV q] (natV t)) (HV : RT 69 #[natV t, natV r] (natV v)) (HL : RT 67 #[intV u, natV v] (frV z f)) (w : World) :
  Calls Tryz.prog 63 #[frV m d, frV n e, .func (.func 64) #[] #[]] w fun xe w' => xe = .returned (frV z f) ∧ Below w.heap.size w w' := by
 have hL0 : GL w w [] := GL.start w
 replace HD := Lib.hid HD
 replace HE := Lib.hid HE
 replace HG := Lib.hid HG
 replace HP := Lib.hid HP
 replace HQ := Lib.hid HQ
 replace HS := Lib.hid HS
 replace HT := Lib.hid HT
 replace HB := Lib.hid HB
 replace HC := Lib.hid HC
 replace HU := Lib.hid HU
 replace HV := Lib.hid HV
 replace HL := Lib.hid HL
 obtain ⟨x1, hweq, hL0⟩ := GL.named (((hL0.new rfl [.int .u64 ((zl m : Nat) : Int), .string (zh m), .bool (zs m), .int .u64 ((lo d : Nat) : Int), .string (hs d)] 36).new (K := w.heap.size + 1) (szA _ _) [.int .u64 ((zl n : Nat) : Int), .string (zh n), .bool (zs n), .int .u64 ((lo e : Nat) : Int), .string (hs e)] 36).new (K := w.heap.size + 1 + 1) (by simp only [World.size_alloc]) [.int .u64 0, .string ⟨#[]⟩, .bool false, .int .u64 0, .string ⟨#[]⟩] 36)
 go_enter Tryz.func63, Tryz.ntmps63
 go_upto_region 1 with fail
 clear hweq
 refine region_gh (by kernel_rfl) (by kernel_rfl) ?_
 refine lex_seg (gl := []) 5 (by kernel_rfl) ?_
 intro α iα F hF1 hF2
 have hq := GL.seg hF1 hL0
 simp only [zC, Nat.reduceAdd] at hq
 simp only [zT]
 repeat (go_big_quiet_step (first | fail | (go_at_call 66; with_reducible exact seg_call hF2 HD.out _) | (go_at_call 66; with_reducible exact seg_call hF2 HE.out _) | (go_at_call 134; with_reducible exact seg_call hF2 HG.out _)))
 refine wpQuiet_nil ?_
 clear hq hF1 hF2 iα F α
 refine lex_new [.int .u64 0, .string ⟨#[]⟩] 7 32 32 rfl rfl (of_decide_eq_true (by kernel_rfl)) (by kernel_rfl) rfl new_natc ?_
 simp only [Act.put, zP]
 refine lex_put [.int .u64 ((lo g : Nat) : Int), .string (hs g)] [.int .u64 0, .string ⟨#[]⟩] 7 32 (.tmp 16) rfl (by kernel_rfl) (by simp [toG, upd]) rfl (fun w k h => put_natc _ _ _ _ w k h) ?_
 simp only [Act.put]
 refine lexG_nil ?_
 intro κ x2 hS
 replace hL0 := hL0.ghs hS [(7, [.int .u64 ((lo g : Nat) : Int), .string (hs g)])] (by simp) (by intro p hp; simp only [List.mem_cons, List.not_mem_nil, or_false] at hp; rcases hp with rfl <;> exact ⟨_, by simp only [toG, upd]; rfl⟩)
 simp only [List.map_cons, List.map_nil, List.cons_append, List.nil_append] at hL0
 simp only [over_toG, over_nil, Act.put, zP]
 clear hS
 generalize κ 7 = k2_7 at *
 go_upto_region 2 with fail
 refine region_gh (by kernel_rfl) (by kernel_rfl) ?_
 refine lex_seg (gl := []) 8 (by kernel_rfl) ?_
 intro α iα F hF1 hF2
 have hq := GL.seg hF1 hL0
 simp only [zC, Nat.reduceAdd] at hq
 simp only [zT]
 repeat (go_big_quiet_step (first | fail | (go_at_call 66; with_reducible exact seg_call hF2 HD.out _) | (go_at_call 135; with_reducible exact seg_call hF2 HP.out _) | (go_at_call 66; with_reducible exact seg_call hF2 HE.out _) | (go_at_call 135; with_reducible exact seg_call hF2 HQ.out _)))
 refine wpQuiet_nil ?_
 clear hq hF1 hF2 iα F α
 refine lex_new [.int .u64 0, .string ⟨#[]⟩] 8 32 32 rfl rfl (of_decide_eq_true (by kernel_rfl)) (by kernel_rfl) rfl new_natc ?_
 simp only [Act.put, zP]
 refine lex_new [.int .u64 0, .string ⟨#[]⟩] 9 32 32 rfl rfl (of_decide_eq_true (by kernel_rfl)) (by kernel_rfl) rfl new_natc ?_
 simp only [Act.put, zP]
 refine lex_put [.int .u64 ((lo p : Nat) : Int), .string (hs p)] [.int .u64 0, .string ⟨#[]⟩] 8 32 (.tmp 20) rfl (by kernel_rfl) (by simp [toG, upd]) rfl (fun w k h => put_natc _ _ _ _ w k h) ?_
 simp only [Act.put]
 refine lex_put [.int .u64 ((lo q : Nat) : Int), .string (hs q)] [.int .u64 0, .string ⟨#[]⟩] 9 32 (.tmp 24) rfl (by kernel_rfl) (by simp [toG, upd]) rfl (fun w k h => put_natc _ _ _ _ w k h) ?_
 simp only [Act.put]
 refine lexG_nil ?_
 intro κ x3 hS
 replace hL0 := hL0.ghs hS [(9, [.int .u64 ((lo q : Nat) : Int), .string (hs q)]), (8, [.int .u64 ((lo p : Nat) : Int), .string (hs p)])] (by simp) (by intro p hp; simp only [List.mem_cons, List.not_mem_nil, or_false] at hp; rcases hp with rfl | rfl <;> exact ⟨_, by simp only [toG, upd]; rfl⟩)
 simp only [List.map_cons, List.map_nil, List.cons_append, List.nil_append] at hL0
 simp only [over_toG, over_nil, Act.put, zP]
 clear hS
 generalize κ 9 = k3_9 at *
 generalize κ 8 = k3_8 at *
 go_upto_region 3 with fail
 refine region_gh (by kernel_rfl) (by kernel_rfl) ?_
 refine lex_seg (gl := []) 15 (by kernel_rfl) ?_
 intro α iα F hF1 hF2
 have hq := GL.seg hF1 hL0
 simp only [zC, Nat.reduceAdd] at hq
 simp only [zT]
 repeat (go_big_quiet_step (first | fail | (go_at_call 136; with_reducible exact seg_call hF2 HS.out _) | (go_at_call 136; with_reducible exact seg_call hF2 HT.out _) | (go_at_call 64; with_reducible exact seg_call hF2 HB.out _) | (go_at_call 65; with_reducible exact seg_call hF2 HC.out _)))
 refine wpQuiet_nil ?_
 clear hq hF1 hF2 iα F α
 refine lex_new [.int .u64 0, .string ⟨#[]⟩, .bool false] 10 34 34 rfl rfl (of_decide_eq_true (by kernel_rfl)) (by kernel_rfl) rfl new_int ?_
 simp only [Act.put, zP]
 refine lex_new [.int .u64 0, .string ⟨#[]⟩] 11 32 32 rfl rfl (of_decide_eq_true (by kernel_rfl)) (by kernel_rfl) rfl new_natc ?_
 simp only [Act.put, zP]
 refine lex_put [.int .u64 ((zl u : Nat) : Int), .string (zh u), .bool (zs u)] [.int .u64 0, .string ⟨#[]⟩, .bool false] 10 34 (.tmp 38) rfl (by kernel_rfl) (by simp [toG, upd]) rfl (fun w k h => put_int _ _ _ _ _ _ w k h) ?_
 simp only [Act.put]
 refine lex_put [.int .u64 ((lo r : Nat) : Int), .string (hs r)] [.int .u64 0, .string ⟨#[]⟩] 11 32 (.tmp 39) rfl (by kernel_rfl) (by simp [toG, upd]) rfl (fun w k h => put_natc _ _ _ _ w k h) ?_
 simp only [Act.put]
 refine lexG_nil ?_
 intro κ x4 hS
 replace hL0 := hL0.ghs hS [(11, [.int .u64 ((lo r : Nat) : Int), .string (hs r)]), (10, [.int .u64 ((zl u : Nat) : Int), .string (zh u), .bool (zs u)])] (by simp) (by intro p hp; simp only [List.mem_cons, List.not_mem_nil, or_false] at hp; rcases hp with rfl | rfl <;> exact ⟨_, by simp only [toG, upd]; rfl⟩)
 simp only [List.map_cons, List.map_nil, List.cons_append, List.nil_append] at hL0
 simp only [over_toG, over_nil, Act.put, zP]
 clear hS
 generalize κ 11 = k4_11 at *
 generalize κ 10 = k4_10 at *
 go_upto_region 4 with fail
 obtain ⟨α, iα, F, hF1, hF2⟩ := cls x4
 have hq0 := cls_box hF1 hL0 _ _ mZ
 simp only [zC, Nat.reduceAdd] at hq0
 have hq1 := cls_box hF1 hL0 _ _ (mK mZ)
 simp only [zC, Nat.reduceAdd] at hq1
 have hq2 := cls_box hF1 hL0 _ _ (mK (mK mZ))
 simp only [zC, Nat.reduceAdd] at hq2
 have hq3 := cls_box hF1 hL0 _ _ (mK (mK (mK mZ)))
 simp only [zC, Nat.reduceAdd] at hq3
 refine region_qs 7 (C := fun w' => ∃ x, w' = F x) (by kernel_rfl) (by kernel_rfl) (cls_drew hF2) ?_
 simp only [zT]
 repeat (go_big_quiet_step (first | fail | (go_at_call 69; with_reducible exact cls_call hF1 hF2 HU.out _) | (go_at_call 69; with_reducible exact cls_call hF1 hF2 HV.out _) | (go_at_call 67; with_reducible exact cls_call hF1 hF2 HL.out _)))
 refine wpQuiet_nil ?_
 rintro wq ⟨xq, rfl⟩
 replace hL0 := hL0.call (hF1 xq)
 clear  hq0 hq1 hq2 hq3 hF2
 generalize F xq = x5 at hL0 ⊢
 clear hF1 xq iα F α
 have hA := hL0.fc
 simp only [zF, Nat.reduceAdd] at hA
 obtain ⟨x6, hput1, hP⟩ := GL.named (hL0.put 5 (w.heap.size + 1 + 1) _ rfl [.int .u64 ((zl z : Nat) : Int), .string (zh z), .bool (zs z), .int .u64 ((lo f : Nat) : Int), .string (hs f)] rfl)
 simp only [setAll] at hput1
 simp only [List.set_cons_zero, List.set_cons_succ] at hP
 have hB1 := hP.fc
 simp only [zF, Nat.reduceAdd] at hB1
 replace hL0 := hP
 go_wp2_with fail
 exact bodyPost_ret (v := frV z f) (by simp [results, Tryz.results63, go_sem, hB1]) rfl ⟨rfl, hL0.bl⟩
theorem fadd_w (m n z : Int) (d e f : Nat) (HC : RT 63 #[frV m d, frV n e, .func (.func 64) #[] #[]] (frV z f)) (w : World) :
  Calls Tryz.prog 14 #[frV m d, frV n e] w fun xe w' => xe = .returned (frV z f) ∧ Below w.heap.size w w' := by
 have hL0 : GL w w [] := GL.start w
 replace HC := Lib.hid HC
 obtain ⟨x1, hweq, hL0⟩ := GL.named (((hL0.new rfl [.int .u64 ((zl m : Nat) : Int), .string (zh m), .bool (zs m), .int .u64 ((lo d : Nat) : Int), .string (hs d)] 36).new (K := w.heap.size + 1) (szA _ _) [.int .u64 ((zl n : Nat) : Int), .string (zh n), .bool (zs n), .int .u64 ((lo e : Nat) : Int), .string (hs e)] 36).new (K := w.heap.size + 1 + 1) (by simp only [World.size_alloc]) [.int .u64 0, .string ⟨#[]⟩, .bool false, .int .u64 0, .string ⟨#[]⟩] 36)
 go_enter Tryz.func14, Tryz.ntmps14
 have hN0 := cells_of _ 0 [] rfl (hL0.get _ _ (mK mZ))
 simp only [zF, Nat.reduceAdd] at hN0
 have hN1 := cells_of _ 0 [] rfl (hL0.get _ _ (mK (mK mZ)))
 simp only [zF, Nat.reduceAdd] at hN1
 go_wp2_with fail
 clear hN0 hN1
 with_reducible refine Calls.mono (HC.out _) ?_
 rintro e x2 ⟨rfl, hb⟩
 replace hL0 := hL0.call hb
 clear hb hweq
 have hA := hL0.fc
 simp only [zF, Nat.reduceAdd] at hA
 obtain ⟨x3, hput1, hP⟩ := GL.named (hL0.put 0 (w.heap.size + 1 + 1) _ rfl [.int .u64 ((zl z : Nat) : Int), .string (zh z), .bool (zs z), .int .u64 ((lo f : Nat) : Int), .string (hs f)] rfl)
 simp only [setAll] at hput1
 simp only [List.set_cons_zero, List.set_cons_succ] at hP
 have hB1 := hP.fc
 simp only [zF, Nat.reduceAdd] at hB1
 replace hL0 := hP
 go_wp2_with fail
 exact bodyPost_ret (v := frV z f) (by simp [results, Tryz.results14, go_sem, hB1]) rfl ⟨rfl, hL0.bl⟩
end Go.Proofs.YthffglapmkkohaaGreatDoor
namespace Go.Proofs.YthffglapmkkohaaGreatDoor
open Go.RowKit
attribute [local irreducible] lo hs sm s64 c64 d64 b64 mh ml pd pc qd qc val hiB str cmpI srD lz nb zl zh zs
theorem ffrom_w (n u z : Int) (d v f : Nat) (HO : RT 133 #[.int .u64 0] (natV 0)) (HC : RT 65 #[intV n, natV d] (.tuple #[intV u, natV v])) (HL : RT 67 #[intV u, natV v] (frV z f)) (hd : d ≠ 0) (w : World) :
  Calls Tryz.prog 123 #[intV n, natV d] w fun xe w' => xe = .returned (.tuple #[frV z f, .int .i64 0]) ∧ Below w.heap.size w w' := by
 have hL0 : GL w w [] := GL.start w
 replace HO := Lib.hid HO
 replace HC := Lib.hid HC
 replace HL := Lib.hid HL
 have hz := ne_nat hd
 clear hd
 rcases hz with e0 | ⟨e0, e1⟩
 all_goals (
  obtain ⟨x1, hweq, hL0⟩ := GL.named (((hL0.new rfl [.int .u64 ((zl n : Nat) : Int), .string (zh n), .bool (zs n)] 34).new (K := w.heap.size + 1) (szA _ _) [.int .u64 ((lo d : Nat) : Int), .string (hs d)] 32).new (K := w.heap.size + 1 + 1) (by simp only [World.size_alloc]) [.int .u64 0, .string ⟨#[]⟩, .bool false, .int .u64 0, .string ⟨#[]⟩] 36)
  go_enter Tryz.func123, Tryz.ntmps123
  go_upto_region 1 with fail
  clear hweq
  obtain ⟨α, iα, F, hF1, hF2⟩ := cls x1
  have hq0 := cls_box hF1 hL0 _ _ (mK mZ)
  simp only [zC, Nat.reduceAdd] at hq0
  refine region_qs 3 (C := fun w' => ∃ x, w' = F x) (by kernel_rfl) (by kernel_rfl) (cls_drew hF2) ?_
  simp only [zT]
  repeat (go_big_quiet_step (first | fail | (go_at_call 133; with_reducible exact cls_call hF1 hF2 HO.out _)))
  refine wpQuiet_nil ?_
  rintro wq ⟨xq, rfl⟩
  replace hL0 := hL0.call (hF1 xq)
  clear  hq0 hF2
  generalize F xq = x2 at hL0 ⊢
  clear hF1 xq iα F α
  have hN0 := cells_of _ 0 [] rfl (hL0.get _ _ (mK mZ))
  simp only [zF, Nat.reduceAdd] at hN0
  have hN1 := cells_of _ 0 [] rfl (hL0.get _ _ (mK (mK mZ)))
  simp only [zF, Nat.reduceAdd] at hN1
  go_wp2_with fail
  clear hN0 hN1
  with_reducible refine Calls.mono (HC.out _) ?_
  rintro e x3 ⟨rfl, hb⟩
  replace hL0 := hL0.call hb
  clear hb
  go_wp2_with fail
  with_reducible refine Calls.mono (HL.out _) ?_
  rintro e x4 ⟨rfl, hb⟩
  replace hL0 := hL0.call hb
  clear hb
  have hA := hL0.fc
  simp only [zF, Nat.reduceAdd] at hA
  obtain ⟨x5, hput1, hP⟩ := GL.named (hL0.put 0 (w.heap.size + 1 + 1) _ rfl [.int .u64 ((zl z : Nat) : Int), .string (zh z), .bool (zs z), .int .u64 ((lo f : Nat) : Int), .string (hs f)] rfl)
  simp only [setAll] at hput1
  simp only [List.set_cons_zero, List.set_cons_succ] at hP
  have hB1 := hP.fc
  simp only [zF, Nat.reduceAdd] at hB1
  replace hL0 := hP
  go_wp2_with fail
  exact bodyPost_ret (v := .tuple #[frV z f, .int .i64 0]) (by simp [results, Tryz.results123, go_sem, hB1]) rfl ⟨rfl, hL0.bl⟩)
theorem ftext_whole (n : Int) (s : ByteArray) (HW : RT 141 #[frV n 0] (.bool true)) (HT : RK Tab 162 #[intV n] (.string s)) (w : World) (htab : Tab w) :
  Calls Tryz.prog 127 #[frV n 0] w fun xe w' => xe = .returned (.string s) ∧ Below w.heap.size w w' := by
 have hL0 : GL w w [] := GL.start w
 replace HW := Lib.hid HW
 replace HT := Lib.hid HT
 obtain ⟨x1, hweq, hL0⟩ := GL.named (hL0.new rfl [.int .u64 ((zl n : Nat) : Int), .string (zh n), .bool (zs n), .int .u64 ((lo 0 : Nat) : Int), .string (hs 0)] 36)
 go_enter Tryz.func127, Tryz.ntmps127
 have hN0 := cells_of _ 0 [] rfl (hL0.get _ _ mZ)
 simp only [zF, Nat.reduceAdd] at hN0
 go_wp2_with fail
 clear hN0
 with_reducible refine Calls.mono (HW.out _) ?_
 rintro e x2 ⟨rfl, hb⟩
 replace hL0 := hL0.call hb
 clear hb hweq
 have hN0 := cells_of _ 0 [] rfl (hL0.get _ _ mZ)
 simp only [zF, Nat.reduceAdd] at hN0
 go_wp2_with fail
 clear hN0
 with_reducible refine Calls.mono (HT.out _ (htab.below hL0.bl)) ?_
 rintro e x3 ⟨rfl, hb⟩
 replace hL0 := hL0.call hb
 clear hb
 go_wp2_with fail
 exact bodyPost_ret (v := .string s) (by simp [results, Tryz.results127, go_sem]) rfl ⟨rfl, hL0.bl⟩
theorem ftext_part (n : Int) (e : Nat) (s t : ByteArray) (HW : RT 141 #[frV n e] (.bool false)) (HT : RK Tab 162 #[intV n] (.string s)) (HU : RK Tab 163 #[natV e] (.string t)) (h1 : ((s.size : Nat) : Int) ≤ 20000000) (h2 : ((t.size : Nat) : Int) ≤ 20000000) (w : World) (htab : Tab w) :
  Calls Tryz.prog 127 #[frV n e] w fun xe w' => xe = .returned (.string ((s ++ ByteArray.mk #[47]) ++ t)) ∧ Below w.heap.size w w' := by
 have hL0 : GL w w [] := GL.start w
 replace HW := Lib.hid HW
 replace HT := Lib.hid HT
 replace HU := Lib.hid HU
 obtain ⟨x1, hweq, hL0⟩ := GL.named (hL0.new rfl [.int .u64 ((zl n : Nat) : Int), .string (zh n), .bool (zs n), .int .u64 ((lo e : Nat) : Int), .string (hs e)] 36)
 go_enter Tryz.func127, Tryz.ntmps127
 have hN0 := cells_of _ 0 [] rfl (hL0.get _ _ mZ)
 simp only [zF, Nat.reduceAdd] at hN0
 go_wp2_with fail
 clear hN0
 with_reducible refine Calls.mono (HW.out _) ?_
 rintro e x2 ⟨rfl, hb⟩
 replace hL0 := hL0.call hb
 clear hb hweq
 go_upto_region 3 with fail
 have ht := htab.below hL0.bl
 obtain ⟨α, iα, F, hF1, hF2⟩ := cls x2
 have hq0 := cls_box hF1 hL0 _ _ mZ
 simp only [zC, Nat.reduceAdd] at hq0
 refine region_qs 9 (C := fun w' => ∃ x, w' = F x) (by kernel_rfl) (by kernel_rfl) (cls_drew hF2) ?_
 simp only [zT]
 repeat (go_big_quiet_step (first | fail | (go_at_call 162; with_reducible exact cls_callT hF1 hF2 ht HT.out _) | (go_at_call 163; with_reducible exact cls_callT hF1 hF2 ht HU.out _)))
 refine wpQuiet_nil ?_
 rintro wq ⟨xq, rfl⟩
 replace hL0 := hL0.call (hF1 xq)
 clear  hq0 hF2
 generalize F xq = x3 at hL0 ⊢
 clear hF1 xq iα F α
 clear ht
 go_wp2_with fail
 exact bodyPost_ret (v := .string ((s ++ ByteArray.mk #[47]) ++ t)) (by simp [results, Tryz.results127, go_sem]) rfl ⟨rfl, hL0.bl⟩
end Go.Proofs.YthffglapmkkohaaGreatDoor
namespace Go.Proofs.YthffglapmkkohaaGreatDoor
open Go.RowKit
attribute [local irreducible] lo hs sm s64 c64 d64 b64 mh ml pd pc qd qc val hiB str cmpI srD lz nb zl zh zs
theorem fe_den (q : Rat) : q.den = if fe q = 0 then 1 else fe q := by
 unfold fe
 have := q.den_nz
 split <;> simp_all
theorem frV_z (n : Int) : frV n 0 = .agg #[.int .u64 ((zl n : Nat) : Int), .string (zh n), .bool (zs n), .int .u64 0, .string ⟨#[]⟩] := by unfold frV; rw [lo_small Bs_pos, hs_small Bs_pos]; rfl
theorem fracV_int (z : Int) : fracV (z : Rat) = frV z 0 := rfl
theorem fracV_of {q : Rat} {n : Int} {d : Nat} (hn : q.num = n) (hd : q.den = d) : fracV q = frV n (if d = 1 then 0 else d) := by subst hn hd; rfl
theorem one_o (w : World) : Calls Tryz.prog 133 #[.int .u64 1] w fun e w' => e = .returned (natV 1) ∧ Below w.heap.size w w' := of_val 1 1 rfl (by unfold Bs; omega) w
theorem zero_o (w : World) : Calls Tryz.prog 133 #[.int .u64 0] w fun e w' => e = .returned (natV 0) ∧ Below w.heap.size w w' := of_val 0 0 rfl (by unfold Bs; omega) w
theorem dec_sgn (z : Int) : decide (sgn z < 0) = decide (z < 0) := by
 have : sgn z < 0 ↔ z < 0 := by unfold sgn; split <;> (try split) <;> omega
 simp only [this]
theorem whole_raw (n : Int) (e : Nat) (w : World) : Calls Tryz.prog 141 #[frV n e] w fun x w' => x = .returned (.bool (decide (e = 0))) ∧ Below w.heap.size w w' := by
 by_cases h : e = 0
 ·subst h; rw [decide_eq_true rfl]; exact whole_yes n w
 ·rw [decide_eq_false h]; exact whole_no n e h w
theorem den_raw (n : Int) (e : Nat) (w : World) : Calls Tryz.prog 66 #[frV n e] w fun x w' => x = .returned (natV (if e = 0 then 1 else e)) ∧ Below w.heap.size w w' := by
 by_cases h : e = 0
 ·subst h; rw [if_pos rfl]; exact den_one_w n (whole_yes n) one_o w
 ·rw [if_neg h]; exact den_part_w n e (whole_no n e h) w
theorem denF (q : Rat) (w : World) : Calls Tryz.prog 66 #[fracV q] w fun x w' => x = .returned (natV q.den) ∧ Below w.heap.size w w' := by
 have h := den_raw q.num (fe q) w
 rw [← fe_den] at h
 exact h
theorem lowest_raw (n : Int) (d : Nat) (w : World) : Calls Tryz.prog 67 #[intV n, natV d] w fun x w' => x = .returned (frV n (if d = 1 then 0 else d)) ∧ Below w.heap.size w w' := by
 by_cases h : d = 1
 ·subst h; rw [if_pos rfl, frV_z]; exact lowest_one n one_o w
 ·rw [if_neg h]; exact lowest_part n d one_o h w
theorem lowestF {q : Rat} {n : Int} {d : Nat} (hn : q.num = n) (hd : q.den = d) (w : World) : Calls Tryz.prog 67 #[intV n, natV d] w fun x w' => x = .returned (fracV q) ∧ Below w.heap.size w w' := by
 rw [fracV_of hn hd]; exact lowest_raw n d w
theorem pon_raw (n g : Nat) (hg : g ≠ 0) (hn : (digs n).length ≤ 100000000) (w : World) : Calls Tryz.prog 135 #[natV n, natV g] w fun x w' => x = .returned (natV (n / g)) ∧ Below w.heap.size w w' := by
 by_cases h : g = 1
 ·subst h; rw [Nat.div_one]; exact pon_one n one_o w
 ·exact pon_div n g (n / g) (n % g) one_o (fun w => div_pos n g (by omega) (by omega) w) h w
theorem tdiv_sgn (z : Int) (g : Nat) : z.tdiv (g : Int) = if decide (z < 0) then -((z.natAbs / g : Nat) : Int) else ((z.natAbs / g : Nat) : Int) := by
 by_cases h : z < 0
 ·obtain ⟨n, rfl⟩ : ∃ n : Nat, z = -(n : Int) := ⟨z.natAbs, by omega⟩
  rw [decide_eq_true h, if_pos rfl, Int.natAbs_neg, Int.natAbs_natCast, Int.neg_tdiv, ← Int.ofNat_tdiv]
 ·obtain ⟨n, rfl⟩ : ∃ n : Nat, z = (n : Int) := ⟨z.natAbs, by omega⟩
  rw [decide_eq_false h, Int.natAbs_natCast, ← Int.ofNat_tdiv]; rfl
theorem part_raw (z : Int) (g : Nat) (hg : g ≠ 0) (hz : dI z ≤ 100000000) (w : World) : Calls Tryz.prog 140 #[intV z, natV g] w fun x w' => x = .returned (intV (z.tdiv g)) ∧ Below w.heap.size w w' := by
 have hF := fun w => fromI (decide (z < 0)) (z.natAbs / g) (z.tdiv g) (tdiv_sgn z g) w
 have hs := dec_sgn z
 by_cases h : z < 0
 ·rw [decide_eq_true h] at hF hs
  exact part_true z (sgn z) _ _ g _ (signI z) (absI z) (pon_raw _ g hg hz) hF hs w
 ·rw [decide_eq_false h] at hF hs
  exact part_false z (sgn z) _ _ g _ (signI z) (absI z) (pon_raw _ g hg hz) hF hs w
theorem cancel_raw (z : Int) (d : Nat) (hd : d ≠ 0) (hz : dI z ≤ 100000000) (hl : (digs d).length ≤ 100000000) (w : World) :
  Calls Tryz.prog 65 #[intV z, natV d] w fun x w' => x = .returned (.tuple #[intV (z.tdiv (Nat.gcd z.natAbs d : Nat)), natV (d / Nat.gcd z.natAbs d)]) ∧ Below w.heap.size w w' := by
 have hg : Nat.gcd z.natAbs d ≠ 0 := fun e => hd (Nat.gcd_eq_zero_iff.1 e).2
 exact cancel_w z _ _ d _ _ (absI z) (fun w => gcd_any z.natAbs d (Nat.le_trans hz (by omega)) (by omega) w) (part_raw z _ hg hz) (pon_raw d _ hg hl) w
theorem times_raw (z : Int) (d : Nat) (hz : dI z ≤ 100000000) (hd : (digs d).length ≤ 100000000) (w : World) : Calls Tryz.prog 136 #[intV z, natV d] w fun x w' => x = .returned (intV (z * (d : Int))) ∧ Below w.heap.size w w' := by
 by_cases h : d = 1
 ·subst h; rw [show z * ((1 : Nat) : Int) = z by omega]; exact times_one z one_o w
 ·exact times_mul z (d : Int) _ d one_o (fun w => fromI false d (d : Int) rfl w) (fun w => mulI z (d : Int) (by omega) (by rw [dI_nat]; omega) w) h w
theorem intF (k : Int) (h1 : -9223372036854775808 ≤ k) (h2 : k < 9223372036854775808) (w : World) : Calls Tryz.prog 12 #[.int .i64 k] w fun x w' => x = .returned (fracV (k : Rat)) ∧ Below w.heap.size w w' := by
 rw [fracV_int, frV_z]; exact int_w k k (fun w => ofI k h1 h2 w) w
theorem fromF (z : Int) (d : Nat) (hd : d ≠ 0) (hz : dI z ≤ 100000000) (hl : (digs d).length ≤ 100000000) (w : World) : Calls Tryz.prog 123 #[intV z, natV d] w fun x w' => x = .returned (.tuple #[fracV (mkRat z d), .int .i64 0]) ∧ Below w.heap.size w w' := by
 obtain ⟨h1, h2⟩ := canc (z := z) hd
 exact ffrom_w z _ _ d _ _ zero_o (cancel_raw z d hd hz hl) (fun w => lowestF h1 h2 w) hd w
end Go.Proofs.YthffglapmkkohaaGreatDoor
namespace Go.Proofs.YthffglapmkkohaaGreatDoor
open Go.RowKit
attribute [local irreducible] lo hs sm s64 c64 d64 b64 mh ml pd pc qd qc val hiB str cmpI srD lz nb zl zh zs
theorem tdiv_dI {z : Int} {g k : Nat} (h : dI z ≤ k) : dI (z.tdiv (g : Int)) ≤ k := by
 refine Nat.le_trans (dI_mono ?_) h
 rw [Int.natAbs_tdiv]; exact Nat.div_le_self _ _
theorem ndiv_digs {n g k : Nat} (h : (digs n).length ≤ k) : (digs (n / g)).length ≤ k := Nat.le_trans (digs_mono (Nat.div_le_self _ _)) h
theorem mulF (p q : Rat) (k : Nat) (hp : Sz p k) (hq : Sz q k) (hk : k ≤ 100000000) (w : World) : Calls Tryz.prog 15 #[fracV p, fracV q] w fun x w' => x = .returned (fracV (p * q)) ∧ Below w.heap.size w w' := by
 obtain ⟨h1, h2⟩ := rmul_parts p q
 rw [Nat.mul_comm] at h2
 exact fmul_w p.num q.num _ _ _ _ (fe p) (fe q) p.den q.den _ _ _ _ (denF p) (denF q) (cancel_raw p.num q.den q.den_nz (Nat.le_trans hp.1 hk) (Nat.le_trans hq.2 hk)) (cancel_raw q.num p.den p.den_nz (Nat.le_trans hq.1 hk) (Nat.le_trans hp.2 hk))
  (fun w => mulI _ _ (Nat.le_trans (tdiv_dI hp.1) (by omega)) (Nat.le_trans (tdiv_dI hq.1) (by omega)) w) (fun w => mul_any _ _ (Nat.le_trans (ndiv_digs hp.2) (by omega)) (Nat.le_trans (ndiv_digs hq.2) (by omega)) w) (fun w => lowestF h1 h2 w) w
theorem frV_00 : frV 0 0 = .agg #[.int .u64 0, .string ⟨#[]⟩, .bool false, .int .u64 0, .string ⟨#[]⟩] := by
 rw [frV_z, (z0).1, (z0).2.1, (z0).2.2]; rfl
theorem addF (p q : Rat) (k : Nat) (hp : Sz p k) (hq : Sz q k) (hk : k ≤ 10000000) (w : World) : Calls Tryz.prog 14 #[fracV p, fracV q] w fun x w' => x = .returned (fracV (p + q)) ∧ Below w.heap.size w w' := by
 obtain ⟨h1, h2⟩ := radd_parts p q
 have hg : Nat.gcd p.den q.den ≠ 0 := fun e => p.den_nz (Nat.gcd_eq_zero_iff.1 e).1
 have l1 : (digs (p.den / Nat.gcd p.den q.den)).length ≤ k := ndiv_digs hp.2
 have l2 : (digs (q.den / Nat.gcd p.den q.den)).length ≤ k := ndiv_digs hq.2
 have l3 : (digs (Nat.gcd p.den q.den)).length ≤ k := Nat.le_trans (digs_mono (Nat.gcd_le_left _ p.den_pos)) hp.2
 have lx : dI (p.num * ((q.den / Nat.gcd p.den q.den : Nat) : Int)) ≤ k + k := dI_mul hp.1 (by rw [dI_nat]; exact l2)
 have ly : dI (q.num * ((p.den / Nat.gcd p.den q.den : Nat) : Int)) ≤ k + k := dI_mul hq.1 (by rw [dI_nat]; exact l1)
 have ls := dI_add lx ly
 refine fadd_w p.num q.num _ (fe p) (fe q) _ ?_ w
 exact fcombine_add p.num q.num _ _ _ _ _ (fe p) (fe q) p.den q.den _ _ _ _ _ _ _ (denF p) (denF q) (fun w => gcd_any _ _ (Nat.le_trans hp.2 (by omega)) (Nat.le_trans hq.2 (by omega)) w)
  (pon_raw _ _ hg (Nat.le_trans hp.2 (by omega))) (pon_raw _ _ hg (Nat.le_trans hq.2 (by omega))) (times_raw _ _ (Nat.le_trans hp.1 (by omega)) (by omega)) (times_raw _ _ (Nat.le_trans hq.1 (by omega)) (by omega))
  (fun w => addI _ _ (by omega) (by omega) w) (cancel_raw _ _ hg (by omega) (by omega)) (fun w => mul_any _ _ (by omega) (by omega) w)
  (fun w => mul_any _ _ (Nat.le_trans (digs_mul_le l1 l2) (by omega)) (Nat.le_trans (ndiv_digs l3) (by omega)) w) (fun w => lowestF h1 h2 w)
theorem of_val_q (n d : Int) (h0 : d ≠ 0) : mkRat (if d < 0 then -n else n) d.natAbs = (n : Rat) / (d : Rat) := by
 rw [Rat.mkRat_eq_div]
 by_cases h : d < 0
 ·rw [if_pos h]
  have e : ((d.natAbs : Nat) : Rat) = -(d : Rat) := by
   rw [show ((d.natAbs : Nat) : Rat) = (((d.natAbs : Nat) : Int) : Rat) from (Rat.intCast_natCast _).symm, show ((d.natAbs : Nat) : Int) = -d by omega, Rat.intCast_neg]
  rw [e, Rat.intCast_neg]
  have hd : (d : Rat) ≠ 0 := by simpa using h0
  grind
 ·rw [if_neg h, show ((d.natAbs : Nat) : Rat) = (((d.natAbs : Nat) : Int) : Rat) from (Rat.intCast_natCast _).symm, show ((d.natAbs : Nat) : Int) = d by omega]
theorem i64_dI {z : Int} (h1 : -9223372036854775808 ≤ z) (h2 : z < 9223372036854775808) : dI z ≤ 1 := digs_length_iff.2 (by unfold Bs; omega)
theorem ofF (n d : Int) (a1 : -9223372036854775808 ≤ n) (a2 : n < 9223372036854775808) (b1 : -9223372036854775808 ≤ d) (b2 : d < 9223372036854775808) (h0 : d ≠ 0) (w : World) :
  Calls Tryz.prog 57 #[.int .i64 n, .int .i64 d] w fun x w' => x = .returned (.tuple #[fracV ((n : Rat) / (d : Rat)), .int .i64 0]) ∧ Below w.heap.size w w' := by
 rw [← of_val_q n d h0]
 have hs := dec_sgn d
 have ln := i64_dI a1 a2
 have ld : (digs d.natAbs).length ≤ 1 := i64_dI b1 b2
 by_cases h : d < 0
 ·rw [decide_eq_true h] at hs
  rw [if_pos h]
  exact fof_true n d (sgn d) (-n) _ n d _ _ 0 (fun w => ofI n a1 a2 w) (fun w => ofI d b1 b2 w) (signI d) (fun w => negI n w) (absI d) (fromF (-n) d.natAbs (by omega) (by rw [dI_neg]; omega) (by omega)) hs w
 ·rw [decide_eq_false h] at hs
  rw [if_neg h]
  exact fof_false n d (sgn d) n _ n d _ _ 0 (fun w => ofI n a1 a2 w) (fun w => ofI d b1 b2 w) (signI d) (absI d) (fromF n d.natAbs (by omega) (by omega) (by omega)) hs w
end Go.Proofs.YthffglapmkkohaaGreatDoor
namespace Go.Proofs.YthffglapmkkohaaGreatDoor
open Go.RowKit
attribute [local irreducible] lo hs sm s64 c64 d64 b64 mh ml pd pc qd qc val hiB str cmpI srD lz nb zl zh zs fe
/-- A slice's fractions. -/
structure FS (w : World) (g : Nat) (qs : List Rat) : Prop where
 cell : ∀ i (h : i < qs.length), w.cell? ⟨g, i * 5, none⟩ = some (.int .u64 ((zl qs[i].num : Nat) : Int)) ∧ w.cell? ⟨g, i * 5 + 1, none⟩ = some (.string (zh qs[i].num)) ∧ w.cell? ⟨g, i * 5 + 2, none⟩ = some (.bool (zs qs[i].num)) ∧
  w.cell? ⟨g, i * 5 + 3, none⟩ = some (.int .u64 ((lo (fe qs[i]) : Nat) : Int)) ∧ w.cell? ⟨g, i * 5 + 4, none⟩ = some (.string (hs (fe qs[i])))
 lt : g < w.heap.size
theorem FS.below {w w' : World} {g : Nat} {qs : List Rat} (h : FS w g qs) (hb : Below w.heap.size w w') : FS w' g qs := by
 have hs := hb.size
 have hl := h.lt
 refine ⟨fun i hi => ?_, by omega⟩
 obtain ⟨h0, h1, h2, h3, h4⟩ := h.cell i hi
 exact ⟨(hb.cell (p := ⟨g, i * 5, none⟩) hl).trans h0, (hb.cell (p := ⟨g, i * 5 + 1, none⟩) hl).trans h1, (hb.cell (p := ⟨g, i * 5 + 2, none⟩) hl).trans h2, (hb.cell (p := ⟨g, i * 5 + 3, none⟩) hl).trans h3, (hb.cell (p := ⟨g, i * 5 + 4, none⟩) hl).trans h4⟩
def SlQ (w : World) (v : Value) (qs : List Rat) : Prop := (∃ ao c, v = .slice ao 0 c ∧ qs = []) ∨ ∃ g c, v = .slice (some ⟨g, 0, none⟩) qs.length c ∧ FS w g qs
theorem SlQ.below {w w' : World} {v : Value} {qs : List Rat} (h : SlQ w v qs) (hb : Below w.heap.size w w') : SlQ w' v qs := by
 rcases h with h | ⟨g, c, h1, h2⟩
 ·exact .inl h
 ·exact .inr ⟨g, c, h1, h2.below hb⟩
theorem SlQ.keeps (v : Value) (qs : List Rat) : Keeps (fun w => SlQ w v qs) := fun _ _ hb h => h.below hb
theorem fe_zero : fe 0 = 0 := fe_one rfl
end Go.Proofs.YthffglapmkkohaaGreatDoor
namespace Go.Proofs.YthffglapmkkohaaGreatDoor
open Go.RowKit
attribute [local irreducible] lo hs sm s64 c64 d64 b64 mh ml pd pc qd qc val hiB str cmpI srD lz nb zl zh zs fe
theorem GL.join {w x y : World} {L M : List (Nat × List Value)} (h : GL w x L) (g : GL x y M) : GL w y (M ++ L) := by
 have h2 := h.call g.bl
 refine ⟨h2.bl, fun p hp => ?_, ?_⟩
 ·rcases List.mem_append.1 hp with hp | hp
  ·exact ⟨Nat.le_trans h.bl.size (g.all p hp).1, (g.all p hp).2⟩
  ·exact h2.all p hp
 ·rw [List.map_append, List.nodup_append]
  refine ⟨g.nd, h.nd, fun a ha b hb => ?_⟩
  obtain ⟨p, hp, rfl⟩ := List.mem_map.1 ha
  obtain ⟨q, hq, rfl⟩ := List.mem_map.1 hb
  have h3 := (g.all p hp).1
  have h4 := (h.all q hq).2.lt
  omega
theorem zero_cells : ([.int .u64 ((zl ((0 : Rat)).num : Nat) : Int), .string (zh ((0 : Rat)).num), .bool (zs ((0 : Rat)).num), .int .u64 ((lo (fe (0 : Rat)) : Nat) : Int), .string (hs (fe (0 : Rat)))] : List Value) = ([.int .u64 0, .string ⟨#[]⟩, .bool false, .int .u64 0, .string ⟨#[]⟩] : List Value) := by
 rw [fe_zero, (show (0 : Rat).num = 0 from rfl), (z0).1, (z0).2.1, (z0).2.2, lo_small Bs_pos, hs_small Bs_pos]; rfl
/-- The sum, from the left. -/
def qsum (l : List Rat) : Rat := l.foldl (· + ·) 0
theorem qsum_snoc (l : List Rat) (a : Rat) : qsum (l ++ [a]) = qsum l + a := by unfold qsum; rw [List.foldl_append]; rfl
theorem qsum_sz {k : Nat} : ∀ (l : List Rat) (m : Nat) (s : Rat), Sz s m → (∀ q ∈ l, Sz q k) → Sz (l.foldl (· + ·) s) (m + l.length * (k + 1)) := by
 intro l
 induction l with
 | nil => intro m s hs _; simpa using hs
 | cons a l ih =>
  intro m s hs hl
  have h := ih (m + k + 1) (s + a) (hs.add (hl a (by simp))) (fun q hq => hl q (by simp [hq]))
  rw [List.foldl_cons, List.length_cons, Nat.succ_mul]
  exact h.mono (by omega)
theorem total_add (w0 : World) (t : Nat) (q a r : Rat) (HA : RT 14 #[fracV q, fracV a] (fracV r)) (w : World) (hL0 : GL w0 w [(t, [.int .u64 ((zl q.num : Nat) : Int), .string (zh q.num), .bool (zs q.num), .int .u64 ((lo (fe q) : Nat) : Int), .string (hs (fe q))])]) :
  Calls Tryz.prog 149 #[.pointer (some ⟨t, 0, none⟩), fracV a] w fun xe w' => xe = .returned (.tuple #[]) ∧ GL w0 w' [(t, [.int .u64 ((zl r.num : Nat) : Int), .string (zh r.num), .bool (zs r.num), .int .u64 ((lo (fe r) : Nat) : Int), .string (hs (fe r))])] := by
 replace HA := Lib.hid HA
 obtain ⟨x1, hweq, hL0⟩ := GL.named (hL0.new rfl [.int .u64 ((zl a.num : Nat) : Int), .string (zh a.num), .bool (zs a.num), .int .u64 ((lo (fe a) : Nat) : Int), .string (hs (fe a))] 36)
 go_enter Tryz.func149, Tryz.ntmps149
 go_upto_region 1 with fail
 clear hweq
 obtain ⟨α, iα, F, hF1, hF2⟩ := cls x1
 have hq0 := cls_box hF1 hL0 _ _ mZ
 simp only [zC, Nat.reduceAdd] at hq0
 have hq1 := cls_box hF1 hL0 _ _ (mK mZ)
 simp only [zC, Nat.reduceAdd] at hq1
 refine region_qs 9 (C := fun w' => ∃ x, w' = F x) (by kernel_rfl) (by kernel_rfl) (cls_drew hF2) ?_
 simp only [zT]
 repeat (go_big_quiet_step (first | fail | (go_at_call 14; with_reducible exact cls_call hF1 hF2 HA.out _)))
 refine wpQuiet_nil ?_
 rintro wq ⟨xq, rfl⟩
 replace hL0 := hL0.call (hF1 xq)
 clear  hq0 hq1 hF2
 generalize F xq = x2 at hL0 ⊢
 clear hF1 xq iα F α
 have hA := hL0.fc
 simp only [zF, Nat.reduceAdd] at hA
 obtain ⟨x3, hput1, hP⟩ := GL.named (hL0.put 1 (t) _ rfl [.int .u64 ((zl r.num : Nat) : Int), .string (zh r.num), .bool (zs r.num), .int .u64 ((lo (fe r) : Nat) : Int), .string (hs (fe r))] rfl)
 simp only [setAll] at hput1
 simp only [List.set_cons_zero, List.set_cons_succ] at hP
 have hB1 := hP.fc
 simp only [zF, Nat.reduceAdd] at hB1
 replace hL0 := hP
 go_wp2_with fail
 go_end0
 exact ⟨rfl, hL0.weak (List.Sublist.cons _ (List.Sublist.refl _))⟩
theorem each_add (w0 : World) (t : Nat) (ao : Option Addr) (n c : Nat) (qs : List Rat) (q : Rat) (hq0 : q = 0) (hn : (0 < n → ∃ g, ao = some ⟨g, 0, none⟩ ∧ FS w0 g qs) ∧ qs.length = n ∧ n ≤ 1000000)
  (HA : ∀ (q a : Rat) (i : Nat), a ∈ qs → q = qsum (qs.take i) → ∀ w, GL w0 w [(t, [.int .u64 ((zl q.num : Nat) : Int), .string (zh q.num), .bool (zs q.num), .int .u64 ((lo (fe q) : Nat) : Int), .string (hs (fe q))])] → Calls Tryz.prog 149 #[.pointer (some ⟨t, 0, none⟩), fracV a] w fun xe w' => xe = .returned (.tuple #[]) ∧ GL w0 w' [(t, [.int .u64 ((zl (q + a).num : Nat) : Int), .string (zh (q + a).num), .bool (zs (q + a).num), .int .u64 ((lo (fe (q + a)) : Nat) : Int), .string (hs (fe (q + a)))])])
  (w : World) (hL0 : GL w0 w [(t, [.int .u64 ((zl q.num : Nat) : Int), .string (zh q.num), .bool (zs q.num), .int .u64 ((lo (fe q) : Nat) : Int), .string (hs (fe q))])]) :
  Calls Tryz.prog 148 #[.slice ao n c, .func (.func 149) #[.pointer (some ⟨t, 0, none⟩)] #[]] w fun xe w' => xe = .returned (.tuple #[]) ∧ GL w0 w' [(t, [.int .u64 ((zl (qsum qs).num : Nat) : Int), .string (zh (qsum qs).num), .bool (zs (qsum qs).num), .int .u64 ((lo (fe (qsum qs)) : Nat) : Int), .string (hs (fe (qsum qs)))])] := by
 replace HA := Lib.hid HA
 have hle := hn.2.2
 have hcell := Lib.hid hn.1
 have hlen := hn.2.1
 clear hn
 go_enter Tryz.func148, Tryz.ntmps148
 have hA := hL0.fc
 simp only [zF, Nat.reduceAdd] at hA
 go_wp2_with fail
 clear hA
 go_loopw [8] (fun z wr => ∃ (i : Nat) (zi : Int) (q : Rat), i ≤ n ∧ z = .int .i64 zi ∧ zi = (i : Int) ∧ q = qsum (qs.take i) ∧ GL w0 wr [(t, [.int .u64 ((zl q.num : Nat) : Int), .string (zh q.num), .bool (zs q.num), .int .u64 ((lo (fe q) : Nat) : Int), .string (hs (fe q))])]) (fun z _ => n - (intOf z).toNat)
 case atStart => exact ⟨0, _, _, Nat.zero_le _, rfl, rfl, by rw [hq0]; rfl, hL0⟩
 case round =>
  clear hL0 hq0 q
  obtain ⟨i, zi, q, hi, rfl, hzi, hq, hL0⟩ := hrel
  rcases Nat.lt_or_ge i n with hin | hin
  ·obtain ⟨g, rfl, hfs⟩ := hcell.out (by omega)
   subst hzi
   have hf := (hfs.below hL0.bl).cell i (by omega)
   have k1 : (i : Int) < (n : Int) := by omega
   have k0 : (0 : Int) ≤ (i : Int) := Int.natCast_nonneg _
   obtain ⟨a, ha⟩ : ∃ a, a = qs[i]'(by omega) := ⟨_, rfl⟩
   rw [← ha] at hf
   have hmem : a ∈ qs := by rw [ha]; exact List.getElem_mem _
   have htk : qs.take (i + 1) = qs.take i ++ [a] := by rw [List.take_succ_eq_append_getElem (by omega), ha]
   clear ha
   obtain ⟨f0, f1, f2, f3, f4⟩ := hf
   have HA1 := Lib.hid (HA.out q a i hmem hq)
   replace htk := Lib.hid htk
   replace hq := Lib.hid hq
   clear hmem
   obtain ⟨x1, hweq, hL0⟩ := GL.named (hL0.new rfl [.int .u64 ((zl a.num : Nat) : Int), .string (zh a.num), .bool (zs a.num), .int .u64 ((lo (fe a) : Nat) : Int), .string (hs (fe a))] 36)
   have hN0 := cells_of _ 0 [] rfl (hL0.get _ _ mZ)
   simp only [zF, Nat.reduceAdd] at hN0
   go_wp2_with fail
   clear hN0
   with_reducible refine Calls.mono (HA1.out _ (hL0.weak (List.Sublist.cons _ (List.Sublist.refl _)))) ?_
   rintro e x9 ⟨rfl, hG⟩
   clear hL0 hweq f0 f1 f2 f3 f4
   go_wp2_with fail
   go_roundw
   case rel => exact ⟨i + 1, _, _, by omega, by first | rfl | go_num, by omega, by rw [htk.out, qsum_snoc, ← hq.out], hG⟩
   case measure => simp [intOf]; omega
  ·obtain rfl : i = n := by omega
   subst hzi
   have k1 : ¬ (i : Int) < (i : Int) := by omega
   have hqq := hq.trans (congrArg qsum (List.take_of_length_le (Nat.le_of_eq hlen)))
   subst hqq
   clear hq
   go_wp2_with fail
   go_end0
   exact ⟨rfl, hL0⟩
theorem sum_w (ao : Option Addr) (n c : Nat) (qs : List Rat) (hn0 : n ≤ 1000000)
  (HE : ∀ (w0 : World) (t : Nat), (0 < n → ∃ g, ao = some ⟨g, 0, none⟩ ∧ FS w0 g qs) ∧ qs.length = n ∧ n ≤ 1000000 → ∀ w, GL w0 w [(t, [.int .u64 ((zl ((0 : Rat)).num : Nat) : Int), .string (zh ((0 : Rat)).num), .bool (zs ((0 : Rat)).num), .int .u64 ((lo (fe (0 : Rat)) : Nat) : Int), .string (hs (fe (0 : Rat)))])] → Calls Tryz.prog 148 #[.slice ao n c, .func (.func 149) #[.pointer (some ⟨t, 0, none⟩)] #[]] w fun xe w' => xe = .returned (.tuple #[]) ∧ GL w0 w' [(t, [.int .u64 ((zl (qsum qs).num : Nat) : Int), .string (zh (qsum qs).num), .bool (zs (qsum qs).num), .int .u64 ((lo (fe (qsum qs)) : Nat) : Int), .string (hs (fe (qsum qs)))])])
  (w : World) (hn : (0 < n → ∃ g, ao = some ⟨g, 0, none⟩ ∧ FS w g qs) ∧ qs.length = n ∧ n ≤ 1000000) :
  Calls Tryz.prog 72 #[.slice ao n c] w fun xe w' => xe = .returned (fracV (qsum qs)) ∧ Below w.heap.size w w' := by
 have hL0 : GL w w [] := GL.start w
 generalize qsum qs = s at *
 replace HE := Lib.hid HE
 have hn2 := Lib.hid hn.2
 have hcell := Lib.hid hn.1
 clear hn
 obtain ⟨x1, hweq, hL0⟩ := GL.named (hL0.new rfl [.int .u64 0, .string ⟨#[]⟩, .bool false, .int .u64 0, .string ⟨#[]⟩] 36)
 have hG : GL x1 x1 [] := GL.start x1
 replace hG := hG.new rfl [.int .u64 0, .string ⟨#[]⟩, .bool false, .int .u64 0, .string ⟨#[]⟩] 177
 generalize hweq2 : x1.alloc (.cells #[.int .u64 0, .string ⟨#[]⟩, .bool false, .int .u64 0, .string ⟨#[]⟩] 177) = x2 at hG
 go_enter Tryz.func72, Tryz.ntmps72
 go_wp2_with fail
 rw [← zero_cells] at hG
 have hc2 : 0 < n → ∃ g, ao = some ⟨g, 0, none⟩ ∧ FS x1 g qs := fun h => by obtain ⟨g, h1, h2⟩ := hcell.out h; exact ⟨g, h1, h2.below hL0.bl⟩
 with_reducible refine Calls.mono (HE.out x1 x1.heap.size ⟨hc2, hn2.out⟩ x2 hG) ?_
 rintro e x3 ⟨rfl, hE⟩
 replace hL0 := hL0.join hE
 simp only [List.cons_append, List.nil_append] at hL0
 clear hE hG hweq hweq2 hc2 hcell hn2 HE
 generalize x1.heap.size = t at *
 have hA := hL0.fc
 simp only [zF, Nat.reduceAdd] at hA
 obtain ⟨x2, hput1, hP⟩ := GL.named (hL0.put 1 (w.heap.size) _ rfl [.int .u64 ((zl s.num : Nat) : Int), .string (zh s.num), .bool (zs s.num), .int .u64 ((lo (fe s) : Nat) : Int), .string (hs (fe s))] rfl)
 simp only [setAll] at hput1
 simp only [List.set_cons_zero, List.set_cons_succ] at hP
 have hB1 := hP.fc
 simp only [zF, Nat.reduceAdd] at hB1
 replace hL0 := hP
 go_wp2_with fail
 exact bodyPost_ret (v := fracV s) (by simp [results, Tryz.results72, go_sem, hB1]) rfl ⟨rfl, hL0.bl⟩
theorem slq_parts' {w : World} {ao : Option Addr} {n c : Nat} {qs : List Rat} (h : SlQ w (.slice ao n c) qs) (hl : qs.length ≤ 1000000) : (0 < n → ∃ g, ao = some ⟨g, 0, none⟩ ∧ FS w g qs) ∧ qs.length = n ∧ n ≤ 1000000 := by
 rcases h with ⟨ao, c, h1, rfl⟩ | ⟨g, c, h1, h2⟩
 ·simp only [Value.slice.injEq] at h1
  obtain ⟨-, rfl, -⟩ := h1
  exact ⟨fun h => absurd h (by omega), rfl, by omega⟩
 ·simp only [Value.slice.injEq] at h1
  obtain ⟨rfl, rfl, -⟩ := h1
  exact ⟨fun _ => ⟨g, rfl, h2⟩, rfl, hl⟩
end Go.Proofs.YthffglapmkkohaaGreatDoor
namespace Go.Proofs.YthffglapmkkohaaGreatDoor
open Go.RowKit
attribute [local irreducible] lo hs sm s64 c64 d64 b64 mh ml pd pc qd qc val hiB str cmpI srD lz nb zl zh zs
/-- A fraction's text. -/
def qtxt (q : Rat) : ByteArray := if q.den = 1 then ztxt q.num else ztxt q.num ++ (ByteArray.mk #[47]) ++ txt q.den
theorem ztxt_small {z : Int} {k : Nat} (hk : 0 < k) (h : dI z ≤ k) : (ztxt z).size ≤ 20 * k + 1 := by
 have h1 := txt_small (n := z.natAbs) hk h
 unfold ztxt
 split
 ·rw [ByteArray.size_append]
  have : (ByteArray.mk #[45]).size = 1 := rfl
  omega
 ·omega
theorem textF (q : Rat) (k : Nat) (hq : Sz q k) (hk : k ≤ 100000) (w : World) (htab : Tab w) : Calls Tryz.prog 127 #[fracV q] w fun x w' => x = .returned (.string (qtxt q)) ∧ Below w.heap.size w w' := by
 have hT := fun w h => textI q.num (Nat.le_trans hq.1 (by omega)) w h
 unfold qtxt
 by_cases h : q.den = 1
 ·rw [if_pos h, show fracV q = frV q.num 0 by unfold fracV; rw [fe_one h]]
  exact ftext_whole q.num _ (fun w => by have := whole_raw q.num 0 w; rwa [decide_eq_true rfl] at this) hT w htab
 ·rw [if_neg h, show fracV q = frV q.num q.den by unfold fracV; rw [fe_ne h]]
  have s1 := ztxt_small (k := 100000) (by omega) (Nat.le_trans hq.1 hk)
  have s2 := txt_small (n := q.den) (k := 100000) (by omega) (Nat.le_trans hq.2 hk)
  exact ftext_part q.num q.den _ _ (fun w => by have := whole_raw q.num q.den w; rwa [decide_eq_false q.den_nz] at this) hT (fun w h => text_any q.den (Nat.le_trans hq.2 (by omega)) w h) (by omega) (by omega) w htab
end Go.Proofs.YthffglapmkkohaaGreatDoor
namespace Go.Proofs.YthffglapmkkohaaGreatDoor
open Go.RowKit
attribute [local irreducible] lo hs sm s64 c64 d64 b64 mh ml pd pc qd qc val hiB str cmpI srD lz nb zl zh zs
theorem szc (q : Rat) (h1 : q.num.natAbs < 18446744073709551616) (h2 : q.den < 18446744073709551616) : Sz q 1 :=
 ⟨digs_length_iff.2 (by rw [Nat.pow_one]; exact h1), digs_length_iff.2 (by rw [Nat.pow_one]; exact h2)⟩
theorem frV_q0 : fracV 0 = .agg #[.int .u64 0, .string ⟨#[]⟩, .bool false, .int .u64 0, .string ⟨#[]⟩] := frV_00
/-- The variable of package bytealg that strings.Cut looks at. -/
def MaxL (w : World) : Prop := ∃ m, w.cell? ⟨2, 0, none⟩ = some (.int .i64 m)
theorem MaxL.keeps : Keeps MaxL := fun w w' hb ⟨m, h⟩ => ⟨m, by
 have hl := World.block_lt_of_cell? w _ h
 exact (hb.cell (p := ⟨2, 0, none⟩) hl).trans h⟩
end Go.Proofs.YthffglapmkkohaaGreatDoor
namespace Go.Proofs.YthffglapmkkohaaGreatDoor
/-- Every operation waits for earlier ones alone, and what comes behind it waits for it or is apart from it. -/
def fastFrom (md : Region.Mode) (ops : Array Oper) : Nat → List Oper → Bool
 | _, [] => true
 | k, o :: l => (o.after.all fun e => !Region.binds md e || decide (e.on < k)) &&
   (l.all fun oj => (oj.after.any fun e => Region.binds md e && e.on == k) || o.apart ops oj) && fastFrom md ops (k + 1) l
def fastB (md : Region.Mode) (l : List Oper) : Bool := Region.noSelect l.toArray && fastFrom md l.toArray 0 l
def preL (s n : Nat) : Array Bool := ((List.range s).map fun i => decide (i < n)).toArray
theorem preL_get (s n i : Nat) (d : Bool) : (preL s n).getD i d = if i < s then decide (i < n) else d := by
 unfold preL
 by_cases h : i < s
 ·simp [h]
 ·simp [h]
theorem preL_set (s n : Nat) : (preL s n).setIfInBounds n true = preL s (n + 1) := by
 apply Array.ext
 ·simp [preL]
 ·intro i h1 h2
  simp only [preL, List.setIfInBounds_toArray, List.getElem_toArray]
  by_cases e : n = i
  ·subst e; simp
  ·rw [List.getElem_set_ne e]
   simp only [List.getElem_map, List.getElem_range]
   by_cases h : i < n
   ·rw [decide_eq_true h, decide_eq_true (by omega)]
   ·rw [decide_eq_false h, decide_eq_false (by omega)]
theorem preL_zero (s : Nat) : preL s 0 = Array.replicate s false := by
 apply Array.ext
 ·simp [preL]
 ·intro i h1 h2; simp [preL]
theorem lexFrom_of_fast {md : Region.Mode} {ops : Array Oper} : ∀ (l : List Oper) (k : Nat), (∀ j, l[j]? = ops[k + j]?) → k + l.length = ops.size → fastFrom md ops k l = true → Region.lexFrom md ops l.length k (preL ops.size k) = true
 | [], k, hl, hs, _ => by
  have : Region.ready md ops (preL ops.size k) = [] := by
   apply List.eq_nil_iff_forall_not_mem.2
   intro j hj
   obtain ⟨h1, o, ho, -⟩ := mem_ready.1 hj
   have hj' : j < ops.size := (Array.getElem?_eq_some_iff.1 ho).1
   rw [preL_get, if_pos hj', decide_eq_true (by simp at hs; omega)] at h1
   cases h1
  simp [Region.lexFrom, this]
 | o :: l, k, hl, hs, h => by
  have h0 : ops[k]? = some o := by simpa using (hl 0).symm
  have hk : k < ops.size := (Array.getElem?_eq_some_iff.1 h0).1
  simp only [fastFrom, Bool.and_eq_true] at h
  obtain ⟨⟨hw, hf⟩, hr⟩ := h
  simp only [List.length_cons, Region.lexFrom, Bool.and_eq_true]
  refine ⟨⟨List.contains_iff_mem.2 (mem_ready.2 ⟨by rw [preL_get, if_pos hk, decide_eq_false (by omega)], o, h0, fun e he hb => ?_⟩), ?_⟩, ?_⟩
  ·have h1 := (Array.all_eq_true_iff_forall_mem.1 hw) e he
   simp only [hb, Bool.not_true, Bool.false_or, decide_eq_true_eq] at h1
   rw [preL_get, if_pos (by omega), decide_eq_true h1]
  ·simp only [Region.free, h0, List.all_eq_true, List.mem_range]
   intro j hj
   by_cases e : j = k
   ·simp [e]
   ·by_cases hjk : j < k
    ·rw [preL_get, if_pos hj, decide_eq_true hjk]; simp
    ·have h2 : l[j - k - 1]? = ops[j]? := by
      have := hl (j - k)
      rw [show k + (j - k) = j by omega] at this
      rw [← this, show j - k = (j - k - 1) + 1 by omega, List.getElem?_cons_succ]
      rfl
     rw [Array.getElem?_eq_getElem hj] at h2
     have h3 := (List.all_eq_true.1 hf) ops[j] (List.mem_of_getElem? h2)
     rw [Array.getElem?_eq_getElem hj]
     simp only [Bool.or_eq_true] at h3 ⊢
     exact .inr h3
  ·rw [preL_set]
   exact lexFrom_of_fast l (k + 1) (fun j => by have := hl (j + 1); simpa [Nat.add_assoc, Nat.add_comm 1 j] using this) (by simp at hs; omega) hr
theorem lexB_of_fast {md : Region.Mode} {l : List Oper} (h : fastB md l = true) : Region.lexB md l.toArray = true := by
 simp only [fastB, Bool.and_eq_true] at h
 simp only [Region.lexB, Bool.and_eq_true]
 refine ⟨h.1, ?_⟩
 have := lexFrom_of_fast (md := md) (ops := l.toArray) l 0 (fun j => by simp) (by simp) h.2
 rw [preL_zero] at this
 simpa using this
end Go.Proofs.YthffglapmkkohaaGreatDoor
namespace Go.Proofs.YthffglapmkkohaaGreatDoor
open Go.RowKit
attribute [local irreducible] lo hs sm s64 c64 d64 b64 mh ml pd pc qd qc val hiB str cmpI srD lz zl zh zs dval
/-- A fraction of small data. -/
def qmade (n : Int) (d : Nat) : Rat := mkRat n (if d < 1 then 1 else d)
theorem qmade_parts (n : Int) (d : Nat) : (qmade n d).num.natAbs ≤ n.natAbs ∧ (qmade n d).den ≤ (if d < 1 then 1 else d) := by
 unfold qmade
 obtain ⟨h1, h2⟩ := canc (z := n) (d := if d < 1 then 1 else d) (by split <;> omega)
 rw [h1, h2, Int.natAbs_tdiv]
 exact ⟨Nat.div_le_self _ _, Nat.div_le_self _ _⟩
theorem qmade_sz (n : Int) (d : Nat) (h1 : -9223372036854775808 ≤ n) (h2 : n < 9223372036854775808) (h3 : d < 4294967296) : Sz (qmade n d) 1 := by
 obtain ⟨e1, e2⟩ := qmade_parts n d
 exact szc _ (by omega) (by split at e2 <;> omega)
end Go.Proofs.YthffglapmkkohaaGreatDoor
namespace Go.Proofs.YthffglapmkkohaaGreatDoor
open Go.RowKit
attribute [local irreducible] lo hs sm s64 c64 d64 b64 mh ml pd pc qd qc val hiB str cmpI srD lz nb zl zh zs dval
/-- A fraction's cells; those of a list. -/
def frC (q : Rat) : List Value := [.int .u64 ((zl q.num : Nat) : Int), .string (zh q.num), .bool (zs q.num), .int .u64 ((lo (fe q) : Nat) : Int), .string (hs (fe q))]
def frCs (l : List Rat) : List Value := l.flatMap frC
theorem frC_length (q : Rat) : (frC q).length = 5 := rfl
theorem frCs_length : ∀ l : List Rat, (frCs l).length = l.length * 5
 | [] => rfl
 | q :: l => by unfold frCs; rw [List.flatMap_cons, List.length_append, frC_length, List.length_cons]; have := frCs_length l; unfold frCs at this; omega
theorem frCs_append (l m : List Rat) : frCs (l ++ m) = frCs l ++ frCs m := by unfold frCs; rw [List.flatMap_append]
theorem frCs_snoc (l : List Rat) (q : Rat) : frCs (l ++ [q]) = frCs l ++ frC q := by rw [frCs_append]; simp [frCs]
theorem frCs_get : ∀ (l : List Rat) (i j : Nat) (h : i < l.length), j < 5 → (frCs l)[i * 5 + j]? = (frC l[i])[j]?
 | q :: l, 0, j, h, hj => by
  unfold frCs
  rw [List.flatMap_cons, Nat.zero_mul, Nat.zero_add, List.getElem?_append_left (by rw [frC_length]; exact hj)]; rfl
 | q :: l, i + 1, j, h, hj => by
  have hi : i < l.length := by simpa using h
  have ih := frCs_get l i j hi hj
  unfold frCs at ih ⊢
  rw [List.flatMap_cons, List.getElem?_append_right (by rw [frC_length]; omega), frC_length, show (i + 1) * 5 + j - 5 = i * 5 + j by omega, ih]
  rfl
theorem frC_one : ∀ (q : Rat), ∀ u ∈ frC q, u.oneCell' = true := by
 intro q u hu
 unfold frC at hu
 simp only [List.mem_cons, List.not_mem_nil, or_false] at hu
 rcases hu with rfl | rfl | rfl | rfl | rfl <;> rfl
theorem add0 (g j : Nat) : (⟨g, 0, none⟩ : Addr).add j = ⟨g, j, none⟩ := by
 unfold Addr.add
 by_cases h : j = 0
 ·subst h; simp
 ·simp [h]
theorem own_cells {w : World} {B n : Nat} {v : Value} {l : List Rat} {g : Nat} {c : Nat} (h : w.ownsRow B 36 5 v n (frCs l)) (hv : v = .slice (some ⟨g, 0, none⟩) n c) (j : Nat) (u : Value) (hu : (frCs l)[j]? = some u) : w.cell? ⟨g, j, none⟩ = some u := by
 have := World.ownsRow.cells h (g := g) (by rw [hv]; rfl) j u hu
 rw [add0] at this
 exact this
theorem own_fs {w : World} {B n g c : Nat} {v : Value} {l : List Rat} (h : w.ownsRow B 36 5 v n (frCs l)) (hv : v = .slice (some ⟨g, 0, none⟩) n c) : FS w g l := by
 have hc := own_cells h hv
 refine ⟨fun i hi => ?_, (h.lt g (by rw [hv]; rfl)).2⟩
 have e := fun j hj => frCs_get l i j hi hj
 exact ⟨hc _ _ (by have := e 0 (by omega); rw [Nat.add_zero] at this; exact this), hc _ _ (e 1 (by omega)), hc _ _ (e 2 (by omega)), hc _ _ (e 3 (by omega)), hc _ _ (e 4 (by omega))⟩
theorem own_slq {w : World} {B n : Nat} {v : Value} {l : List Rat} (h : w.ownsRow B 36 5 v n (frCs l)) (hn : n = l.length) : SlQ w v l := by
 rcases h.2 with ⟨h1, h2⟩ | ⟨g, cap, cur, h1, h2, h3, h4, h5, h6, h7⟩
 ·exact .inl ⟨none, 0, h1, List.eq_nil_of_length_eq_zero (by omega)⟩
 ·exact .inr ⟨g, cap, by rw [h1, hn], own_fs h h1⟩
theorem own_below {w w' : World} {B n : Nat} {v : Value} {l : List Rat} (h : w.ownsRow B 36 5 v n (frCs l)) (hb : Below w.heap.size w w') : w'.ownsRow B 36 5 v n (frCs l) := by
 refine ⟨h.1, ?_⟩
 rcases h.2 with h1 | ⟨g, cap, cur, h1, h2, h3, h4⟩
 ·exact .inl h1
 ·refine .inr ⟨g, cap, cur, h1, h2, ?_, h4⟩
  have hg := (h.lt g (by rw [h1]; rfl)).2
  rw [hb.block g hg]; exact h3
end Go.Proofs.YthffglapmkkohaaGreatDoor
namespace Go.Proofs.YthffglapmkkohaaGreatDoor
open Go.RowKit
def tabV (n : Nat) (f : Nat → Rat) : List Rat := (List.range n).map f
def gv (l : List Rat) (i : Nat) : Rat := l.getD i 0
theorem tabV_len (n : Nat) (f : Nat → Rat) : (tabV n f).length = n := by unfold tabV; rw [List.length_map, List.length_range]
theorem tabV_get {n : Nat} {f : Nat → Rat} {i : Nat} (h : i < (tabV n f).length) : (tabV n f)[i]'h = f i := by simp only [tabV, List.getElem_map, List.getElem_range]
theorem gv_get {l : List Rat} {i : Nat} (h : i < l.length) : gv l i = l[i]'h := by unfold gv; rw [List.getD_eq_getElem?_getD, List.getElem?_eq_getElem h]; rfl
theorem gv_tab {n : Nat} {f : Nat → Rat} {i : Nat} (h : i < n) : gv (tabV n f) i = f i := by rw [gv_get (by rw [tabV_len]; exact h), tabV_get]
theorem tab_gv (l : List Rat) : tabV l.length (gv l) = l := by
 apply List.ext_getElem (tabV_len _ _)
 intro i h1 h2
 rw [tabV_get, gv_get h2]
theorem tab_gv' {l : List Rat} {n : Nat} (h : l.length = n) : tabV n (gv l) = l := by subst h; exact tab_gv l
theorem tab_ext {n : Nat} {f g : Nat → Rat} (h : ∀ i, i < n → f i = g i) : tabV n f = tabV n g := by
 unfold tabV
 exact List.map_congr_left fun i hi => h i (List.mem_range.1 hi)
theorem tab_mem {n : Nat} {f : Nat → Rat} {q : Rat} (h : q ∈ tabV n f) : ∃ i, i < n ∧ q = f i := by
 obtain ⟨i, hi, e⟩ := List.mem_map.1 h
 exact ⟨i, List.mem_range.1 hi, e.symm⟩
theorem tabV_succ (n : Nat) (f : Nat → Rat) : tabV (n + 1) f = tabV n f ++ [f n] := by unfold tabV; rw [List.range_succ, List.map_append]; rfl
theorem tabV_zero (f : Nat → Rat) : tabV 0 f = [] := rfl
theorem tab_all {n : Nat} {f : Nat → Rat} {P : Rat → Prop} (h : ∀ i, i < n → P (f i)) : ∀ q ∈ tabV n f, P q := fun q hq => by
 obtain ⟨i, hi, rfl⟩ := tab_mem hq; exact h i hi
/-- A finite sum. -/
def bsV : Nat → (Nat → Rat) → Rat
 | 0, _ => 0
 | n + 1, f => bsV n f + f n
theorem qsum_tab (n : Nat) (f : Nat → Rat) : qsum (tabV n f) = bsV n f := by
 induction n with
 | zero => rfl
 | succ n ih => rw [tabV_succ, qsum_snoc, ih]; rfl
theorem bs_congr {n : Nat} {f g : Nat → Rat} (h : ∀ i, i < n → f i = g i) : bsV n f = bsV n g := by
 induction n with
 | zero => rfl
 | succ n ih => show bsV n f + f n = bsV n g + g n; rw [ih fun i hi => h i (by omega), h n (by omega)]
theorem bs_add (n : Nat) (f g : Nat → Rat) : bsV n (fun i => f i + g i) = bsV n f + bsV n g := by
 induction n with
 | zero => show (0 : Rat) = 0 + 0; grind
 | succ n ih => show bsV n (fun i => f i + g i) + (f n + g n) = bsV n f + f n + (bsV n g + g n); rw [ih]; grind
theorem bs_mul (n : Nat) (c : Rat) (f : Nat → Rat) : bsV n (fun i => c * f i) = c * bsV n f := by
 induction n with
 | zero => show (0 : Rat) = c * 0; grind
 | succ n ih => show bsV n (fun i => c * f i) + c * f n = c * (bsV n f + f n); rw [ih]; grind
theorem bs_zero (n : Nat) : bsV n (fun _ => 0) = 0 := by
 induction n with
 | zero => rfl
 | succ n ih => show bsV n (fun _ => 0) + 0 = 0; rw [ih]; grind
theorem gv_mem {l : List Rat} {i : Nat} (h : i < l.length) : gv l i ∈ l := by rw [gv_get h]; exact List.getElem_mem h
/-- Sizes. -/
theorem bs_sz {n : Nat} {f : Nat → Rat} {k : Nat} (hf : ∀ i, i < n → Sz (f i) k) : Sz (bsV n f) (n * (k + 1) + 1) := by
 rw [← qsum_tab]
 have h := qsum_sz (k := k) (tabV n f) 1 0 (szc 0 (by decide) (by decide)) (tab_all hf)
 rw [tabV_len] at h
 exact h.mono (by omega)
end Go.Proofs.YthffglapmkkohaaGreatDoor
namespace Go.Proofs.YthffglapmkkohaaGreatDoor
open Go.RowKit
section
variable {P : Program} {ops : Array Oper} {C : World → Prop}
/-- What an operation does: its value has the property in the world that it leaves. -/
def tyUpon (P : Program) (w : World) (T : Value → World → Prop) : Result Next → Prop
 | .ok (.value u) w' => Below w.heap.size w w' ∧ T u w'
 | .ok .skip w' => Below w.heap.size w w' ∧ T undef w'
 | .ok (.enter f args) w' => w' = w ∧ Calls P f args w (fun e w'' => ∃ u, e = .returned u ∧ T u w'' ∧ Below w.heap.size w w'')
 | _ => False
def TyAt (P : Program) (ops : Array Oper) (o : Oper) (a : Act) (w : World) (T : Value → World → Prop) : Prop :=
 if Region.wanted o (yielded ops a.tmps) then tyUpon P w T ((execOp a.eval o).run P w) else T undef w
theorem tyAt_none {o : Oper} {a : Act} {w : World} {T : Value → World → Prop} (hg : o.guard = none) (h : tyUpon P w T ((execOp a.eval o).run P w)) : TyAt P ops o a w T := by
 unfold TyAt
 rw [if_pos (by unfold Region.wanted; rw [hg])]
 exact h
/-- A call whose contract gives the property. -/
theorem ty_call {o : Oper} {a : Act} {w : World} {T : Value → World → Prop} {f : FuncId} {args : Array Value} (hr : (execOp a.eval o).run P w = .ok (.enter f args) w) (h : Calls P f args w fun e w'' => ∃ u, e = .returned u ∧ T u w'' ∧ Below w.heap.size w w'') : tyUpon P w T ((execOp a.eval o).run P w) := by
 rw [hr]; exact ⟨rfl, h⟩
/-- The frame with the values of the operations that have come up. -/
def putsIf : List Oper → Nat → (Nat → Bool) → (Nat → Value) → Act → Act
 | [], _, _, _, a => a
 | o :: l, k, b, v, a => putsIf l (k + 1) b v (if b k then a.put o.dst (v k) else a)
def putsV : List Oper → Nat → (Nat → Value) → Act → Act
 | [], _, _, a => a
 | o :: l, k, v, a => putsV l (k + 1) v (a.put o.dst (v k))
theorem putsIf_all {v : Nat → Value} {b : Nat → Bool} : ∀ (l : List Oper) (k : Nat) (a : Act), (∀ i, k ≤ i → i < k + l.length → b i = true) → putsIf l k b v a = putsV l k v a
 | [], _, _, _ => rfl
 | o :: l, k, a, h => by
  rw [putsIf, putsV, if_pos (h k (Nat.le_refl k) (by rw [List.length_cons]; omega))]
  exact putsIf_all l (k + 1) _ fun i h1 h2 => h i (by omega) (by rw [List.length_cons]; omega)
theorem putsIf_none {v : Nat → Value} {b : Nat → Bool} : ∀ (l : List Oper) (k : Nat) (a : Act), (∀ i, k ≤ i → i < k + l.length → b i = false) → putsIf l k b v a = a
 | [], _, _, _ => rfl
 | o :: l, k, a, h => by
  rw [putsIf, if_neg (by rw [h k (Nat.le_refl k) (by rw [List.length_cons]; omega)]; exact Bool.false_ne_true)]
  exact putsIf_none l (k + 1) _ fun i h1 h2 => h i (by omega) (by rw [List.length_cons]; omega)
theorem putsIf_congr {v v' : Nat → Value} {b b' : Nat → Bool} : ∀ (l : List Oper) (k : Nat) (a : Act), (∀ i, k ≤ i → i < k + l.length → b i = b' i ∧ (b i = true → v i = v' i)) → putsIf l k b v a = putsIf l k b' v' a
 | [], _, _, _ => rfl
 | o :: l, k, a, h => by
  obtain ⟨h1, h2⟩ := h k (Nat.le_refl k) (by rw [List.length_cons]; omega)
  rw [putsIf, putsIf]
  have e : (if b k = true then a.put o.dst (v k) else a) = (if b' k = true then a.put o.dst (v' k) else a) := by
   rw [← h1]
   by_cases hb : b k = true
   ·rw [if_pos hb, if_pos hb, h2 hb]
   ·rw [if_neg hb, if_neg hb]
  rw [e]
  exact putsIf_congr l (k + 1) _ fun i h1 h2 => h i (by omega) (by rw [List.length_cons]; omega)
/-- No two of them write one slot. -/
def apartD (d : Option Tmp) (l : List Oper) : Bool := l.all fun o => match d, o.dst with
 | some x, some y => !(x == y)
 | _, _ => true
def nodupD : List Oper → Bool
 | [] => true
 | o :: l => apartD o.dst l && nodupD l
theorem apartD_spec {d : Option Tmp} {l : List Oper} (h : apartD d l = true) {o : Oper} (ho : o ∈ l) {x : Tmp} (hx : d = some x) : o.dst ≠ some x := by
 intro e
 have := (List.all_eq_true.1 h) o ho
 subst hx
 simp only [e] at this
 simp at this
theorem put_late {v : Nat → Value} {b : Nat → Bool} {d : Option Tmp} {u : Value} : ∀ (l : List Oper) (k : Nat) (a : Act), apartD d l = true → putsIf l k b v (a.put d u) = (putsIf l k b v a).put d u
 | [], _, _, _ => rfl
 | o :: l, k, a, h => by
  have h0 := h
  simp only [apartD, List.all_cons, Bool.and_eq_true] at h
  rw [putsIf, putsIf]
  by_cases hb : b k = true
  ·rw [if_pos hb, if_pos hb]
   have : (a.put d u).put o.dst (v k) = (a.put o.dst (v k)).put d u := by
    cases d with
    | none => rfl
    | some x =>
     cases ho : o.dst with
     | none => rfl
     | some y =>
      have hne : y ≠ x := fun e => apartD_spec h0 List.mem_cons_self rfl (by rw [ho, e])
      exact Act.put_comm a u (v k) (fun d hd e => hne (Option.some.inj (e.trans hd.symm)))
   rw [this]
   exact put_late l (k + 1) _ h.2
  ·rw [if_neg hb, if_neg hb]; exact put_late l (k + 1) _ h.2
theorem put_at {v v' : Nat → Value} {b b' : Nat → Bool} {j : Nat} {u : Value} (hb : b j = false) (hb' : b' j = true) (hv : v' j = u) (hbb : ∀ i, i ≠ j → b' i = b i ∧ v' i = v i) :
  ∀ (l : List Oper) (k : Nat) (a : Act) (o : Oper), nodupD l = true → k ≤ j → l[j - k]? = some o → (putsIf l k b v a).put o.dst u = putsIf l k b' v' a
 | [], _, _, _, _, _, h => by simp at h
 | o1 :: l, k, a, o, hn, hk, h => by
  simp only [nodupD, Bool.and_eq_true] at hn
  rw [putsIf, putsIf]
  by_cases e : j = k
  ·subst e
   simp only [Nat.sub_self, List.getElem?_cons_zero, Option.some.injEq] at h
   subst h
   rw [if_neg (by rw [hb]; exact Bool.false_ne_true), if_pos hb', hv, ← put_late l (j + 1) a hn.1]
   exact putsIf_congr l (j + 1) _ fun i h1 h2 => ⟨(hbb i (by omega)).1.symm, fun _ => (hbb i (by omega)).2.symm⟩
  ·have hk' : k + 1 ≤ j := by omega
   rw [show j - k = (j - (k + 1)) + 1 by omega, List.getElem?_cons_succ] at h
   obtain ⟨h1, h2⟩ := hbb k (fun e' => e e'.symm)
   rw [h1, h2]
   exact put_at hb hb' hv hbb l (k + 1) _ o hn.2 hk' h
theorem put_get (a : Act) (d : Option Tmp) (u : Value) (t : Nat) : (a.put d u).tmps[t]? = if d = some t then (if t < a.tmps.size then some u else none) else a.tmps[t]? := by
 cases d with
 | none => simp [Act.put]
 | some x =>
  simp only [Act.put, Array.getElem?_setIfInBounds, Option.some.injEq]
  by_cases h : x = t
  ·subst h; simp
  ·simp [h]
theorem get_puts {v : Nat → Value} {b : Nat → Bool} {t : Nat} : ∀ (l : List Oper) (k : Nat) (a a' : Act), a.tmps[t]? = a'.tmps[t]? → (∀ i o, l[i]? = some o → o.dst = some t → b (k + i) = true) → (putsIf l k b v a).tmps[t]? = (putsV l k v a').tmps[t]?
 | [], _, _, _, h, _ => h
 | o :: l, k, a, a', h, hd => by
  rw [putsIf, putsV]
  refine get_puts l (k + 1) _ _ ?_ fun i o' ho' hd' => by have := hd (i + 1) o' (by simpa using ho') hd'; rwa [show k + (i + 1) = k + 1 + i by omega] at this
  have hsz : t < a.tmps.size ↔ t < a'.tmps.size := by
   constructor <;> intro h1
   ·rw [Array.getElem?_eq_getElem h1] at h; exact (Array.getElem?_eq_some_iff.1 h.symm).1
   ·rw [Array.getElem?_eq_getElem h1] at h; exact (Array.getElem?_eq_some_iff.1 h).1
  by_cases e : o.dst = some t
  ·have hb := hd 0 o (by simp) e
   rw [Nat.add_zero] at hb
   rw [if_pos hb, put_get, put_get, if_pos e, if_pos e]
   by_cases h2 : t < a.tmps.size
   ·rw [if_pos h2, if_pos (hsz.1 h2)]
   ·rw [if_neg h2, if_neg fun h3 => h2 (hsz.2 h3)]
  ·by_cases hb : b k = true
   ·rw [if_pos hb, put_get, put_get, if_neg e, if_neg e]; exact h
   ·rw [if_neg hb, put_get, if_neg e]; exact h
theorem wanted_same {a a' : Act} {o : Oper} (h : ∀ t ∈ o.looksAt ops, a.tmps[t]? = a'.tmps[t]?) : Region.wanted o (yielded ops a.tmps) = Region.wanted o (yielded ops a'.tmps) := by
 unfold Region.wanted
 cases hg : o.guard with
 | none => rfl
 | some gw =>
  obtain ⟨gg, want⟩ := gw
  have hy : yielded ops a.tmps gg = yielded ops a'.tmps gg := by
   unfold yielded
   cases ht : (ops[gg]?).bind (·.dst) with
   | none => rfl
   | some t =>
    have := h t (List.mem_append_right _ (by simp [hg, ht]))
    simp [this]
  simp only [hy]
theorem exec_same {a a' : Act} {o : Oper} (hs : ∀ cs b, o.op ≠ .select cs b) (h : ∀ t ∈ o.looksAt ops, a.tmps[t]? = a'.tmps[t]?) : execOp a.eval o = execOp a'.eval o :=
 execOp_congr o hs fun x hx => by
  cases x with
  | tmp t =>
   have ht : t ∈ o.looksAt ops := List.mem_append_left _ (List.mem_filterMap.2 ⟨_, by simpa using hx, rfl⟩)
   simp only [Act.eval, Array.getD_eq_getD_getElem?, h t ht]
  | _ => rfl
/-- Each of the first n waits for earlier ones alone, and for each of them that writes a slot that it looks at. -/
def depB (ops : Array Oper) (n : Nat) : Bool :=
 (List.range n).all fun j => (predsOf .any ops j).all (fun i => decide (i < j)) && match ops[j]? with
  | some o => (o.looksAt ops).all fun t => (List.range n).all fun i => match (ops[i]?).bind (·.dst) with
    | some d => !(d == t) || (predsOf .any ops j).contains i
    | none => true
  | none => true
theorem depB_pred {n j i : Nat} (h : depB ops n = true) (hj : j < n) (hi : i ∈ predsOf .any ops j) : i < j := by
 simp only [depB, List.all_eq_true, List.mem_range, Bool.and_eq_true, decide_eq_true_eq] at h
 exact (h j hj).1 i hi
theorem depB_looks {n j i : Nat} (h : depB ops n = true) (hj : j < n) (hi : i < n) {o o' : Oper} (ho : ops[j]? = some o) (ho' : ops[i]? = some o') {t : Tmp} (ht : t ∈ o.looksAt ops) (hd : o'.dst = some t) : i ∈ predsOf .any ops j := by
 simp only [depB, List.all_eq_true, List.mem_range, Bool.and_eq_true, decide_eq_true_eq] at h
 have h1 := (h j hj).2
 rw [ho] at h1
 simp only [List.all_eq_true, List.mem_range] at h1
 have h2 := h1 t ht i hi
 rw [ho'] at h2
 simp only [Option.bind_some, hd, beq_self_eq_true, Bool.not_true, Bool.false_or] at h2
 exact List.contains_iff_mem.1 h2
/-- A property that later worlds keep. -/
def Stays (T : Value → World → Prop) : Prop := ∀ v w w', Below w.heap.size w w' → T v w → T v w'
/-- How many of the first n have not come up. -/
def left (n : Nat) (listed : Array Bool) : Nat := (List.range n).countP fun i => !listed.getD i false
theorem left_zero {n : Nat} {listed : Array Bool} (h : left n listed = 0) : doneN n listed = true := by
 refine doneN_iff.2 fun i hi => ?_
 have := (List.countP_eq_zero.1 h) i (List.mem_range.2 hi)
 simpa using this
theorem left_some {n m : Nat} {listed : Array Bool} (h : left n listed = m + 1) : doneN n listed = false := by
 refine Bool.eq_false_iff.2 fun hd => ?_
 have : left n listed = 0 := List.countP_eq_zero.2 fun i hi => by simp [doneN_iff.1 hd i (List.mem_range.1 hi)]
 omega
theorem countP_drop {p q : Nat → Bool} {j : Nat} (hpq : ∀ i, i ≠ j → q i = p i) (hp : p j = true) (hq : q j = false) : ∀ (r : List Nat), r.Nodup → j ∈ r → r.countP p = r.countP q + 1
 | [], _, h => by cases h
 | x :: r, hn, h => by
  rw [List.nodup_cons] at hn
  rcases List.mem_cons.1 h with rfl | h
  ·rw [List.countP_cons_of_pos hp, List.countP_cons_of_neg (by rw [hq]; exact Bool.false_ne_true)]
   congr 1
   refine List.countP_congr fun i hi => ?_
   rw [hpq i (fun e => hn.1 (e ▸ hi))]
  ·have hx : x ≠ j := fun e => hn.1 (e ▸ h)
   have ih := countP_drop hpq hp hq r hn.2 h
   by_cases hpx : p x = true
   ·rw [List.countP_cons_of_pos hpx, List.countP_cons_of_pos (by rw [hpq x hx]; exact hpx), ih]
   ·rw [List.countP_cons_of_neg hpx, List.countP_cons_of_neg (by rw [hpq x hx]; exact hpx), ih]
theorem left_set {n j m : Nat} {listed : Array Bool} (hs : listed.size = ops.size) (hj : j < n) (hjs : j < ops.size) (hu : listed.getD j false = false) (h : left n listed = m + 1) : left n (listed.setIfInBounds j true) = m := by
 have := countP_drop (p := fun i => !listed.getD i false) (q := fun i => !(listed.setIfInBounds j true).getD i false) (j := j) (fun i hi => by simp only [getD_set_ne false (fun e => hi e.symm)]) (by simp [hu]) (by simp [hs, hjs]) (List.range n) List.nodup_range (List.mem_range.2 hj)
 unfold left at h ⊢
 omega
theorem ready_some {n m : Nat} {listed : Array Bool} (hs : listed.size = ops.size) (hn : n ≤ ops.size) (hD : depB ops n = true) (h : left n listed = m + 1) : Region.ready .any ops listed ≠ [] := by
  have hnd := left_some h
  have ex : ∃ i, i < n ∧ listed.getD i false = false := Classical.byContradiction fun hc => by
    have : doneN n listed = true := doneN_iff.2 fun i hi => by
      cases hv : listed.getD i false with
      | true => rfl
      | false => exact absurd ⟨i, hi, hv⟩ hc
    rw [this] at hnd; cases hnd
  have key : ∀ k i, i ≤ k → i < n → listed.getD i false = false → ∃ i, i ∈ Region.ready .any ops listed := by
    intro k
    induction k with
    | zero =>
      intro i hi h1 h2
      obtain rfl : i = 0 := by omega
      have ho : 0 < ops.size := by omega
      refine ⟨0, mem_ready.2 ⟨by have h3 : 0 < listed.size := by omega
                                 simpa [h3] using h2, ops[0], Array.getElem?_eq_getElem ho, fun e he hb => ?_⟩⟩
      have : e.on ∈ predsOf .any ops 0 := by
        unfold predsOf; rw [Array.getElem?_eq_getElem ho]
        exact List.mem_map.2 ⟨e, List.mem_filter.2 ⟨by simpa using he, hb⟩, rfl⟩
      have := depB_pred hD h1 this
      omega
    | succ k ih =>
      intro i hi h1 h2
      have ho : i < ops.size := by omega
      by_cases hall : ∀ p ∈ predsOf .any ops i, listed.getD p false = true
      · refine ⟨i, mem_ready.2 ⟨by have h3 : i < listed.size := by omega
                                   simpa [h3] using h2, ops[i], Array.getElem?_eq_getElem ho, fun e he hb => hall _ ?_⟩⟩
        unfold predsOf; rw [Array.getElem?_eq_getElem ho]
        exact List.mem_map.2 ⟨e, List.mem_filter.2 ⟨by simpa using he, hb⟩, rfl⟩
      · have : ∃ p, p ∈ predsOf .any ops i ∧ listed.getD p false = false := Classical.byContradiction fun hc => hall fun p hp => by
          cases hv : listed.getD p false with
          | true => rfl
          | false => exact absurd ⟨p, hp, hv⟩ hc
        obtain ⟨p, hp, hv⟩ := this
        have := depB_pred hD h1 hp
        exact ih p (by omega) (by omega) hv
  obtain ⟨i, h1, h2⟩ := ex
  obtain ⟨i, hi⟩ := key i i (Nat.le_refl _) h1 h2
  exact List.ne_nil_of_mem hi
theorem preds_of_ready {j : Nat} {listed : Array Bool} (hj : j ∈ Region.ready .any ops listed) : ∀ p ∈ predsOf .any ops j, listed.getD p false = true := by
 obtain ⟨-, o, ho, hall⟩ := mem_ready.1 hj
 intro p hp
 unfold predsOf at hp
 simp only [ho, List.mem_map, List.mem_filter] at hp
 obtain ⟨e, ⟨he, hb⟩, rfl⟩ := hp
 exact hall e (by simpa using he) hb
theorem wpAny_ty {n s : Nat} {l : List Oper} {T : Nat → Value → World → Prop} {w0 : World} {a0 : Act} {Q : Exit → Act → World → Prop} (hT : ∀ i, Stays (T i)) (hsel : Region.noSelect l.toArray = true) (hn : n ≤ l.length)
  (hB : barB .any l.toArray n = true) (hN : nodupD (l.take n) = true) (hD : depB l.toArray n = true)
  (hops : ∀ j o, j < n → l[j]? = some o → ∀ v w, Below w0.heap.size w0 w → (∀ p ∈ predsOf .any l.toArray j, T p (v p) w) → TyAt P l.toArray o (putsV (l.take n) 0 v a0) w (T j))
  (hend : ∀ v w, Below w0.heap.size w0 w → (∀ i, i < n → T i (v i) w) → wpAny P .any l.toArray Q s (canonL l.length n) (putsV (l.take n) 0 v a0) w) :
  ∀ (m : Nat) (listed : Array Bool) (v : Nat → Value) (w : World), left n listed = m → closedL .any l.toArray listed → sufL n l.toArray listed → Below w0.heap.size w0 w →
   (∀ i, i < n → listed.getD i false = true → T i (v i) w) → wpAny P .any l.toArray Q (s + m) listed (putsIf (l.take n) 0 (fun i => listed.getD i false) v a0) w := by
 intro m
 have hlen : (l.take n).length = n := by rw [List.length_take]; omega
 induction m with
 | zero =>
  intro listed v w hl hc hu hb ht
  have hd := left_zero hl
  rw [putsIf_all (l.take n) 0 a0 fun i _ h2 => doneN_iff.1 hd i (by omega)]
  have e := canon_of hu hd
  rw [show l.toArray.size = l.length by simp] at e
  rw [e]
  exact hend v w hb fun i hi => ht i hi (doneN_iff.1 hd i hi)
 | succ m ih =>
  intro listed v w hl hc hu hb ht
  have hnd := left_some hl
  refine ⟨fun h0 => absurd h0 (ready_some hu.1 (by simpa using hn) hD hl), fun j hj => ?_⟩
  have hjn := bar hB hc hj hnd
  obtain ⟨hju, o, ho, -⟩ := mem_ready.1 hj
  have hpre := preds_of_ready hj
  have hol : l[j]? = some o := by simpa using ho
  have hjs : j < l.toArray.size := (Array.getElem?_eq_some_iff.1 ho).1
  have hty := hops j o hjn hol v w hb fun p hp => ht p (by have := depB_pred hD hjn hp; omega) (hpre p hp)
  have hag : ∀ t ∈ o.looksAt l.toArray, (putsIf (l.take n) 0 (fun i => listed.getD i false) v a0).tmps[t]? = (putsV (l.take n) 0 v a0).tmps[t]? := fun t ht' =>
   get_puts (l.take n) 0 a0 a0 rfl fun i o' ho' hd' => by
    have hin : i < n := by rw [← hlen]; exact (List.getElem?_eq_some_iff.1 ho').1
    have ho2 : l.toArray[i]? = some o' := by rw [List.getElem?_take, if_pos hin] at ho'; simpa using ho'
    rw [Nat.zero_add]
    exact hpre i (depB_looks hD hjn hin ho ho2 ht' hd')
  have step : ∀ u w', Below w.heap.size w w' → T j u w' → wpAny P .any l.toArray Q (s + m) (listed.setIfInBounds j true) ((putsIf (l.take n) 0 (fun i => listed.getD i false) v a0).put o.dst u) w' := by
   intro u w' hw' hu'
   have e := put_at (v := v) (v' := fun i => if i = j then u else v i) (b := fun i => listed.getD i false) (b' := fun i => (listed.setIfInBounds j true).getD i false) (j := j) (u := u) (unl hju) (by simp [hu.1]; simpa using hjs) (by simp)
    (fun i hi => ⟨getD_set_ne false fun e => hi e.symm, by simp [hi]⟩) (l.take n) 0 a0 o hN (Nat.zero_le _) (by rw [Nat.sub_zero, List.getElem?_take, if_pos hjn]; exact hol)
   rw [e]
   refine ih _ _ w' (left_set (ops := l.toArray) hu.1 hjn hjs (unl hju) hl) (hc.set hj) ⟨by simpa using hu.1, fun k hk hks => by rw [getD_set_ne true (by omega)]; exact hu.2 k hk hks⟩ (hb.trans (hw'.mono hb.size)) fun i hi hli => ?_
   by_cases e : i = j
   ·subst e; simpa using hu'
   ·rw [getD_set_ne false fun e' => e e'.symm] at hli
    simp only [if_neg e]
    exact hT i _ _ _ hw' (ht i hi hli)
  unfold wpOp
  simp only [ho]
  unfold TyAt at hty
  rw [← wanted_same hag] at hty
  by_cases hw : Region.wanted o (yielded l.toArray (putsIf (l.take n) 0 (fun i => listed.getD i false) v a0).tmps) = true
  ·simp only [hw, if_true] at hty ⊢
   refine .inl ?_
   unfold Oper.wp
   rw [exec_same (fun cs b => Region.noSelect_spec hsel j o cs b ho) hag]
   generalize (execOp (putsV (l.take n) 0 v a0).eval o).run P w = r at *
   cases r with
   | ok nx w' =>
    cases nx <;> simp only [tyUpon] at hty <;> simp only [Oper.upon]
    case value u => exact step u w' hty.1 hty.2
    case skip => exact step undef w' hty.1 hty.2
    case enter f args =>
     obtain ⟨rfl, hcall⟩ := hty
     exact hcall.mono fun e w'' ⟨u, he, h1, h2⟩ => by subst he; exact step u w'' h2 h1
   | halt x w' => simp only [tyUpon] at hty
  ·simp only [hw] at hty ⊢
   exact step undef w (Below.refl _ _) hty
def tyB (n : Nat) (l : List Oper) : Bool :=
 Region.noSelect l.toArray && decide (n ≤ l.length) && barB .any l.toArray n && nodupD (l.take n) && depB l.toArray n && seqB .any l.toArray (l.length - n) n (canonL l.length n)
/-- **A region whose first n operations each give a value of a property; then the others, in their order.** -/
theorem region_ty (n : Nat) (T : Nat → Value → World → Prop) {id : Nat} {Q : Exit → Act → World → Prop} {a : Act} {w : World} {l : List Oper} (hm : P.follows .mixedOrders = true) (hB : tyB n l = true) (hT : ∀ i, Stays (T i))
  (hops : ∀ j o, j < n → l[j]? = some o → ∀ v w1, Below w.drew.heap.size w.drew w1 → (∀ p ∈ predsOf .any l.toArray j, T p (v p) w1) → TyAt P l.toArray o (putsV (l.take n) 0 v a) w1 (T j))
  (hend : ∀ v w1, Below w.drew.heap.size w.drew w1 → (∀ i, i < n → T i (v i) w1) → wpList P l.toArray Q (l.drop n) (putsV (l.take n) 0 v a) w1) : (Code.region id l.toArray true).wp P Q a w := by
 simp only [tyB, Bool.and_eq_true, decide_eq_true_eq] at hB
 obtain ⟨⟨⟨⟨⟨hs, hn⟩, hb⟩, hN⟩, hD⟩, hq⟩ := hB
 refine wp_region_any hm ?_
 have hrep : ∀ i, (Array.replicate l.length false).getD i false = false := fun i => by
  rcases Nat.lt_or_ge i l.length with h' | h' <;> simp [h']
 have h0 : closedL .any l.toArray (Array.replicate l.length false) := fun j o _ hl => by rw [hrep] at hl; cases hl
 have hleft : left n (Array.replicate l.length false) = n := by
  unfold left
  rw [List.countP_eq_length.2 fun i _ => by rw [hrep]; rfl, List.length_range]
 have h2 := wpAny_ty (P := P) (s := l.length - n) (Q := Q) (a0 := a) hT hs hn hb hN hD hops (fun v w1 h1 h2 => by
   have h3 := wpAny_of_seq (md := .any) (P := P) (Q' := Q) (l.drop n) n (canonL l.length n) (putsV (l.take n) 0 v a) w1 (fun j hj => by simp [List.getElem?_drop]) (by rw [List.length_drop]; exact hq) (hend v w1 h1 h2)
   rw [List.length_drop] at h3
   exact h3) n (Array.replicate l.length false) (fun _ => undef) w.drew hleft h0 ⟨by simp, fun j _ hj => by simp at hj; simp [hj]⟩ (Below.refl _ _) (fun i _ hl => by rw [hrep] at hl; cases hl)
 rw [putsIf_none (l.take n) 0 a fun i _ _ => hrep i, Nat.sub_add_cancel hn] at h2
 simpa using h2
theorem stays_nil : ∀ i : Nat, Stays (([] : List (Value → World → Prop)).getD i (fun _ _ => True)) := fun i => by simp [Stays]
theorem stays_cons {T : Value → World → Prop} {L : List (Value → World → Prop)} (h : Stays T) (hL : ∀ i : Nat, Stays (L.getD i (fun _ _ => True))) : ∀ i : Nat, Stays ((T :: L).getD i (fun _ _ => True))
 | 0 => h
 | i + 1 => by simpa using hL i
theorem stays_eq (c : Value) : Stays (fun u _ => u = c) := fun _ _ _ _ h => h
/-- The operations, one obligation each. -/
def hopsR (P : Program) (ops : Array Oper) (T : Nat → Value → World → Prop) (w0 : World) (F : (Nat → Value) → Act) : List Oper → Nat → Prop
 | [], _ => True
 | o :: l, k => (∀ v w1, Below w0.heap.size w0 w1 → (∀ p ∈ predsOf .any ops k, T p (v p) w1) → TyAt P ops o (F v) w1 (T k)) ∧ hopsR P ops T w0 F l (k + 1)
theorem hops_of {T : Nat → Value → World → Prop} {w0 : World} {F : (Nat → Value) → Act} : ∀ (l : List Oper) (k : Nat), hopsR P ops T w0 F l k → ∀ j o, l[j]? = some o → ∀ v w1, Below w0.heap.size w0 w1 → (∀ p ∈ predsOf .any ops (k + j), T p (v p) w1) → TyAt P ops o (F v) w1 (T (k + j))
 | [], _, _, j, o, h => by simp at h
 | o' :: l, k, hh, 0, o, h => by
  simp only [List.getElem?_cons_zero, Option.some.injEq] at h
  subst h; exact hh.1
 | o' :: l, k, hh, j + 1, o, h => by
  have := hops_of l (k + 1) hh.2 j o (by simpa using h)
  rwa [show k + 1 + j = k + (j + 1) by omega] at this
/-- region_ty, with its properties as a list. -/
theorem region_tl (n : Nat) (L : List (Value → World → Prop)) {id : Nat} {Q : Exit → Act → World → Prop} {a : Act} {w : World} {l : List Oper} (hm : P.follows .mixedOrders = true) (hB : tyB n l = true) (hT : ∀ i, Stays (L.getD i (fun _ _ => True)))
  (hops : hopsR P l.toArray (fun i => L.getD i (fun _ _ => True)) w.drew (fun v => putsV (l.take n) 0 v a) (l.take n) 0)
  (hend : ∀ v w1, Below w.drew.heap.size w.drew w1 → (∀ i, i < n → L.getD i (fun _ _ => True) (v i) w1) → wpList P l.toArray Q (l.drop n) (putsV (l.take n) 0 v a) w1) : (Code.region id l.toArray true).wp P Q a w :=
 region_ty n (fun i => L.getD i (fun _ _ => True)) hm hB hT (fun j o hj ho v w1 hb hp => by
  have := hops_of (l.take n) 0 hops j o (by rw [List.getElem?_take, if_pos hj]; exact ho) v w1 hb (by rw [Nat.zero_add]; exact hp)
  rwa [Nat.zero_add] at this) hend
end
end Go.Proofs.YthffglapmkkohaaGreatDoor
namespace Go.Proofs.YthffglapmkkohaaGreatDoor
open Go.RowKit
attribute [local irreducible] lo hs sm s64 c64 d64 b64 mh ml pd pc qd qc val hiB str cmpI srD lz nb zl zh zs fe
def setCells (c : List Value) : Nat → List Value → List Value
 | _, [] => c
 | i, v :: vs => setCells (c.set i v) (i + 1) vs
theorem setAll_hdn {k : Nat} : ∀ (c : List Value) (o : Nat) (W : World) (c0 : List Value), o + c.length ≤ c0.length → Hd W k c0 → Hd (setAll W k o c) k (setCells c0 o c)
 | [], _, _, _, _, h => h
 | v :: vs, o, W, c0, hl, h => setAll_hdn vs (o + 1) _ (c0.set o v) (by rw [List.length_set]; rw [List.length_cons] at hl; omega) (hd_set h o v (by rw [List.length_cons] at hl; omega))
theorem GL.putn {w0 W : World} {L : List (Nat × List Value)} (h : GL w0 W L) (i k : Nat) (c0 : List Value) (hi : L[i]? = some (k, c0)) (o : Nat) (c : List Value) (hc : o + c.length ≤ c0.length) :
  GL w0 (setAll W k o c) (L.set i (k, setCells c0 o c)) := by
 have hu := setAll_upd k c o W
 obtain ⟨hil, he⟩ := List.getElem?_eq_some_iff.1 hi
 have hm : (k, c0) ∈ L := he ▸ List.getElem_mem hil
 have hk := h.all _ hm
 have hd := setAll_hdn c o W c0 hc hk.2
 have hmap : (L.set i (k, setCells c0 o c)).map (·.1) = L.map (·.1) := by
  rw [List.map_set]
  apply List.ext_getElem?
  intro j
  by_cases e : i = j
  ·subst e
   rw [List.getElem?_set_self (by simpa using hil), List.getElem?_map, hi]; rfl
  ·rw [List.getElem?_set_ne e]
 refine ⟨h.bl.trans (hu.below hk.1), fun p hp => ?_, by rw [hmap]; exact h.nd⟩
 obtain ⟨j, hj, hpj⟩ := List.getElem_of_mem hp
 by_cases e : i = j
 ·subst e
  rw [List.getElem_set_self] at hpj
  subst hpj
  exact ⟨hk.1, hd⟩
 ·rw [List.getElem_set_ne e] at hpj
  rw [List.length_set] at hj
  have hp' : p ∈ L := hpj ▸ List.getElem_mem hj
  have hne : p.1 ≠ k := fun e2 => by
   have h1 : (L.map (·.1))[i]? = some k := by rw [List.getElem?_map, hi]; rfl
   have h2 : (L.map (·.1))[j]? = some k := by rw [List.getElem?_map, List.getElem?_eq_getElem hj, hpj]; simp [e2]
   exact e ((List.getElem?_inj (by simpa using hil) h.nd).1 (h1.trans h2.symm))
  exact ⟨(h.all p hp').1, hu.hd hne (h.all p hp').2⟩
theorem setCells_app : ∀ (c p r : List Value) (o : Nat), setCells (p ++ r) (p.length + o) c = p ++ setCells r o c
 | [], _, _, _ => rfl
 | v :: c, p, r, o => by
  show setCells ((p ++ r).set (p.length + o) v) (p.length + o + 1) c = p ++ setCells (r.set o v) (o + 1) c
  rw [List.set_append_right _ _ (Nat.le_add_right _ _), Nat.add_sub_cancel_left, Nat.add_assoc, setCells_app c p (r.set o v) (o + 1)]
theorem setF_frC : ∀ (L : List Rat) (i : Nat) (q : Rat), i < L.length → setCells (frCs L) (i * 5) (frC q) = frCs (L.set i q)
 | x :: L, 0, q, _ => by
  show setCells (frC x ++ frCs L) 0 (frC q) = frC q ++ frCs L
  rfl
 | x :: L, i + 1, q, h => by
  have ih := setF_frC L i q (by simpa using h)
  have e := setCells_app (frC q) (frC x) (frCs L) (i * 5)
  rw [frC_length] at e
  show setCells (frC x ++ frCs L) ((i + 1) * 5) (frC q) = frC x ++ frCs (L.set i q)
  rw [show (i + 1) * 5 = 5 + i * 5 by omega, e, ih]
theorem frCs_at : ∀ (L : List Rat) (i j : Nat) (h : i < L.length), j < 5 → (frCs L)[i * 5 + j]? = (frC (L[i]'h))[j]?
 | x :: L, 0, j, _, hj => by
  show (frC x ++ frCs L)[0 * 5 + j]? = _
  rw [Nat.zero_mul, Nat.zero_add, List.getElem?_append_left (by rw [frC_length]; exact hj)]; rfl
 | x :: L, i + 1, j, h, hj => by
  have ih := frCs_at L i j (by simpa using h) hj
  show (frC x ++ frCs L)[(i + 1) * 5 + j]? = _
  rw [List.getElem?_append_right (by rw [frC_length]; omega), frC_length, show (i + 1) * 5 + j - 5 = i * 5 + j by omega, ih]; rfl
theorem hd_fs {w : World} {g : Nat} {L : List Rat} (h : Hd w g (frCs L)) : FS w g L := by
 refine ⟨fun i hi => ?_, h.lt⟩
 have key : ∀ (j : Nat) (v : Value), j < 5 → (frC (L[i]'hi))[j]? = some v → w.cell? ⟨g, i * 5 + j, none⟩ = some v := fun j v hj hv => by
  rw [← frCs_at L i j hi hj] at hv
  obtain ⟨h1, h2⟩ := List.getElem?_eq_some_iff.1 hv
  rw [h.cell _ h1, h2]
 exact ⟨key 0 _ (by decide) rfl, key 1 _ (by decide) rfl, key 2 _ (by decide) rfl, key 3 _ (by decide) rfl, key 4 _ (by decide) rfl⟩
/-- A store into a row of fractions. -/
theorem GL.putF {w0 W : World} {L : List (Nat × List Value)} (h : GL w0 W L) (i k : Nat) (l : List Rat) (hi : L[i]? = some (k, frCs l)) (o : Nat) (q : Rat) (ho : o < l.length) :
  GL w0 (((((W.setCell ⟨k, o * 5, none⟩ (.int .u64 ((zl q.num : Nat) : Int))).setCell ⟨k, o * 5 + 1, none⟩ (.string (zh q.num))).setCell ⟨k, o * 5 + 2, none⟩ (.bool (zs q.num))).setCell ⟨k, o * 5 + 3, none⟩ (.int .u64 ((lo (fe q) : Nat) : Int))).setCell ⟨k, o * 5 + 4, none⟩ (.string (hs (fe q)))) (L.set i (k, frCs (l.set o q))) := by
 have hp := h.putn i k (frCs l) hi (o * 5) (frC q) (by rw [frCs_length, frC_length]; omega)
 rw [setF_frC l o q ho] at hp
 exact hp
theorem infoFr : (Tryz.prog.info? 36).map (fun i => (i.zero, i.size, i.bytes)) = some (some (.agg #[.int .u64 0, .string ⟨#[]⟩, .bool false, .int .u64 0, .string ⟨#[]⟩]), 5, 56) := by kernel_rfl
theorem frC_zero : frC 0 = [.int .u64 0, .string ⟨#[]⟩, .bool false, .int .u64 0, .string ⟨#[]⟩] := by
 have h := frV_q0
 simpa [fracV, frC] using h
theorem made_zerosF : ∀ (n : Nat), madeCells (Value.cells (.agg #[.int .u64 0, .string ⟨#[]⟩, .bool false, .int .u64 0, .string ⟨#[]⟩])) (n * 5) = (frCs (List.replicate n 0)).toArray := by
 intro n
 apply Array.ext_getElem?
 intro i
 have hc : Value.cells (.agg #[.int .u64 0, .string ⟨#[]⟩, .bool false, .int .u64 0, .string ⟨#[]⟩]) = #[.int .u64 0, .string ⟨#[]⟩, .bool false, .int .u64 0, .string ⟨#[]⟩] := rfl
 have e2 : (frCs (List.replicate n 0)).toArray[i]? = (frCs (List.replicate n 0))[i]? := by simp
 rcases Nat.lt_or_ge i (n * 5) with h | h
 ·have hl : i / 5 < (List.replicate n (0 : Rat)).length := by rw [List.length_replicate]; omega
  have e := frCs_at (List.replicate n 0) (i / 5) (i % 5) hl (Nat.mod_lt _ (by decide))
  rw [show i / 5 * 5 + i % 5 = i by omega, List.getElem_replicate, frC_zero] at e
  rw [e2, e, hc]
  simp only [madeCells, Array.getElem?_map, Array.getElem?_range, h, if_true, Option.map_some]
  have h5 := Nat.mod_lt i (show 0 < 5 by decide)
  have hi5 : i % 5 = 0 ∨ i % 5 = 1 ∨ i % 5 = 2 ∨ i % 5 = 3 ∨ i % 5 = 4 := by omega
  show some (_ : Value) = _
  rcases hi5 with h | h | h | h | h <;> (show some (#[_, _, _, _, _][i % 5]!) = _) <;> rw [h] <;> rfl
 ·rw [Array.getElem?_eq_none (by rw [size_madeCells]; exact h), e2, List.getElem?_eq_none (by rw [frCs_length, List.length_replicate]; exact h)]
theorem add0H (g j : Nat) : (⟨g, 0, none⟩ : Addr).add j = ⟨g, j, none⟩ := by
 unfold Addr.add
 by_cases h : j = 0
 ·subst h; simp
 ·simp [h]
theorem hd_newsH {w : World} {k : Nat} {c : List Value} (h : Hd w k c) : ∀ (j : Nat) (u : Value), c[j]? = some u → w.cell? ((⟨k, 0, none⟩ : Addr).add j) = some u := by
 intro j u hu
 obtain ⟨hj, he⟩ := List.getElem?_eq_some_iff.1 hu
 rw [add0H, h.cell j hj, he]
theorem gl_grown {w0 W W' : World} {L : List (Nat × List Value)} (h : GL w0 W L) {row : Option Nat} (hg : W.grownBy W' row) (hr : ∀ j, row = some j → w0.heap.size ≤ j ∧ ∀ p ∈ L, p.1 ≠ j) : GL w0 W' L := by
 refine ⟨h.bl.grown hg h.bl.size (fun j hj => (hr j hj).1), fun p hp => ⟨(h.all p hp).1, ?_⟩, h.nd⟩
 have hd := (h.all p hp).2
 have hbl := hg.block p.1 hd.lt (fun e => (hr p.1 e.symm).2 p hp rfl)
 refine ⟨fun i hi => (World.cell?_of_block (a := ⟨p.1, i, none⟩) hbl).trans (hd.cell i hi), fun i => ?_, Nat.lt_of_lt_of_le hd.lt hg.size, ?_⟩
 ·have := hd.frz i
  unfold World.frozen? at this ⊢
  simp only at this ⊢
  rw [hbl]; exact this
 ·obtain ⟨arr, t, h1, h2⟩ := hd.row
  exact ⟨arr, t, by rw [hbl]; exact h1, h2⟩
theorem slq_pos {w : World} {ao : Option Addr} {n c : Nat} {l : List Rat} (h : SlQ w (.slice ao n c) l) (h0 : 0 < l.length) : ∃ g, ao = some ⟨g, 0, none⟩ ∧ n = l.length ∧ FS w g l := by
 rcases h with ⟨a, c2, e, rfl⟩ | ⟨g, c2, e, hf⟩
 ·exact absurd h0 (Nat.lt_irrefl _)
 ·simp only [Value.slice.injEq] at e
  obtain ⟨rfl, rfl, -⟩ := e
  exact ⟨g, rfl, rfl, hf⟩
theorem makeV (w : World) (c : Int) (n : Nat) (hc : c = n) (h : n ≤ 1000000) :
  (Instr.makeSlice 28 (.int .i64 c) (.int .i64 c)).run Tryz.prog w = .ok (.slice (some ⟨w.heap.size, 0, none⟩) n n) (w.alloc (.cells (frCs (List.replicate n 0)).toArray 36)) := by
 subst hc
 obtain ⟨i, hi, hz, h1, h2⟩ := info_parts infoFr
 have := run_make (P := Tryz.prog) w 28 36 i _ Tryz.underlying28 hi hz .i64 .i64 (n : Int) (n : Int) (by omega) (Int.le_refl _) (by rw [h2]; omega) (by omega)
 rw [this, h1]
 simp only [Int.toNat_natCast]
 rw [made_zerosF]
/-- A vector that is being filled: the first k elements are f's. -/
def rowV (f : Nat → Rat) (n k : Nat) : List Rat := tabV k f ++ List.replicate (n - k) 0
theorem rowV_len (f : Nat → Rat) (n k : Nat) (h : k ≤ n) : (rowV f n k).length = n := by unfold rowV; simp [tabV_len]; omega
theorem rowV_zero (f : Nat → Rat) (n : Nat) : rowV f n 0 = List.replicate n 0 := by unfold rowV; simp [tabV_zero]
theorem rowV_end (f : Nat → Rat) (n : Nat) : rowV f n n = tabV n f := by unfold rowV; simp
theorem rowV_step (f : Nat → Rat) (n k : Nat) (h : k < n) : (rowV f n k).set k (f k) = rowV f n (k + 1) := by
 unfold rowV
 obtain ⟨m, hm⟩ : ∃ m, n - k = m + 1 := ⟨n - k - 1, by omega⟩
 rw [hm, show n - (k + 1) = m by omega, List.set_append_right _ _ (by rw [tabV_len]; omega), tabV_succ, tabV_len]
 simp [List.replicate_succ]
theorem rep_tab (n : Nat) : List.replicate n (0 : Rat) = tabV n fun _ => 0 := by
 apply List.ext_getElem (by rw [tabV_len, List.length_replicate])
 intro i h1 h2
 rw [tabV_get, List.getElem_replicate]
/-- A vector that a call has made. -/
def NV (B : Nat) (l : List Rat) (v : Value) (w : World) : Prop := ∃ g, v = .slice (some ⟨g, 0, none⟩) l.length l.length ∧ B ≤ g ∧ Hd w g (frCs l)
theorem NV.below {B : Nat} {l : List Rat} {v : Value} {w w' : World} (h : NV B l v w) (hb : Below w.heap.size w w') : NV B l v w' := by
 obtain ⟨g, h1, h2, h3⟩ := h
 exact ⟨g, h1, h2, h3.below hb⟩
theorem NV.slq {B : Nat} {l : List Rat} {v : Value} {w : World} (h : NV B l v w) : SlQ w v l := by
 obtain ⟨g, h1, h2, h3⟩ := h
 exact .inr ⟨g, _, h1, hd_fs h3⟩
theorem NV.mono {B C : Nat} {l : List Rat} {v : Value} {w : World} (h : NV B l v w) (hc : C ≤ B) : NV C l v w := by
 obtain ⟨g, h1, h2, h3⟩ := h
 exact ⟨g, h1, Nat.le_trans hc h2, h3⟩
/-- A slice of vectors. -/
def VLs (w : World) (v : Value) (L : List (List Rat)) : Prop := ∃ ao c g, v = .slice ao L.length c ∧ (0 < L.length → ao = some ⟨g, 0, none⟩ ∧ g < w.heap.size) ∧ ∀ i (h : i < L.length), ∃ u, w.cell? ⟨g, i, none⟩ = some u ∧ SlQ w u (L[i]'h)
theorem VLs.below {w w' : World} {v : Value} {L : List (List Rat)} (h : VLs w v L) (hb : Below w.heap.size w w') : VLs w' v L := by
 obtain ⟨ao, c, g, h1, h2, h3⟩ := h
 refine ⟨ao, c, g, h1, fun h => ⟨(h2 h).1, Nat.lt_of_lt_of_le (h2 h).2 hb.size⟩, fun i hi => ?_⟩
 obtain ⟨u, h4, h5⟩ := h3 i hi
 exact ⟨u, (hb.cell (p := ⟨g, i, none⟩) (h2 (by omega)).2).trans h4, h5.below hb⟩
theorem VLs.keeps (v : Value) (L : List (List Rat)) : Keeps (fun w => VLs w v L) := fun _ _ hb h => h.below hb
theorem VLs.nil (w : World) (ao : Option Addr) (c : Nat) : VLs w (.slice ao 0 c) [] := ⟨ao, c, 0, rfl, fun h => absurd h (Nat.lt_irrefl _), fun i h => absurd h (Nat.not_lt_zero _)⟩
theorem slq_len {w : World} {v : Value} {l : List Rat} (h : SlQ w v l) : ∃ ao c, v = .slice ao l.length c ∧ (0 < l.length → ∃ g, ao = some ⟨g, 0, none⟩ ∧ FS w g l) := by
 rcases h with ⟨ao, c, h1, h2⟩ | ⟨g, c, h1, h2⟩
 ·subst h2; exact ⟨ao, c, h1, fun h => by simp at h⟩
 ·exact ⟨_, c, h1, fun _ => ⟨g, rfl, h2⟩⟩
end Go.Proofs.YthffglapmkkohaaGreatDoor
namespace Go.Proofs.YthffglapmkkohaaGreatDoor.Rx
open Go.RowKit
/-- The number that digits spell. -/
def tv : List Nat → Nat
 | [] => 0
 | d :: l => d + 10000 * tv l
theorem tv_nil : tv [] = 0 := rfl
/-- The digits of a number. -/
def td (n : Nat) : List Nat := if h : n = 0 then [] else n % 10000 :: td (n / 10000)
theorem td_zero : td 0 = [] := by rw [td, dif_pos rfl]
theorem td_pos {n : Nat} (h : n ≠ 0) : td n = n % 10000 :: td (n / 10000) := by rw [td, dif_neg h]
theorem td_lt (n : Nat) : ∀ d ∈ td n, d < 10000 := by
 induction n using Nat.strongRecOn with
 | _ n ih =>
  by_cases h : n = 0
  ·rw [h, td_zero]; intro d hd; cases hd
  ·rw [td_pos h]
   intro d hd
   rcases List.mem_cons.1 hd with rfl | hd
   ·omega
   ·exact ih (n / 10000) (by omega) d hd
theorem td_nil {n : Nat} : td n = [] ↔ n = 0 := by
 by_cases h : n = 0
 ·rw [h, td_zero]; simp
 ·rw [td_pos h]; simp [h]
theorem tv_append (l m : List Nat) : tv (l ++ m) = tv l + 10000 ^ l.length * tv m := by
 induction l with
 | nil => simp [tv]
 | cons d l ih => rw [List.cons_append, tv, ih, tv, List.length_cons, Nat.pow_succ, Nat.mul_add, Nat.mul_comm _ 10000, Nat.mul_assoc]; omega
theorem tv_lt {l : List Nat} (h : ∀ d ∈ l, d < 10000) : tv l < 10000 ^ l.length := by
 induction l with
 | nil => exact Nat.one_pos
 | cons d l ih =>
  have h1 := ih fun x hx => h x (List.mem_cons_of_mem _ hx)
  have h2 := h d List.mem_cons_self
  rw [tv, List.length_cons, Nat.pow_succ]
  omega
theorem tv_zeros (k : Nat) : tv (List.replicate k 0) = 0 := by
 induction k with
 | zero => rfl
 | succ k ih => rw [List.replicate_succ, tv, ih]
theorem td_length {n k : Nat} : (td n).length ≤ k ↔ n < 10000 ^ k := by
 induction k generalizing n with
 | zero =>
  rw [Nat.pow_zero]
  constructor
  ·intro h; have := td_nil.1 (List.eq_nil_of_length_eq_zero (l := td n) (by omega)); omega
  ·intro h; rw [show n = 0 by omega, td_zero]; exact Nat.le_refl _
 | succ k ih =>
  by_cases h : n = 0
  ·rw [h, td_zero]; exact ⟨fun _ => Nat.pow_pos (by omega), fun _ => Nat.zero_le _⟩
  ·rw [td_pos h, List.length_cons, Nat.pow_succ]
   have := ih (n := n / 10000)
   constructor
   ·intro h1; have := this.1 (by omega); omega
   ·intro h1; have := this.2 (by omega); omega
theorem tv_snoc (l : List Nat) (d : Nat) : tv (l ++ [d]) = tv l + 10000 ^ l.length * d := by rw [tv_append]; simp [tv]
theorem tv_take_getElem {l : List Nat} {k : Nat} (h : k < l.length) : tv (l.take (k + 1)) = tv (l.take k) + 10000 ^ k * l[k] := by
 rw [List.take_succ_eq_append_getElem h, tv_snoc, List.length_take, Nat.min_eq_left (Nat.le_of_lt h)]
/-- A digit, or 0 behind the last one. -/
def dg (l : List Nat) (i : Nat) : Nat := l.getD i 0
theorem dg_lt {l : List Nat} (h : ∀ d ∈ l, d < 10000) (i : Nat) : dg l i < 10000 := by
 unfold dg
 rcases Nat.lt_or_ge i l.length with hi | hi
 ·simp [hi]; exact h _ (List.getElem_mem hi)
 ·simp [hi]
theorem dg_in {l : List Nat} {i : Nat} (h : i < l.length) : dg l i = l[i] := by unfold dg; simp [h]
theorem dg_out {l : List Nat} {i : Nat} (h : l.length ≤ i) : dg l i = 0 := by unfold dg; simp [h]
theorem tv_take (l : List Nat) (k : Nat) : tv (l.take (k + 1)) = tv (l.take k) + 10000 ^ k * dg l k := by
 rcases Nat.lt_or_ge k l.length with h | h
 ·rw [tv_take_getElem h, dg_in h]
 ·rw [dg_out h, List.take_of_length_le (by omega), List.take_of_length_le h]; omega
/-- A slice of ints that can be read. -/
structure Sd (w : World) (a : Addr) (l : List Nat) : Prop where
 cell : ∀ (i : Nat) (h : i < l.length), w.cell? (a.add i) = some (.int .i64 ((l[i] : Nat) : Int))
 blk : a.block < w.heap.size
theorem addB (a : Addr) (i : Nat) : (a.add i).block = a.block := by unfold Addr.add; split <;> rfl
theorem Sd.below {w w' : World} {a : Addr} {l : List Nat} (h : Sd w a l) (hb : Below w.heap.size w w') : Sd w' a l :=
 ⟨fun i hi => (hb.cell (p := a.add i) (by rw [addB]; exact h.blk)).trans (h.cell i hi), Nat.lt_of_lt_of_le h.blk hb.size⟩
theorem Sd.left {w : World} {a : Addr} {l m : List Nat} (h : Sd w a (l ++ m)) : Sd w a l :=
 ⟨fun i hi => by rw [h.cell i (by rw [List.length_append]; omega), List.getElem_append_left hi], h.blk⟩
def Sl (w : World) (v : Value) (l : List Nat) : Prop := (∃ ao c, v = .slice ao 0 c ∧ l = [] ∧ (ao = none → c = 0)) ∨ ∃ a c, v = .slice (some a) l.length c ∧ l.length ≤ c ∧ Sd w a l
theorem Sl.below {w w' : World} {v : Value} {l : List Nat} (h : Sl w v l) (hb : Below w.heap.size w w') : Sl w' v l := by
 rcases h with h | ⟨a, c, h1, h2, h3⟩
 ·exact .inl h
 ·exact .inr ⟨a, c, h1, h2, h3.below hb⟩
theorem Sl.form {w : World} {v : Value} {l : List Nat} (h : Sl w v l) : ∃ ao c, v = .slice ao l.length c := by
 rcases h with ⟨ao, c, rfl, rfl, -⟩ | ⟨a, c, rfl, _⟩
 ·exact ⟨_, _, rfl⟩
 ·exact ⟨_, _, rfl⟩
theorem Sl.nil (w : World) : Sl w (.slice none 0 0) [] := .inl ⟨_, _, rfl, rfl, fun _ => rfl⟩
theorem Sl.drew {w : World} {v : Value} {l : List Nat} (h : Sl w v l) : Sl w.drew v l := by
 rcases h with h | ⟨a, c, h1, h2, h3⟩
 ·exact .inl h
 ·exact .inr ⟨a, c, h1, h2, h3.cell, h3.blk⟩
abbrev iv (d : Nat) : Value := .int .i64 (d : Int)
end Go.Proofs.YthffglapmkkohaaGreatDoor.Rx
namespace Go.Proofs.YthffglapmkkohaaGreatDoor.Rx
open Go.RowKit
attribute [local irreducible] tv dg
end Go.Proofs.YthffglapmkkohaaGreatDoor.Rx
namespace Go.Proofs.YthffglapmkkohaaGreatDoor.Rx
open Go.RowKit
attribute [local irreducible] tv dg
/-- What the digits so far spell, with what is left. -/
theorem td_step {n k : Nat} (hk : k < (td n).length) : n / 10000 ^ k ≠ 0 ∧ (td n)[k] = n / 10000 ^ k % 10000 := by
 induction k generalizing n with
 | zero =>
  have h0 : n ≠ 0 := fun e => by rw [e, td_zero] at hk; exact absurd hk (by simp)
  simp only [Nat.pow_zero, Nat.div_one]
  refine ⟨h0, ?_⟩
  simp only [td_pos h0, List.getElem_cons_zero]
 | succ k ih =>
  have h0 : n ≠ 0 := fun e => by rw [e, td_zero] at hk; exact absurd hk (by simp)
  have hk' : k < (td (n / 10000)).length := by rw [td_pos h0, List.length_cons] at hk; omega
  have := ih hk'
  rw [Nat.div_div_eq_div_mul, Nat.mul_comm, ← Nat.pow_succ] at this
  refine ⟨this.1, ?_⟩
  simp only [td_pos h0, List.getElem_cons_succ]
  exact this.2
theorem td_end {n k : Nat} (hk : (td n).length ≤ k) : n / 10000 ^ k = 0 := Nat.div_eq_of_lt (td_length.1 hk)
end Go.Proofs.YthffglapmkkohaaGreatDoor.Rx
namespace Go.Proofs.YthffglapmkkohaaGreatDoor.Rx
open Go.RowKit
attribute [local irreducible] tv dg
/-- What Add's rounds keep. -/
structure AddS (A B S : List Nat) (i c : Nat) : Prop where
 len : S.length = i
 lt : ∀ d ∈ S, d < 10000
 car : c ≤ 1
 eq : tv S + 10000 ^ i * c = tv (A.take i) + tv (B.take i)
theorem AddS.step {A B S : List Nat} {i c : Nat} (h : AddS A B S i c) (hA : ∀ d ∈ A, d < 10000) (hB : ∀ d ∈ B, d < 10000) :
  AddS A B (S ++ [(dg A i + dg B i + c) % 10000]) (i + 1) ((dg A i + dg B i + c) / 10000) := by
 have h1 := dg_lt hA i
 have h2 := dg_lt hB i
 have h3 := h.car
 refine ⟨by rw [List.length_append, h.len]; rfl, fun d hd => ?_, by omega, ?_⟩
 ·rcases List.mem_append.1 hd with hd | hd
  ·exact h.lt d hd
  ·rw [List.mem_singleton.1 hd]; omega
 ·rw [tv_snoc, h.len, tv_take, tv_take, Nat.pow_succ]
  have h4 := h.eq
  generalize dg A i = x at *
  generalize dg B i = y at *
  have h5 : (x + y + c) % 10000 + 10000 * ((x + y + c) / 10000) = x + y + c := by omega
  have h6 : 10000 ^ i * ((x + y + c) % 10000) + 10000 ^ i * 10000 * ((x + y + c) / 10000) = 10000 ^ i * x + 10000 ^ i * y + 10000 ^ i * c := by
   rw [Nat.mul_assoc, ← Nat.mul_add, h5, Nat.mul_add, Nat.mul_add]
  generalize 10000 ^ i * ((x + y + c) % 10000) = p at *
  generalize 10000 ^ i * 10000 * ((x + y + c) / 10000) = q at *
  omega
end Go.Proofs.YthffglapmkkohaaGreatDoor.Rx
namespace Go.Proofs.YthffglapmkkohaaGreatDoor.Rx
open Go.RowKit
attribute [local irreducible] tv dg
theorem add0 (g i : Nat) : (⟨g, 0, none⟩ : Addr).add i = ⟨g, i, none⟩ := by
 unfold Addr.add
 split <;> simp_all
/-- Block g holds just these ints. -/
def IB (w : World) (g : Nat) (l : List Nat) : Prop := w.heap[g]? = some (.cells (l.map iv).toArray 3 (0, 0))
section
variable {w w' : World} {g : Nat} {l : List Nat}
theorem IB.lt (h : IB w g l) : g < w.heap.size := (Array.getElem?_eq_some_iff.1 h).1
theorem IB.cell (h : IB w g l) (i : Nat) (hi : i < l.length) : w.cell? ⟨g, i, none⟩ = some (.int .i64 ((l[i] : Nat) : Int)) := by
 rw [cell_of_row w g i _ _ _ h]; simp [hi]
theorem IB.frozen (h : IB w g l) (i : Nat) : w.frozen? ⟨g, i, none⟩ = false := frozen_of_row w g i _ _ h
theorem IB.set (h : IB w g l) (i : Nat) (d : Nat) : IB (w.setCell ⟨g, i, none⟩ (.int .i64 (d : Int))) g (l.set i d) := by
 unfold IB at *
 rw [heap_setCell_same w g i _ _ _ h]
 congr 2
 rw [List.map_set]; simp
theorem IB.keep (h : IB w g l) (hk : w'.heap[g]? = w.heap[g]?) : IB w' g l := hk.trans h
theorem IB.below {B : Nat} (h : IB w g l) (hb : Below B w w') (hg : g < B) : IB w' g l := h.keep (hb.block g hg)
theorem IB.drewN (h : IB w g l) (n : Nat) : IB (w.drewN n) g l := h
end
/-- Zeros, as make lays them. -/
def zobjI (n : Nat) : Obj := .cells ((List.replicate n 0).map iv).toArray 3
theorem IB.zeros (w : World) (n : Nat) : IB (w.alloc (zobjI n)) w.heap.size (List.replicate n 0) := heap_alloc_new w _
theorem tv_set {l : List Nat} {j : Nat} (h : j < l.length) (d : Nat) : tv (l.set j d) + 10000 ^ j * l[j] = tv l + 10000 ^ j * d := by
 induction l generalizing j with
 | nil => exact absurd h (by simp)
 | cons x l ih =>
  cases j with
  | zero => simp only [List.set_cons_zero, List.getElem_cons_zero, tv, Nat.pow_zero, Nat.one_mul]; omega
  | succ j =>
   have hj : j < l.length := by simpa using h
   have := ih (j := j) hj
   simp only [List.set_cons_succ, List.getElem_cons_succ, tv, Nat.pow_succ]
   rw [Nat.mul_comm (10000 ^ j) 10000, Nat.mul_assoc, Nat.mul_assoc]
   generalize 10000 ^ j * l[j] = p at *
   generalize 10000 ^ j * d = q at *
   omega
/-- What Mul's inner rounds keep. -/
structure MulS (A B X : List Nat) (i k c : Nat) : Prop where
 len : X.length = A.length + B.length
 lt : ∀ d ∈ X, d < 10000
 car : c < 10000
 eq : tv X + 10000 ^ (i + k) * c = tv (A.take i) * tv B + 10000 ^ i * (dg A i * tv (B.take k))
theorem MulS.step {A B X : List Nat} {i k c : Nat} (h : MulS A B X i k c) (hA : ∀ d ∈ A, d < 10000) (hB : ∀ d ∈ B, d < 10000) (hj : i + k < X.length) {s : Nat} (hs : s = X[i + k] + dg A i * dg B k + c) :
  s < 100000000 ∧ MulS A B (X.set (i + k) (s % 10000)) i (k + 1) (s / 10000) := by
 have h1 := dg_lt hA i
 have h2 := dg_lt hB k
 have h3 := h.car
 have hx := h.lt _ (List.getElem_mem hj)
 have hp : dg A i * dg B k ≤ 9999 * 9999 := Nat.mul_le_mul (by omega) (by omega)
 have hs1 : s < 100000000 := by omega
 refine ⟨hs1, by rw [List.length_set]; exact h.len, fun d hd => ?_, by omega, ?_⟩
 ·rcases List.mem_or_eq_of_mem_set hd with hd | hd
  ·exact h.lt d hd
  ·omega
 ·have e1 := tv_set hj (s % 10000)
  have e2 := h.eq
  rw [tv_take, ← Nat.add_assoc, Nat.pow_succ]
  have e3 : s % 10000 + 10000 * (s / 10000) = X[i + k] + dg A i * dg B k + c := by omega
  have e4 : 10000 ^ (i + k) * (s % 10000) + 10000 ^ (i + k) * 10000 * (s / 10000) = 10000 ^ (i + k) * X[i + k] + 10000 ^ (i + k) * (dg A i * dg B k) + 10000 ^ (i + k) * c := by
   rw [Nat.mul_assoc, ← Nat.mul_add, e3, Nat.mul_add, Nat.mul_add]
  have e5 : 10000 ^ i * (dg A i * (tv (B.take k) + 10000 ^ k * dg B k)) = 10000 ^ i * (dg A i * tv (B.take k)) + 10000 ^ (i + k) * (dg A i * dg B k) := by
   rw [Nat.mul_add, Nat.mul_add, Nat.pow_add, Nat.mul_left_comm (dg A i), Nat.mul_assoc (10000 ^ i)]
  rw [e5]
  generalize 10000 ^ (i + k) * (s % 10000) = p1 at *
  generalize 10000 ^ (i + k) * 10000 * (s / 10000) = p2 at *
  generalize 10000 ^ (i + k) * X[i + k] = p3 at *
  generalize 10000 ^ (i + k) * (dg A i * dg B k) = p4 at *
  generalize 10000 ^ (i + k) * c = p5 at *
  generalize 10000 ^ i * (dg A i * tv (B.take k)) = p6 at *
  generalize tv (A.take i) * tv B = p7 at *
  generalize tv (X.set (i + k) (s % 10000)) = p8 at *
  generalize tv X = p9 at *
  omega
/-- Behind b's digits one carry may be left, and no more. -/
theorem MulS.carry {A B X : List Nat} {i k c : Nat} (h : MulS A B X i k c) (hA : ∀ d ∈ A, d < 10000) (hB : ∀ d ∈ B, d < 10000) (hi : i < A.length) (hk : B.length + 1 ≤ k) : c = 0 := by
 rcases Nat.eq_zero_or_pos c with h0 | h0
 ·exact h0
 ·have e := h.eq
  have e2 : tv (A.take i) * tv B + 10000 ^ i * (dg A i * tv (B.take k)) = tv (A.take (i + 1)) * tv B := by
   rw [List.take_of_length_le (l := B) (by omega), tv_take, Nat.add_mul, Nat.mul_assoc]
  have e3 : tv (A.take (i + 1)) < 10000 ^ (i + 1) := by
   have := tv_lt (l := A.take (i + 1)) fun d hd => hA d (List.mem_of_mem_take hd)
   rwa [List.length_take, Nat.min_eq_left (by omega)] at this
  have e4 := tv_lt hB
  have e5 : tv (A.take (i + 1)) * tv B < 10000 ^ (i + 1) * 10000 ^ B.length := Nat.lt_of_le_of_lt (Nat.mul_le_mul_left _ (Nat.le_of_lt e4)) (Nat.mul_lt_mul_of_pos_right e3 (Nat.pow_pos (by omega)))
  rw [← Nat.pow_add] at e5
  have e6 : 10000 ^ (i + 1 + B.length) ≤ 10000 ^ (i + k) := Nat.pow_le_pow_right (by omega) (by omega)
  have e7 : 10000 ^ (i + k) ≤ 10000 ^ (i + k) * c := Nat.le_mul_of_pos_right _ h0
  omega
theorem MulS.done {A B X : List Nat} {i k : Nat} (h : MulS A B X i k 0) (hk : B.length ≤ k) : MulS A B X (i + 1) 0 0 := by
 refine ⟨h.len, h.lt, by omega, ?_⟩
 have e := h.eq
 rw [List.take_of_length_le hk] at e
 rw [List.take_zero, tv_take, Nat.add_mul, Nat.mul_assoc]
 rw [Nat.mul_zero, Nat.add_zero] at e ⊢
 rw [e]
 have : tv [] = 0 := by unfold tv; rfl
 rw [this, Nat.mul_zero, Nat.mul_zero, Nat.add_zero]
theorem MulS.start (A B : List Nat) : MulS A B (List.replicate (A.length + B.length) 0) 0 0 0 := by
 refine ⟨List.length_replicate, fun d hd => by rw [(List.mem_replicate.1 hd).2]; omega, by omega, ?_⟩
 have : tv [] = 0 := by unfold tv; rfl
 rw [tv_zeros, List.take_zero, List.take_zero, this]
 simp
end Go.Proofs.YthffglapmkkohaaGreatDoor.Rx
namespace Go.Proofs.YthffglapmkkohaaGreatDoor.Rx
open Go.RowKit
attribute [local irreducible] tv dg
/-- A slice that holds a number's digits. -/
abbrev Rn (w : World) (v : Value) (n : Nat) : Prop := Sl w v (td n)
end Go.Proofs.YthffglapmkkohaaGreatDoor.Rx
namespace Go.Proofs.YthffglapmkkohaaGreatDoor.Rx
open Go.RowKit
attribute [local irreducible] tv dg cmpI
end Go.Proofs.YthffglapmkkohaaGreatDoor.Rx
namespace Go.Proofs.YthffglapmkkohaaGreatDoor.Rx
open Go.RowKit
attribute [local irreducible] tv dg cmpI
/-- What Sub's rounds keep. -/
structure SubS (A B S : List Nat) (i c : Nat) : Prop where
 len : S.length = i
 lt : ∀ d ∈ S, d < 10000
 car : c ≤ 1
 eq : tv (A.take i) + 10000 ^ i * c = tv S + tv (B.take i)
theorem SubS.step {A B S : List Nat} {i c d c' : Nat} (h : SubS A B S i c) (hd : d < 10000) (hc : c' ≤ 1) (he : d + dg B i + c = dg A i + 10000 * c') : SubS A B (S ++ [d]) (i + 1) c' := by
 refine ⟨by rw [List.length_append, h.len]; rfl, fun x hx => ?_, hc, ?_⟩
 ·rcases List.mem_append.1 hx with hx | hx
  ·exact h.lt x hx
  ·rw [List.mem_singleton.1 hx]; exact hd
 ·rw [tv_snoc, h.len, tv_take, tv_take, Nat.pow_succ]
  have h4 := h.eq
  have h6 : 10000 ^ i * d + 10000 ^ i * dg B i + 10000 ^ i * c = 10000 ^ i * dg A i + 10000 ^ i * 10000 * c' := by
   rw [Nat.mul_assoc, ← Nat.mul_add, ← Nat.mul_add, ← Nat.mul_add, he]
  generalize 10000 ^ i * d = p1 at *
  generalize 10000 ^ i * dg B i = p2 at *
  generalize 10000 ^ i * c = p3 at *
  generalize 10000 ^ i * dg A i = p4 at *
  generalize 10000 ^ i * 10000 * c' = p5 at *
  omega
theorem SubS.done {A B S : List Nat} {c : Nat} (h : SubS A B S A.length c) (hB : B.length ≤ A.length) (hle : tv B ≤ tv A) : tv S = tv A - tv B := by
 have e := h.eq
 rw [List.take_of_length_le (Nat.le_refl _), List.take_of_length_le hB] at e
 have h1 := tv_lt h.lt
 rw [h.len] at h1
 have hc := h.car
 rcases Nat.eq_zero_or_pos c with h0 | h0
 ·rw [h0, Nat.mul_zero] at e; omega
 ·rw [show c = 1 by omega, Nat.mul_one] at e; omega
end Go.Proofs.YthffglapmkkohaaGreatDoor.Rx
namespace Go.Proofs.YthffglapmkkohaaGreatDoor.Rx
open Go.RowKit
open Go.Lib (decDigits)
attribute [local irreducible] tv dg cmpI
/-- What Text has written behind digit i. -/
def TS (n i : Nat) (T : List UInt8) : Prop := (i < (td n).length ∧ decDigits n = decDigits (n / 10000 ^ i) ++ T) ∨ (i = (td n).length ∧ T = decDigits n)
theorem TS.start {n : Nat} (h : 0 < (td n).length) : TS n 0 [] := .inl ⟨h, by simp⟩
theorem TS.step {n i : Nat} {T : List UInt8} (h : TS n i T) (hl : i < (td n).length) (hi : i + 1 < (td n).length) : TS n (i + 1) (pad 4 ((td n)[i]'hl) ++ T) := by
 rcases h with ⟨h1, h2⟩ | ⟨h1, h2⟩
 ·refine .inl ⟨hi, ?_⟩
  have hd := (td_step h1).2
  have hq := (td_step hi).1
  have e : n / 10000 ^ i = n / 10000 ^ (i + 1) * 10 ^ 4 + (td n)[i] := by
   rw [hd, Nat.pow_succ, ← Nat.div_div_eq_div_mul]
   show _ = _ * 10000 + _
   omega
  have hlt : (td n)[i] < 10 ^ 4 := td_lt n _ (List.getElem_mem _)
  have := dec_mul_add 4 (n / 10000 ^ (i + 1)) ((td n)[i]) (by omega) hlt
  rw [h2, e, this, List.append_assoc]
 ·omega
theorem TS.last {n i : Nat} {T : List UInt8} (h : TS n i T) (hl : i < (td n).length) (hi : i + 1 = (td n).length) : 0 < (td n)[i]'hl ∧ TS n (i + 1) (decDigits ((td n)[i]'hl) ++ T) := by
 rcases h with ⟨h1, h2⟩ | ⟨h1, h2⟩
 ·have hd := td_step h1
  have h0 : n / 10000 ^ (i + 1) = 0 := td_end (by omega)
  have e : n / 10000 ^ i = (td n)[i] := by
   rw [hd.2]
   rw [Nat.pow_succ, ← Nat.div_div_eq_div_mul] at h0
   omega
  refine ⟨by rw [← e]; omega, .inr ⟨hi, ?_⟩⟩
  rw [h2, e]
 ·omega
theorem TS.len {n i : Nat} {T : List UInt8} (h : TS n i T) : T.length ≤ (decDigits n).length := by
 rcases h with ⟨h1, h2⟩ | ⟨h1, h2⟩
 ·rw [h2, List.length_append]; omega
 ·rw [h2]; exact Nat.le_refl _
end Go.Proofs.YthffglapmkkohaaGreatDoor.Rx
namespace Go.Proofs.YthffglapmkkohaaGreatDoor.Rx
open Go.RowKit
attribute [local irreducible] lo hs tv dg cmpI txt
end Go.Proofs.YthffglapmkkohaaGreatDoor.Rx
namespace Go.Proofs.YthffglapmkkohaaGreatDoor.Rx
open Go.RowKit
attribute [local irreducible] tv dg cmpI txt
/-- What is appended, chunk by chunk. -/
structure PS (l : List UInt8) (S : List Nat) (t e : Nat) : Prop where
 len : S.length = t
 lt : ∀ d ∈ S, d < 10000
 pos : e = l.length - 4 * t
 eq : tv S + 10000 ^ t * dval (l.take e) = dval l
theorem PS.step {l : List UInt8} {S : List Nat} {t e : Nat} (h : PS l S t e) (hd : ∀ c ∈ l, isDig c) (he : 0 < e) :
  dval ((l.drop (e - 4)).take (e - (e - 4))) < 10000 ∧ PS l (S ++ [dval ((l.drop (e - 4)).take (e - (e - 4)))]) (t + 1) (e - 4) := by
 have hle : e ≤ l.length := by have := h.pos; omega
 have hch : ((l.drop (e - 4)).take (e - (e - 4))).length = e - (e - 4) := by rw [List.length_take, List.length_drop]; omega
 have hlt : dval ((l.drop (e - 4)).take (e - (e - 4))) < 10000 := by
  have h1 := dval_lt (l := (l.drop (e - 4)).take (e - (e - 4))) fun c hc => hd c (List.mem_of_mem_drop (List.mem_of_mem_take hc))
  rw [hch] at h1
  exact Nat.lt_of_lt_of_le h1 (Nat.le_trans (Nat.pow_le_pow_right (by omega) (show e - (e - 4) ≤ 4 by omega)) (by decide))
 refine ⟨hlt, by rw [List.length_append, h.len]; rfl, fun d hx => ?_, by have := h.pos; omega, ?_⟩
 ·rcases List.mem_append.1 hx with hx | hx
  ·exact h.lt d hx
  ·rw [List.mem_singleton.1 hx]; exact hlt
 ·have e1 : l.take e = l.take (e - 4) ++ (l.drop (e - 4)).take (e - (e - 4)) := by
   have := List.take_add (l := l) (i := e - 4) (j := e - (e - 4))
   rw [show e - 4 + (e - (e - 4)) = e by omega] at this
   exact this
  have e2 := h.eq
  rw [e1, dval_append, hch] at e2
  rw [tv_snoc, h.len, Nat.pow_succ]
  generalize dval ((l.drop (e - 4)).take (e - (e - 4))) = d at *
  rcases Nat.lt_or_ge e 4 with h4 | h4
  ·have h0 : dval (l.take (e - 4)) = 0 := by rw [show e - 4 = 0 by omega, List.take_zero, dval_nil]
   rw [h0, Nat.zero_mul, Nat.zero_add] at e2
   rw [h0, Nat.mul_zero]; omega
  ·rw [show e - (e - 4) = 4 by omega] at e2
   rw [Nat.mul_add, Nat.mul_comm (dval _) (10 ^ 4), ← Nat.mul_assoc, show (10 : Nat) ^ 4 = 10000 by rfl] at e2
   omega
theorem PS.start (l : List UInt8) : PS l [] 0 l.length := ⟨rfl, (fun d hd => by cases hd), by omega, by rw [tv_nil, List.take_length]; simp⟩
end Go.Proofs.YthffglapmkkohaaGreatDoor.Rx
namespace Go.Proofs.YthffglapmkkohaaGreatDoor
open Go.RowKit Go.Proofs.YthffglapmkkohaaGreatDoor.Rx
attribute [local irreducible] lo hs sm s64 c64 d64 b64 mh ml pd pc qd qc val hiB str cmpI srD lz nb dval
theorem sl_upd {w w' : World} {k : Nat} {c : List Value} {v : Value} {l : List Nat} (h : Sl w v l) (hu : Upd k w w') (hd : Hd w k c) (hc : ∀ v ∈ c, ∀ n, v ≠ .int .i64 n) : Sl w' v l := by
 rcases h with h | ⟨a, c1, h1, h2, h3⟩
 ·exact .inl h
 ·refine .inr ⟨a, c1, h1, h2, fun i hi => ?_, by rw [hu.size]; exact h3.blk⟩
  have hx := h3.cell i hi
  exact (World.cell?_of_block (w := w) (hu.block _ (hd.no_int hc hx))).trans hx
end Go.Proofs.YthffglapmkkohaaGreatDoor
namespace Go.Proofs.YthffglapmkkohaaGreatDoor
open Go.RowKit Go.Proofs.YthffglapmkkohaaGreatDoor.Rx
/-- A struct of the reference that stands for an integer. -/
def RZ (w : World) (v : Value) (z : Int) : Prop := ∃ u, v = .agg #[.bool (decide (z < 0)), u] ∧ Rn w u z.natAbs
theorem RZ.below {w w' : World} {v : Value} {z : Int} (h : RZ w v z) (hb : Below w.heap.size w w') : RZ w' v z := by
 obtain ⟨u, h1, h2⟩ := h
 exact ⟨u, h1, Sl.below h2 hb⟩
theorem RZ.of {w : World} {b : Bool} {u : Value} {n : Nat} {z : Int} (h : Rn w u n) (hb : b = decide (z < 0)) (hn : n = z.natAbs) : RZ w (.agg #[.bool b, u]) z := ⟨u, by rw [hb], by rw [← hn]; exact h⟩
end Go.Proofs.YthffglapmkkohaaGreatDoor
namespace Go.Proofs.YthffglapmkkohaaGreatDoor
open Go.RowKit
section
variable {P : Program} {ops : Array Oper} {C : World → Prop}
theorem alloc_run {P : Program} {o : Oper} {ev : Operand → Value} {e t : TypeId} {c : Array Value} (he : o.op = .alloc e) (h : ∀ w, (Instr.alloc e true (.tuple #[])).run P w = .ok (.pointer (some ⟨w.heap.size, 0, none⟩)) (w.alloc (.cells c t))) (w : World) :
  (execOp ev o).run P w = .ok (.value (.pointer (some ⟨w.heap.size, 0, none⟩))) (w.alloc (.cells c t)) := by
 simp only [execOp, he]
 rw [Sem.run_bind, h w]
 rfl
/-- What the operations that make boxes do. -/
def newR (P : Program) (l : List Oper) : List Nat → Prop
 | [] => True
 | j :: A => (∃ o e c t, l[j]? = some o ∧ o.guard = none ∧ o.op = .alloc e ∧ ∀ w, (Instr.alloc e true (.tuple #[])).run P w = .ok (.pointer (some ⟨w.heap.size, 0, none⟩)) (w.alloc (.cells c t))) ∧ newR P l A
theorem newR_spec {P : Program} {l : List Oper} : ∀ {A : List Nat}, newR P l A → ∀ j o, l[j]? = some o → A.contains j = true → o.guard = none ∧ ∃ e c t, o.op = .alloc e ∧ ∀ w, (Instr.alloc e true (.tuple #[])).run P w = .ok (.pointer (some ⟨w.heap.size, 0, none⟩)) (w.alloc (.cells c t))
 | [], _, _, _, _, hA => by simp at hA
 | k :: A, h, j, o, ho, hA => by
  obtain ⟨⟨o', e, c, t, h1, h2, h3, h4⟩, hr⟩ := h
  rcases List.mem_cons.1 (List.contains_iff_mem.1 hA) with e1 | e1
  ·subst e1
   rw [ho] at h1
   obtain rfl := Option.some.inj h1
   exact ⟨h2, e, c, t, h3, h4⟩
  ·exact newR_spec hr j o ho (List.contains_iff_mem.2 e1)
end
end Go.Proofs.YthffglapmkkohaaGreatDoor
namespace Go.Proofs.YthffglapmkkohaaGreatDoor
open Go.RowKit Go.Proofs.YthffglapmkkohaaGreatDoor.Rx
/-- The slices of digits that a call has got hold of. -/
def SS (W : World) (S : List (Value × Nat)) : Prop := ∀ p ∈ S, Rn W p.1 p.2
theorem SS.nil (W : World) : SS W [] := fun p hp => by cases hp
theorem SS.call {W W' : World} {S : List (Value × Nat)} (h : SS W S) (hb : Below W.heap.size W W') : SS W' S := fun p hp => Sl.below (h p hp) hb
theorem SS.new {W : World} {S : List (Value × Nat)} (h : SS W S) (o : Obj) : SS (W.alloc o) S := h.call ((Below.refl _ _).alloc (Nat.le_refl _) o)
theorem SS.cons {W : World} {S : List (Value × Nat)} (h : SS W S) {v : Value} {n : Nat} (hv : Rn W v n) : SS W ((v, n) :: S) := fun p hp => by
 rcases List.mem_cons.1 hp with rfl | hp
 ·exact hv
 ·exact h p hp
theorem SS.put {W W' : World} {S : List (Value × Nat)} (h : SS W S) {k : Nat} {c : List Value} (hu : Upd k W W') (hd : Hd W k c) (hc : ∀ v ∈ c, ∀ n, v ≠ .int .i64 n) : SS W' S := fun p hp => sl_upd (h p hp) hu hd hc
theorem SS.drew {W : World} {S : List (Value × Nat)} (h : SS W S) : SS W.drew S := fun p hp => Sl.drew (h p hp)
theorem SS.get {W : World} {S : List (Value × Nat)} (h : SS W S) {v : Value} {n : Nat} (hm : (v, n) ∈ S) : Rn W v n := h _ hm
/-- A new box. -/
def NewB (B : Nat) (c : List Value) (u : Value) (w : World) : Prop := ∃ k, u = .pointer (some ⟨k, 0, none⟩) ∧ Hd w k c ∧ B ≤ k
theorem stays_new (B : Nat) (c : List Value) : Stays (NewB B c) := fun _ _ _ hb ⟨k, h1, h2, h3⟩ => ⟨k, h1, h2.below hb, h3⟩
theorem NewB.ptr {B : Nat} {c : List Value} {u : Value} {w : World} (h : NewB B c u w) : ∃ k, u = .pointer (some ⟨k, 0, none⟩) ∧ k < w.heap.size := by
 obtain ⟨k, h1, h2, _⟩ := h
 exact ⟨k, h1, h2.lt⟩
theorem tyAt_new {P : Program} {ops : Array Oper} {o : Oper} {a : Act} {w : World} {B : Nat} {c : List Value} {e t : TypeId} (hg : o.guard = none) (he : o.op = .alloc e) (hr : ∀ w, (Instr.alloc e true (.tuple #[])).run P w = .ok (.pointer (some ⟨w.heap.size, 0, none⟩)) (w.alloc (.cells c.toArray t)))
  (hB : B ≤ w.heap.size) : TyAt P ops o a w (NewB B c) := by
 refine tyAt_none hg ?_
 rw [alloc_run he hr]
 exact ⟨(Below.refl _ _).alloc (Nat.le_refl _) _, _, rfl, hd_new w c t, hB⟩
theorem tyAt_yes {P : Program} {ops : Array Oper} {o : Oper} {a : Act} {w : World} {T : Value → World → Prop} (hg : Region.wanted o (yielded ops a.tmps) = true) (h : tyUpon P w T ((execOp a.eval o).run P w)) : TyAt P ops o a w T := by
 unfold TyAt
 rw [if_pos hg]; exact h
/-- The boxes with one that a typed region has made. -/
theorem GL.tnew {w0 x W : World} {L M : List (Nat × List Value)} {c : List Value} {k : Nat} (h : GL w0 W (M ++ L)) (hx : GL w0 x L) (hd : Hd W k c) (hB : x.heap.size ≤ k) (hM : ∀ p ∈ M, p.1 ≠ k) : GL w0 W ((k, c) :: (M ++ L)) := by
 refine ⟨h.bl, fun p hp => ?_, ?_⟩
 ·rcases List.mem_cons.1 hp with rfl | hp
  ·exact ⟨Nat.le_trans hx.bl.size hB, hd⟩
  ·exact h.all p hp
 ·rw [List.map_cons, List.nodup_cons]
  refine ⟨fun hm => ?_, h.nd⟩
  obtain ⟨q, hq, he⟩ := List.mem_map.1 hm
  rcases List.mem_append.1 hq with hq | hq
  ·exact hM q hq he
  ·have := (hx.all q hq).2.lt
   simp only at he
   omega
/-- A typed region's properties, in short. -/
abbrev EV (v : Value) : Value → World → Prop := fun u _ => u = v
theorem LC {l : List Nat} {a : Nat} (h : l.contains a = true) : a ∈ l := List.contains_iff_mem.1 h
theorem GL.named2 {w0 W : World} {L : List (Nat × List Value)} {S : List (Value × Nat)} (h : GL w0 W L) (g : SS W S) : ∃ x, W = x ∧ GL w0 x L ∧ SS x S := ⟨W, rfl, h, g⟩
end Go.Proofs.YthffglapmkkohaaGreatDoor
namespace Go.Proofs.YthffglapmkkohaaGreatDoor
open Go.RowKit
section
variable {P : Program} {ops : Array Oper} {C : World → Prop}
theorem act_get {a : Act} {d : Option Nat} {u : Value} {t : Nat} (h : d ≠ some t) : (a.put d u).tmps[t]? = a.tmps[t]? := by
 cases d with
 | none => rfl
 | some d =>
  unfold Act.put
  exact Array.getElem?_setIfInBounds_ne fun e => h (by rw [e])
theorem act_comm {a : Act} {d e : Option Nat} {u v : Value} (h : d ≠ e ∨ d = none) : (a.put d u).put e v = (a.put e v).put d u := by
 cases d with
 | none => rfl
 | some d =>
  cases e with
  | none => rfl
  | some e =>
   unfold Act.put
   have hne : d ≠ e := fun he => h.elim (fun h => h (by rw [he])) fun h => by cases h
   simp only [Array.setIfInBounds_comm _ _ hne]
/-- As tyB, but the operation n, a store or an assignment, does not wait for the operation i0. -/
def lateB (n i0 : Nat) (l : List Oper) : Bool :=
 ((List.range l.length).all fun j => decide (j < n) || ((List.range n).all fun i => (decide (j = n) && decide (i = i0)) || (ancOf .any l.toArray j).contains i) && (decide (j = n) || (ancOf .any l.toArray j).contains n)) &&
 decide (i0 < n) && decide (n < l.length) &&
 match l[n]?, l[i0]? with
 | some o, some q => o.guard.isNone && q.guard.isNone && ((o.looksAt l.toArray).all fun t => !(q.dst == some t)) && ((q.looksAt l.toArray).all fun t => !(o.dst == some t)) && !(o.dst == q.dst)
 | _, _ => false
theorem lateB_parts {n i0 : Nat} {l : List Oper} (h : lateB n i0 l = true) : i0 < n ∧ n < l.length ∧ ∃ o q, l[n]? = some o ∧ l[i0]? = some q ∧ o.guard = none ∧ q.guard = none ∧ (∀ t ∈ o.looksAt l.toArray, q.dst ≠ some t) ∧ (∀ t ∈ q.looksAt l.toArray, o.dst ≠ some t) ∧ o.dst ≠ q.dst := by
 simp only [lateB, Bool.and_eq_true, decide_eq_true_eq] at h
 obtain ⟨⟨⟨-, h1⟩, h2⟩, h3⟩ := h
 refine ⟨h1, h2, ?_⟩
 split at h3
 ·rename_i o q ho hq
  simp only [Bool.and_eq_true, Option.isNone_iff_eq_none, List.all_eq_true, Bool.not_eq_true', beq_eq_false_iff_ne] at h3
  exact ⟨o, q, ho, hq, h3.1.1.1.1, h3.1.1.1.2, h3.1.1.2, h3.1.2, h3.2⟩
 ·cases h3
theorem anc_listed {ops : Array Oper} {listed : Array Bool} {j : Nat} (h : closedL .any ops listed) (hj : j ∈ Region.ready .any ops listed) {i : Nat} (hi : (ancOf .any ops j).contains i = true) : listed.getD i false = true := by
 obtain ⟨-, o, ho, hall⟩ := mem_ready.1 hj
 have hp : ∀ x ∈ predsOf .any ops j, listed.getD x false = true := by
  intro x hx
  unfold predsOf at hx
  simp only [ho, List.mem_map, List.mem_filter] at hx
  obtain ⟨e, ⟨he, hb⟩, rfl⟩ := hx
  exact hall e (by simpa using he) hb
 exact fold_listed h _ _ hp i (List.contains_iff_mem.1 hi)
theorem lateB_at {n i0 : Nat} {l : List Oper} {listed : Array Bool} {j : Nat} (hB : lateB n i0 l = true) (h : closedL .any l.toArray listed) (hj : j ∈ Region.ready .any l.toArray listed) (hn : ¬ j < n) :
  (∀ i, i < n → ¬ (j = n ∧ i = i0) → listed.getD i false = true) ∧ (j ≠ n → listed.getD n false = true) := by
 obtain ⟨-, o, ho, -⟩ := mem_ready.1 hj
 have hjs : j < l.length := by simpa using (Array.getElem?_eq_some_iff.1 ho).1
 simp only [lateB, Bool.and_eq_true] at hB
 have h1 := List.all_eq_true.1 hB.1.1.1 j (List.mem_range.2 hjs)
 simp only [Bool.or_eq_true, Bool.and_eq_true, decide_eq_true_eq, List.all_eq_true, List.mem_range] at h1
 rcases h1 with h1 | ⟨h1, h2⟩
 ·exact absurd h1 hn
 ·refine ⟨fun i hi hne => ?_, fun hne => ?_⟩
  ·rcases h1 i hi with h3 | h3
   ·exact absurd h3 hne
   ·exact anc_listed h hj h3
  ·rcases h2 with h3 | h3
   ·exact absurd h3 hne
   ·exact anc_listed h hj h3
theorem lateB_bar {n i0 : Nat} {l : List Oper} {listed : Array Bool} {j : Nat} (hB : lateB n i0 l = true) (h : closedL .any l.toArray listed) (hj : j ∈ Region.ready .any l.toArray listed) (hd : doneN n listed = false) (hn : ¬ j < n) :
  n = j ∧ ∀ i, i < n → i ≠ i0 → listed.getD i false = true := by
 obtain ⟨h1, h2⟩ := lateB_at hB h hj hn
 by_cases e : j = n
 ·exact ⟨e.symm, fun i hi hne => h1 i hi fun hh => hne hh.2⟩
 ·have : doneN n listed = true := doneN_iff.2 fun i hi => h1 i hi fun hh => e hh.1
  rw [hd] at this; cases this
theorem late_step {n s i0 : Nat} {l : List Oper} {T : Nat → Value → World → Prop} {w0 : World} {a0 : Act} {Q : Exit → Act → World → Prop} {A : Nat → Bool} (hsel : Region.noSelect l.toArray = true) (hn : n ≤ l.length)
  (hB : lateB n i0 l = true) (hN : nodupD (l.take n) = true) (hD : depB l.toArray n = true)
  (hlate : ∀ v w, Below w0.heap.size w0 w → (∀ i, i < n → i ≠ i0 → T i (v i) w) → ∃ nx w1 u, (∀ o, l[n]? = some o → (execOp (putsV (l.take n) 0 v a0).eval o).run P w = .ok nx w1) ∧ (nx = .skip ∨ ∃ u9, nx = .value u9) ∧ (∀ o, l[i0]? = some o → (execOp (putsV (l.take n) 0 v a0).eval o).run P w1 = .ok (.value u) w1) ∧ T i0 u w) (hA0 : A i0 = false)
  (hend : ∀ v w, Below w0.heap.size w0 w → (∀ i, i < n → T i (v i) w) → (∀ i j, i < n → j < n → i ≠ j → A i = true → A j = true → v i ≠ v j) → wpAny P .any l.toArray Q s (canonL l.length n) (putsV (l.take n) 0 v a0) w)
  {m : Nat} {listed : Array Bool} {v : Nat → Value} {w : World} (hl : left n listed = m + 1) (hc : closedL .any l.toArray listed) (hu : sufL n l.toArray listed) (hb : Below w0.heap.size w0 w)
  (ht : ∀ i, i < n → listed.getD i false = true → T i (v i) w) (hne : ∀ i j, i < n → j < n → i ≠ j → A i = true → A j = true → listed.getD i false = true → listed.getD j false = true → v i ≠ v j)
  (hj : n ∈ Region.ready .any l.toArray listed) (hall : ∀ i, i < n → i ≠ i0 → listed.getD i false = true) :
  wpOp P l.toArray Q n (wpAny P .any l.toArray Q (s + m) (listed.setIfInBounds n true)) (putsIf (l.take n) 0 (fun i => listed.getD i false) v a0) w := by
 have hlen : (l.take n).length = n := by rw [List.length_take]; omega
 obtain ⟨hi0, hnl, o, q, ho, hq, go, gq, hlook, hlookq, hdd⟩ := lateB_parts hB
 have hi0u : listed.getD i0 false = false := by
  rcases Bool.eq_false_or_eq_true (listed.getD i0 false) with h | h
  ·exfalso
   have : doneN n listed = true := doneN_iff.2 fun i hi => by
    by_cases e : i = i0
    ·subst e; exact h
    ·exact hall i hi e
   rw [left_some hl] at this; cases this
  ·exact h
 have hi0s : i0 < listed.size := by rw [hu.1]; simp; omega
 have hns : n < listed.size := by rw [hu.1]; simp; omega
 have hin0 : i0 ≠ n := by omega
 -- the rest of the first n
 have hm0 : left n (listed.setIfInBounds i0 true) = m := left_set (ops := l.toArray) hu.1 hi0 (by simp; omega) hi0u hl
 have hd0 : doneN n (listed.setIfInBounds i0 true) = true := doneN_iff.2 fun i hi => by
  by_cases e : i = i0
  ·subst e; simp [hi0s]
  ·rw [getD_set_ne false fun h => e h.symm]; exact hall i hi e
 have hm : m = 0 := by
  rw [← hm0]; unfold left
  exact List.countP_eq_zero.2 fun i hi => by simp [doneN_iff.1 hd0 i (List.mem_range.1 hi)]
 subst hm
 obtain ⟨nx, w1, u, hs, hnx, hx, hTu⟩ := hlate v w hb fun i hi hne => ht i hi (hall i hi hne)
 replace hs := hs o ho
 replace hx := hx q hq
 have hsel' : ∀ cs b, o.op ≠ .select cs b := fun cs b => Region.noSelect_spec hsel n o cs b (by simpa using ho)
 have hselq : ∀ cs b, q.op ≠ .select cs b := fun cs b => Region.noSelect_spec hsel i0 q cs b (by simpa using hq)
 have hpre0 : ∀ p ∈ predsOf .any l.toArray i0, listed.getD p false = true := fun p hp => by
  have := depB_pred hD hi0 hp
  exact hall p (by omega) (by omega)
 -- what both look at
 have hagn : ∀ (x : Nat → Value) (b : Nat → Bool), (∀ i, i ≠ i0 → i < n → b i = true) → (∀ i, i ≠ i0 → x i = v i) → ∀ t ∈ o.looksAt l.toArray, (putsIf (l.take n) 0 b x a0).tmps[t]? = (putsV (l.take n) 0 v a0).tmps[t]? := by
  intro x b hbi hxv t ht'
  have h1 := get_puts (v := x) (b := b) (t := t) (l.take n) 0 a0 a0 rfl fun i o' ho' hd' => by
   have hin : i < n := by rw [← hlen]; exact (List.getElem?_eq_some_iff.1 ho').1
   rw [Nat.zero_add]
   refine hbi i (fun e => ?_) hin
   subst e
   rw [List.getElem?_take, if_pos hin, hq] at ho'
   obtain rfl := Option.some.inj ho'
   exact hlook t ht' hd'
  have h2 := get_puts (v := v) (b := fun i => decide (i ≠ i0)) (t := t) (l.take n) 0 a0 a0 rfl fun i o' ho' hd' => by
   have hin : i < n := by rw [← hlen]; exact (List.getElem?_eq_some_iff.1 ho').1
   rw [Nat.zero_add]
   refine decide_eq_true fun e => ?_
   subst e
   rw [List.getElem?_take, if_pos hin, hq] at ho'
   obtain rfl := Option.some.inj ho'
   exact hlook t ht' hd'
  have h3 := get_puts (v := x) (b := fun i => decide (i ≠ i0)) (t := t) (l.take n) 0 a0 a0 rfl fun i o' ho' hd' => by
   have hin : i < n := by rw [← hlen]; exact (List.getElem?_eq_some_iff.1 ho').1
   rw [Nat.zero_add]
   refine decide_eq_true fun e => ?_
   subst e
   rw [List.getElem?_take, if_pos hin, hq] at ho'
   obtain rfl := Option.some.inj ho'
   exact hlook t ht' hd'
  rw [h1, ← h3, putsIf_congr (v := x) (v' := v) (b := fun i => decide (i ≠ i0)) (b' := fun i => decide (i ≠ i0)) (l.take n) 0 a0 (fun i _ _ => ⟨rfl, fun hh => hxv i (of_decide_eq_true hh)⟩), h2]
 -- what the other order says
 let v' : Nat → Value := fun i => if i = i0 then u else v i
 have hend' := hend v' w hb (fun i hi => by
  by_cases e : i = i0
  ·subst e; simpa [v'] using hTu
  ·simpa [v', e] using ht i hi (hall i hi e)) (fun i j hi hj' hij hai haj => by
  have e1 : i ≠ i0 := fun e => by subst e; rw [hA0] at hai; cases hai
  have e2 : j ≠ i0 := fun e => by subst e; rw [hA0] at haj; cases haj
  simpa [v', e1, e2] using hne i j hi hj' hij hai haj (hall i hi e1) (hall j hj' e2))
 have hcan : canonL l.length n = listed.setIfInBounds i0 true := by
  have := canon_of (ops := l.toArray) (n := n) (listed := listed.setIfInBounds i0 true) ⟨by simpa using hu.1, fun k hk hks => by rw [getD_set_ne true (by omega)]; exact hu.2 k hk hks⟩ hd0
  rw [this]; simp
 rw [hcan] at hend'
 have hrn : n ∈ Region.ready .any l.toArray (listed.setIfInBounds i0 true) := ready_mono hj (by omega)
 have hcn : closedL .any l.toArray (listed.setIfInBounds n true) := hc.set hj
 have hri : i0 ∈ Region.ready .any l.toArray (listed.setIfInBounds n true) := by
  refine ready_mono (mem_ready.2 ⟨?_, q, by simpa using hq, fun e he hb' => hpre0 _ ?_⟩) (by omega)
  ·have : listed.getD i0 true = listed.getD i0 false := by simp [hi0s]
   rw [this]; exact hi0u
  ·unfold predsOf
   simp only [show l.toArray[i0]? = some q by simpa using hq, List.mem_map, List.mem_filter]
   exact ⟨e, ⟨by simpa using he, hb'⟩, rfl⟩
 -- the store's turn
 unfold wpOp
 simp only [show l.toArray[n]? = some o by simpa using ho]
 have hwo : ∀ Y, Region.wanted o Y = true := fun Y => by unfold Region.wanted; rw [go]
 have hwq : ∀ Y, Region.wanted q Y = true := fun Y => by unfold Region.wanted; rw [gq]
 have ag1 := hagn v (fun i => listed.getD i false) (fun i h1 h2 => hall i h2 h1) (fun i _ => rfl)
 rw [hwo, if_pos rfl]
 cases s with
 | zero =>
  exfalso
  have := hend'.1
  rw [this] at hrn; cases hrn
 | succ s =>
  have h2 := hend'.2 n hrn
  unfold wpOp at h2
  simp only [show l.toArray[n]? = some o by simpa using ho] at h2
  rw [hwo, if_pos rfl] at h2
  have ag2 := hagn v' (fun _ => true) (fun i _ _ => rfl) (fun i h1 => by simp [v', h1])
  rw [putsIf_all (l.take n) 0 a0 fun i _ _ => rfl] at ag2
  rcases h2 with h2 | h2
  case inr =>
   refine .inr ⟨?_, h2.2⟩
   have h3 := h2.1
   unfold Oper.asks at h3 ⊢
   rw [exec_same hsel' ag2] at h3
   rw [exec_same hsel' ag1]
   exact h3
  refine .inl ?_
  unfold Oper.wp at h2 ⊢
  rw [exec_same hsel' ag2, hs] at h2
  rw [exec_same hsel' ag1, hs]
  obtain ⟨u9, hu9⟩ : ∃ u9 : Value, nx = .skip ∧ u9 = undef ∨ nx = .value u9 := by
   rcases hnx with rfl | ⟨u9, rfl⟩
   ·exact ⟨undef, .inl ⟨rfl, rfl⟩⟩
   ·exact ⟨u9, .inr rfl⟩
  rcases hu9 with ⟨rfl, hu⟩ | rfl
  all_goals simp only [Oper.upon] at h2 ⊢
  all_goals (try rw [← hu] at h2 ⊢)
  all_goals
   -- the late one's turn
   refine ⟨fun h0 => absurd h0 (List.ne_nil_of_mem hri), fun i hi => ?_⟩
   obtain rfl : i = i0 := by
    by_cases hin : i < n
    ·rcases Decidable.em (i = i0) with e | e
     ·exact e
     ·exfalso
      have := (mem_ready.1 hi).1
      rw [getD_set_ne true (by omega)] at this
      have h4 := unl this
      rw [hall i hin e] at h4; cases h4
    ·exfalso
     obtain ⟨h4, h5⟩ := lateB_at hB hcn hi hin
     by_cases e : i = n
     ·subst e
      have := (mem_ready.1 hi).1
      simp [hns] at this
     ·have := h4 i0 hi0 fun hh => e hh.1
      rw [getD_set_ne false (by omega), hi0u] at this; cases this
   unfold wpOp
   simp only [show l.toArray[i]? = some q by simpa using hq]
   rw [hwq, if_pos rfl]
   refine .inl ?_
   have hag0 : ∀ t ∈ q.looksAt l.toArray, ((putsIf (l.take n) 0 (fun i => listed.getD i false) v a0).put o.dst u9).tmps[t]? = (putsV (l.take n) 0 v a0).tmps[t]? := fun t ht' => by
    rw [act_get (hlookq t ht')]
    exact get_puts (l.take n) 0 a0 a0 rfl fun k o' ho' hd' => by
     have hin : k < n := by rw [← hlen]; exact (List.getElem?_eq_some_iff.1 ho').1
     have ho2 : l.toArray[k]? = some o' := by rw [List.getElem?_take, if_pos hin] at ho'; simpa using ho'
     rw [Nat.zero_add]
     exact hpre0 k (depB_looks hD hi0 hin (by simpa using hq) ho2 ht' hd')
   unfold Oper.wp
   rw [exec_same hselq hag0, hx]
   simp only [Oper.upon]
   have e := put_at (v := v) (v' := v') (b := fun i => listed.getD i false) (b' := fun k => (listed.setIfInBounds i true).getD k false) (j := i) (u := u) hi0u (by simp [hi0s]) (by simp [v'])
    (fun k hk => ⟨getD_set_ne false fun e => hk e.symm, by simp [v', hk]⟩) (l.take n) 0 a0 q hN (Nat.zero_le _) (by rw [Nat.sub_zero, List.getElem?_take, if_pos hi0]; exact hq)
   rw [act_comm (.inl hdd), e, putsIf_all (l.take n) 0 a0 fun k _ h5 => doneN_iff.1 hd0 k (by omega), Array.setIfInBounds_comm _ _ (by omega)]
   exact h2
theorem wpAny_tb {n s i0 : Nat} {l : List Oper} {T : Nat → Value → World → Prop} {w0 : World} {a0 : Act} {Q : Exit → Act → World → Prop} {A : Nat → Bool} (hT : ∀ i, Stays (T i)) (hsel : Region.noSelect l.toArray = true) (hn : n ≤ l.length)
  (hB : lateB n i0 l = true) (hN : nodupD (l.take n) = true) (hD : depB l.toArray n = true)
  (hops : ∀ j o, j < n → l[j]? = some o → ∀ v w, Below w0.heap.size w0 w → (∀ p ∈ predsOf .any l.toArray j, T p (v p) w) → TyAt P l.toArray o (putsV (l.take n) 0 v a0) w (T j))
  (hptr : ∀ j, A j = true → ∀ u w, T j u w → ∃ k, u = .pointer (some ⟨k, 0, none⟩) ∧ k < w.heap.size)
  (hnew : ∀ j o, l[j]? = some o → A j = true → o.guard = none ∧ ∃ e c t, o.op = .alloc e ∧ ∀ w, (Instr.alloc e true (.tuple #[])).run P w = .ok (.pointer (some ⟨w.heap.size, 0, none⟩)) (w.alloc (.cells c t)))
  (hlate : ∀ v w, Below w0.heap.size w0 w → (∀ i, i < n → i ≠ i0 → T i (v i) w) → ∃ nx w1 u, (∀ o, l[n]? = some o → (execOp (putsV (l.take n) 0 v a0).eval o).run P w = .ok nx w1) ∧ (nx = .skip ∨ ∃ u9, nx = .value u9) ∧ (∀ o, l[i0]? = some o → (execOp (putsV (l.take n) 0 v a0).eval o).run P w1 = .ok (.value u) w1) ∧ T i0 u w) (hA0 : A i0 = false)
  (hend : ∀ v w, Below w0.heap.size w0 w → (∀ i, i < n → T i (v i) w) → (∀ i j, i < n → j < n → i ≠ j → A i = true → A j = true → v i ≠ v j) → wpAny P .any l.toArray Q s (canonL l.length n) (putsV (l.take n) 0 v a0) w) :
  ∀ (m : Nat) (listed : Array Bool) (v : Nat → Value) (w : World), left n listed = m → closedL .any l.toArray listed → sufL n l.toArray listed → Below w0.heap.size w0 w →
   (∀ i, i < n → listed.getD i false = true → T i (v i) w) → (∀ i j, i < n → j < n → i ≠ j → A i = true → A j = true → listed.getD i false = true → listed.getD j false = true → v i ≠ v j) → wpAny P .any l.toArray Q (s + m) listed (putsIf (l.take n) 0 (fun i => listed.getD i false) v a0) w := by
 intro m
 have hlen : (l.take n).length = n := by rw [List.length_take]; omega
 induction m with
 | zero =>
  intro listed v w hl hc hu hb ht hne
  have hd := left_zero hl
  rw [putsIf_all (l.take n) 0 a0 fun i _ h2 => doneN_iff.1 hd i (by omega)]
  have e := canon_of hu hd
  rw [show l.toArray.size = l.length by simp] at e
  rw [e]
  exact hend v w hb (fun i hi => ht i hi (doneN_iff.1 hd i hi)) fun i j hi hj hij ha hb' => hne i j hi hj hij ha hb' (doneN_iff.1 hd i hi) (doneN_iff.1 hd j hj)
 | succ m ih =>
  intro listed v w hl hc hu hb ht hne
  have hnd := left_some hl
  refine ⟨fun h0 => absurd h0 (ready_some hu.1 (by simpa using hn) hD hl), fun j hj => ?_⟩
  by_cases hlt : j < n
  case neg =>
   obtain ⟨rfl, hall⟩ := lateB_bar hB hc hj hnd hlt
   exact late_step hsel hn hB hN hD hlate hA0 hend hl hc hu hb ht hne hj hall
  have hjn := hlt
  obtain ⟨hju, o, ho, -⟩ := mem_ready.1 hj
  have hpre := preds_of_ready hj
  have hol : l[j]? = some o := by simpa using ho
  have hjs : j < l.toArray.size := (Array.getElem?_eq_some_iff.1 ho).1
  have hty := hops j o hjn hol v w hb fun p hp => ht p (by have := depB_pred hD hjn hp; omega) (hpre p hp)
  have hag : ∀ t ∈ o.looksAt l.toArray, (putsIf (l.take n) 0 (fun i => listed.getD i false) v a0).tmps[t]? = (putsV (l.take n) 0 v a0).tmps[t]? := fun t ht' =>
   get_puts (l.take n) 0 a0 a0 rfl fun i o' ho' hd' => by
    have hin : i < n := by rw [← hlen]; exact (List.getElem?_eq_some_iff.1 ho').1
    have ho2 : l.toArray[i]? = some o' := by rw [List.getElem?_take, if_pos hin] at ho'; simpa using ho'
    rw [Nat.zero_add]
    exact hpre i (depB_looks hD hjn hin ho ho2 ht' hd')
  have step : ∀ u w', Below w.heap.size w w' → T j u w' → (A j = true → u = .pointer (some ⟨w.heap.size, 0, none⟩)) → wpAny P .any l.toArray Q (s + m) (listed.setIfInBounds j true) ((putsIf (l.take n) 0 (fun i => listed.getD i false) v a0).put o.dst u) w' := by
   intro u w' hw' hu' hun
   have e := put_at (v := v) (v' := fun i => if i = j then u else v i) (b := fun i => listed.getD i false) (b' := fun i => (listed.setIfInBounds j true).getD i false) (j := j) (u := u) (unl hju) (by simp [hu.1]; simpa using hjs) (by simp)
    (fun i hi => ⟨getD_set_ne false fun e => hi e.symm, by simp [hi]⟩) (l.take n) 0 a0 o hN (Nat.zero_le _) (by rw [Nat.sub_zero, List.getElem?_take, if_pos hjn]; exact hol)
   rw [e]
   refine ih _ _ w' (left_set (ops := l.toArray) hu.1 hjn hjs (unl hju) hl) (hc.set hj) ⟨by simpa using hu.1, fun k hk hks => by rw [getD_set_ne true (by omega)]; exact hu.2 k hk hks⟩ (hb.trans (hw'.mono hb.size)) (fun i hi hli => ?_) ?_
   ·by_cases e : i = j
    ·subst e; simpa using hu'
    ·rw [getD_set_ne false fun e' => e e'.symm] at hli
     simp only [if_neg e]
     exact hT i _ _ _ hw' (ht i hi hli)
   intro i k hi hk hik hAi hAk hli hlk
   by_cases e : i = j
   ·subst e
    have e2 : k ≠ i := fun e => hik e.symm
    rw [getD_set_ne false fun e' => e2 e'.symm] at hlk
    simp only [if_neg e2, if_pos]
    obtain ⟨b, hb1, hb2⟩ := hptr k hAk _ _ (ht k hk hlk)
    rw [hb1, hun hAi]
    intro he
    simp only [Value.pointer.injEq, Option.some.injEq, Addr.mk.injEq, and_true] at he
    omega
   ·rw [getD_set_ne false fun e' => e e'.symm] at hli
    by_cases e2 : k = j
    ·subst e2
     simp only [if_neg e, if_pos]
     obtain ⟨b, hb1, hb2⟩ := hptr i hAi _ _ (ht i hi hli)
     rw [hb1, hun hAk]
     intro he
     simp only [Value.pointer.injEq, Option.some.injEq, Addr.mk.injEq, and_true] at he
     omega
    ·rw [getD_set_ne false fun e' => e2 e'.symm] at hlk
     simp only [if_neg e, if_neg e2]
     exact hne i k hi hk hik hAi hAk hli hlk
  unfold wpOp
  simp only [ho]
  unfold TyAt at hty
  rw [← wanted_same hag] at hty
  by_cases hw : Region.wanted o (yielded l.toArray (putsIf (l.take n) 0 (fun i => listed.getD i false) v a0).tmps) = true
  ·simp only [hw, if_true] at hty ⊢
   refine .inl ?_
   unfold Oper.wp
   rw [exec_same (fun cs b => Region.noSelect_spec hsel j o cs b ho) hag]
   have hal : A j = true → ∀ u w', (execOp (putsV (l.take n) 0 v a0).eval o).run P w = .ok (.value u) w' → u = .pointer (some ⟨w.heap.size, 0, none⟩) := fun hA u w' hr => by
    obtain ⟨_, e, c, t, he, hal⟩ := hnew j o hol hA
    rw [alloc_run he hal] at hr
    simp only [Result.ok.injEq, Next.value.injEq] at hr
    exact hr.1.symm
   have hal2 : A j = true → ∀ w', (execOp (putsV (l.take n) 0 v a0).eval o).run P w ≠ .ok .skip w' := fun hA w' hr => by
    obtain ⟨_, e, c, t, he, hal⟩ := hnew j o hol hA
    rw [alloc_run he hal] at hr
    cases hr
   have hal3 : A j = true → ∀ f args w', (execOp (putsV (l.take n) 0 v a0).eval o).run P w ≠ .ok (.enter f args) w' := fun hA f args w' hr => by
    obtain ⟨_, e, c, t, he, hal⟩ := hnew j o hol hA
    rw [alloc_run he hal] at hr
    cases hr
   generalize (execOp (putsV (l.take n) 0 v a0).eval o).run P w = r at *
   cases r with
   | ok nx w' =>
    cases nx <;> simp only [tyUpon] at hty <;> simp only [Oper.upon]
    case value u => exact step u w' hty.1 hty.2 fun hA => hal hA u w' rfl
    case skip => exact step undef w' hty.1 hty.2 fun hA => absurd rfl (hal2 hA w')
    case enter f args =>
     obtain ⟨rfl, hcall⟩ := hty
     exact hcall.mono fun e w'' ⟨u, he, h1, h2⟩ => by subst he; exact step u w'' h2 h1 fun hA => absurd rfl (hal3 hA f args _)
   | halt x w' => simp only [tyUpon] at hty
  ·simp only [hw] at hty ⊢
   exact step undef w (Below.refl _ _) hty fun hA => by
    obtain ⟨hg, _⟩ := hnew j o hol hA
    exact absurd (by unfold Region.wanted; rw [hg]) hw
def tyBl (n i0 : Nat) (l : List Oper) : Bool :=
 Region.noSelect l.toArray && decide (n ≤ l.length) && lateB n i0 l && nodupD (l.take n) && depB l.toArray n && seqB .any l.toArray (l.length - n) n (canonL l.length n)
/-- **A region whose first n operations each give a value of a property; then the others, in their order.** -/
theorem region_tg (n i0 : Nat) (T : Nat → Value → World → Prop) (A : Nat → Bool) {id : Nat} {Q : Exit → Act → World → Prop} {a : Act} {w : World} {l : List Oper} (hm : P.follows .mixedOrders = true) (hB : tyBl n i0 l = true) (hT : ∀ i, Stays (T i))
  (hops : ∀ j o, j < n → l[j]? = some o → ∀ v w1, Below w.drew.heap.size w.drew w1 → (∀ p ∈ predsOf .any l.toArray j, T p (v p) w1) → TyAt P l.toArray o (putsV (l.take n) 0 v a) w1 (T j))
  (hptr : ∀ j, A j = true → ∀ u w, T j u w → ∃ k, u = .pointer (some ⟨k, 0, none⟩) ∧ k < w.heap.size)
  (hnew : ∀ j o, l[j]? = some o → A j = true → o.guard = none ∧ ∃ e c t, o.op = .alloc e ∧ ∀ w, (Instr.alloc e true (.tuple #[])).run P w = .ok (.pointer (some ⟨w.heap.size, 0, none⟩)) (w.alloc (.cells c t)))
  (hlate : ∀ v w2, Below w.drew.heap.size w.drew w2 → (∀ i, i < n → i ≠ i0 → T i (v i) w2) → ∃ nx w1 u, (∀ o, l[n]? = some o → (execOp (putsV (l.take n) 0 v a).eval o).run P w2 = .ok nx w1) ∧ (nx = .skip ∨ ∃ u9, nx = .value u9) ∧ (∀ o, l[i0]? = some o → (execOp (putsV (l.take n) 0 v a).eval o).run P w1 = .ok (.value u) w1) ∧ T i0 u w2) (hA0 : A i0 = false)
  (hend : ∀ v w1, Below w.drew.heap.size w.drew w1 → (∀ i, i < n → T i (v i) w1) → (∀ i j, i < n → j < n → i ≠ j → A i = true → A j = true → v i ≠ v j) → wpList P l.toArray Q (l.drop n) (putsV (l.take n) 0 v a) w1) : (Code.region id l.toArray true).wp P Q a w := by
 simp only [tyBl, Bool.and_eq_true, decide_eq_true_eq] at hB
 obtain ⟨⟨⟨⟨⟨hs, hn⟩, hb⟩, hN⟩, hD⟩, hq⟩ := hB
 refine wp_region_any hm ?_
 have hrep : ∀ i, (Array.replicate l.length false).getD i false = false := fun i => by
  rcases Nat.lt_or_ge i l.length with h' | h' <;> simp [h']
 have h0 : closedL .any l.toArray (Array.replicate l.length false) := fun j o _ hl => by rw [hrep] at hl; cases hl
 have hleft : left n (Array.replicate l.length false) = n := by
  unfold left
  rw [List.countP_eq_length.2 fun i _ => by rw [hrep]; rfl, List.length_range]
 have h2 := wpAny_tb (i0 := i0) (A := A) (P := P) (s := l.length - n) (Q := Q) (a0 := a) hT hs hn hb hN hD hops hptr hnew hlate hA0 (fun v w1 h1 h2 hdis => by
   have h3 := wpAny_of_seq (md := .any) (P := P) (Q' := Q) (l.drop n) n (canonL l.length n) (putsV (l.take n) 0 v a) w1 (fun j hj => by simp [List.getElem?_drop]) (by rw [List.length_drop]; exact hq) (hend v w1 h1 h2 hdis)
   rw [List.length_drop] at h3
   exact h3) n (Array.replicate l.length false) (fun _ => undef) w.drew hleft h0 ⟨by simp, fun j _ hj => by simp at hj; simp [hj]⟩ (Below.refl _ _) (fun i _ hl => by rw [hrep] at hl; cases hl) (fun i j _ _ _ _ _ hl => by rw [hrep] at hl; cases hl)
 rw [putsIf_none (l.take n) 0 a fun i _ _ => hrep i, Nat.sub_add_cancel hn] at h2
 simpa using h2
/-- region_tg, with its properties as a list; A: the operations that make boxes. -/
theorem region_tgl (n i0 : Nat) (L : List (Value → World → Prop)) (A : List Nat) {id : Nat} {Q : Exit → Act → World → Prop} {a : Act} {w : World} {l : List Oper} (hm : P.follows .mixedOrders = true) (hB : tyBl n i0 l = true) (hT : ∀ i, Stays (L.getD i (fun _ _ => True)))
  (hops : hopsR P l.toArray (fun i => L.getD i (fun _ _ => True)) w.drew (fun v => putsV (l.take n) 0 v a) (l.take n) 0)
  (hptr : ∀ j, A.contains j = true → ∀ u w, L.getD j (fun _ _ => True) u w → ∃ k, u = .pointer (some ⟨k, 0, none⟩) ∧ k < w.heap.size)
  (hnew : newR P l A)
  (hlate : ∀ v w2, Below w.drew.heap.size w.drew w2 → (∀ i, i < n → i ≠ i0 → L.getD i (fun _ _ => True) (v i) w2) → ∃ nx w1 u, (∀ o, l[n]? = some o → (execOp (putsV (l.take n) 0 v a).eval o).run P w2 = .ok nx w1) ∧ (nx = .skip ∨ ∃ u9, nx = .value u9) ∧ (∀ o, l[i0]? = some o → (execOp (putsV (l.take n) 0 v a).eval o).run P w1 = .ok (.value u) w1) ∧ L.getD i0 (fun _ _ => True) u w2) (hA0 : A.contains i0 = false)
  (hend : ∀ v w1, Below w.drew.heap.size w.drew w1 → (∀ i, i < n → L.getD i (fun _ _ => True) (v i) w1) → (∀ i j, i < n → j < n → i ≠ j → A.contains i = true → A.contains j = true → v i ≠ v j) → wpList P l.toArray Q (l.drop n) (putsV (l.take n) 0 v a) w1) : (Code.region id l.toArray true).wp P Q a w :=
 region_tg n i0 (fun i => L.getD i (fun _ _ => True)) (fun i => A.contains i) hm hB hT (fun j o hj ho v w1 hb hp => by
  have := hops_of (l.take n) 0 hops j o (by rw [List.getElem?_take, if_pos hj]; exact ho) v w1 hb (by rw [Nat.zero_add]; exact hp)
  rwa [Nat.zero_add] at this) hptr (fun j o ho hA => newR_spec hnew j o ho hA) hlate hA0 hend
/-- .. where the operation n stores. -/
theorem region_tbl (n i0 : Nat) (L : List (Value → World → Prop)) (A : List Nat) {id : Nat} {Q : Exit → Act → World → Prop} {a : Act} {w : World} {l : List Oper} (hm : P.follows .mixedOrders = true) (hB : tyBl n i0 l = true) (hT : ∀ i, Stays (L.getD i (fun _ _ => True)))
  (hops : hopsR P l.toArray (fun i => L.getD i (fun _ _ => True)) w.drew (fun v => putsV (l.take n) 0 v a) (l.take n) 0)
  (hptr : ∀ j, A.contains j = true → ∀ u w, L.getD j (fun _ _ => True) u w → ∃ k, u = .pointer (some ⟨k, 0, none⟩) ∧ k < w.heap.size)
  (hnew : newR P l A)
  (hlate : ∀ v w2, Below w.drew.heap.size w.drew w2 → (∀ i, i < n → i ≠ i0 → L.getD i (fun _ _ => True) (v i) w2) → ∃ w1 u, (∀ o, l[n]? = some o → (execOp (putsV (l.take n) 0 v a).eval o).run P w2 = .ok .skip w1) ∧ (∀ o, l[i0]? = some o → (execOp (putsV (l.take n) 0 v a).eval o).run P w1 = .ok (.value u) w1) ∧ L.getD i0 (fun _ _ => True) u w2) (hA0 : A.contains i0 = false)
  (hend : ∀ v w1, Below w.drew.heap.size w.drew w1 → (∀ i, i < n → L.getD i (fun _ _ => True) (v i) w1) → (∀ i j, i < n → j < n → i ≠ j → A.contains i = true → A.contains j = true → v i ≠ v j) → wpList P l.toArray Q (l.drop n) (putsV (l.take n) 0 v a) w1) : (Code.region id l.toArray true).wp P Q a w :=
 region_tgl n i0 L A hm hB hT hops hptr hnew (fun v w2 h1 h2 => by
  obtain ⟨w1, u, a1, a2, a3⟩ := hlate v w2 h1 h2
  exact ⟨.skip, w1, u, a1, .inl rfl, a2, a3⟩) hA0 hend
end
end Go.Proofs.YthffglapmkkohaaGreatDoor
namespace Go.Proofs.YthffglapmkkohaaGreatDoor
open Go.RowKit
attribute [local irreducible] lo hs sm s64 c64 d64 b64 mh ml pd pc qd qc val hiB str cmpI srD lz nb zl zh zs fe
theorem keepsC {w w' : World} {a : Addr} {v : Value} (hb : Below w.heap.size w w') (h : w.cell? a = some v) : w'.cell? a = some v := (hb.cell (World.block_lt_of_cell? w _ h)).trans h
theorem vof1_w (i na ca ga b1 : Nat) (x : Int) (r : Rat) (HC : ∀ w, Calls Tryz.prog 12 #[.int .i64 x] w fun xe w' => xe = .returned (fracV r) ∧ Below w.heap.size w w') (hi : i < na) (w : World) (c0 : w.cell? ⟨b1, 0, none⟩ = some (.slice (some ⟨ga, 0, none⟩) na ca)) (c1 : w.cell? ⟨ga, i, none⟩ = some (.int .i64 x)) :
  Calls Tryz.prog 125 #[.int .i64 (i : Int), .pointer (some ⟨b1, 0, none⟩)] w fun xe w' => xe = .returned (fracV r) ∧ Below w.heap.size w w' := by
 replace HC := Lib.hid HC
 have k0 : (0 : Int) ≤ (i : Int) := Int.natCast_nonneg _
 have k1 : (i : Int) < (na : Int) := by omega
 clear hi
 have hL0 : GL w w [] := GL.start w
 have hb0 : Below w.heap.size w (w.alloc (.cells #[.int .u64 0, .string ⟨#[]⟩, .bool false, .int .u64 0, .string ⟨#[]⟩] 36)) := (Below.refl _ _).alloc (Nat.le_refl _) _
 replace c0 := keepsC hb0 c0
 replace c1 := keepsC hb0 c1
 replace hL0 := hL0.new rfl [.int .u64 0, .string ⟨#[]⟩, .bool false, .int .u64 0, .string ⟨#[]⟩] 36
 generalize hweq : w.alloc (.cells #[.int .u64 0, .string ⟨#[]⟩, .bool false, .int .u64 0, .string ⟨#[]⟩] 36) = x1 at hL0 c0 c1
 clear hb0
 go_enter Tryz.func125, Tryz.ntmps125
 go_wp2_with fail
 with_reducible refine Calls.mono (HC.out _) ?_
 rintro e x2 ⟨rfl, hb⟩
 replace hL0 := hL0.call hb
 clear hb hweq c0 c1
 have hA := hL0.fc
 simp only [zF, Nat.reduceAdd] at hA
 have hPt := hL0.put 0 (w.heap.size) _ rfl [.int .u64 ((zl r.num : Nat) : Int), .string (zh r.num), .bool (zs r.num), .int .u64 ((lo (fe r) : Nat) : Int), .string (hs (fe r))] rfl
 simp only [setAll, List.set_cons_zero, List.set_cons_succ] at hPt
 generalize hput1 : (((((x2.setCell ⟨w.heap.size, 0, none⟩ (.int .u64 ((zl r.num : Nat) : Int))).setCell ⟨w.heap.size, 1, none⟩ (.string (zh r.num))).setCell ⟨w.heap.size, 2, none⟩ (.bool (zs r.num))).setCell ⟨w.heap.size, 3, none⟩ (.int .u64 ((lo (fe r) : Nat) : Int))).setCell ⟨w.heap.size, 4, none⟩ (.string (hs (fe r)))) = x9 at hPt
 have hB1 := hPt.fc
 simp only [zF, Nat.reduceAdd] at hB1
 go_wp2_with fail
 exact bodyPost_ret (v := fracV r) (by simp [results, Tryz.results125, go_sem, hB1]) rfl ⟨rfl, hPt.bl⟩
end Go.Proofs.YthffglapmkkohaaGreatDoor
namespace Go.Proofs.YthffglapmkkohaaGreatDoor
open Go.RowKit
attribute [local irreducible] lo hs sm s64 c64 d64 b64 mh ml pd pc qd qc val hiB str cmpI srD lz nb zl zh zs fe rowV
theorem veach_w (K : FuncId) (caps : Array Value) (eg : ∀ (args : Array Value) (w : World), (callFunc K args).run Tryz.prog w = .ok (.enter K args) w) (n : Nat) (f : Nat → Rat) (P : World → Prop) (hP : Keeps P)
  (HC : ∀ i, i < n → ∀ w, P w → Calls Tryz.prog K (#[.int .i64 (i : Int)] ++ caps) w fun xe w' => xe = .returned (fracV (f i)) ∧ Below w.heap.size w w')
  (hn : n ≤ 100000) (w : World) (kP : P w) :
  Calls Tryz.prog 79 #[.int .i64 (n : Int), .func (.func K) #[] caps] w fun xe w' => ∃ v, xe = .returned v ∧ NV w.heap.size (tabV n f) v w' ∧ Below w.heap.size w w' := by
 have hmk := fun W => makeV W (n : Int) n rfl (by omega)
 replace hP := Lib.hid hP
 replace HC := Lib.hid HC
 replace hn := Lib.hid hn
 have hL0 : GL w w [] := GL.start w
 obtain ⟨x1, hweq, hL0⟩ := GL.named (hL0.new rfl (frCs (List.replicate n 0)) 36)
 rw [← rowV_zero f n] at hL0
 replace kP := Lib.hid kP
 go_enter Tryz.func79, Tryz.ntmps79
 go_wp2_with fail
 clear hweq hmk
 obtain ⟨g, hg⟩ : ∃ g, g = w.heap.size := ⟨_, rfl⟩
 rw [← hg] at hL0 ⊢
 replace hg := Lib.hid hg
 go_loopg [10] n (fun gk iv wr => ∃ (k : Nat) (zi : Int), k + gk = n ∧ iv = .int .i64 zi ∧ zi = (k : Int) ∧ GL w wr [(g, frCs (rowV f n k))])
 case atStart => exact ⟨0, 0, Nat.zero_add n, by first | rfl | go_num, rfl, hL0⟩
 case round =>
  clear hL0
  obtain ⟨k, zi, hik, rfl, hzi, hL0⟩ := hrel
  rcases Nat.lt_or_ge k n with hin | hin
  ·subst hzi
   have k1 : (k : Int) < (n : Int) := by omega
   have k0 : (0 : Int) ≤ (k : Int) := Int.natCast_nonneg _
   have kb : (k : Int) ≤ 100000 := by have := hn.out; omega
   have HC1 := HC.out k hin
   obtain ⟨q, hq⟩ : ∃ q, q = f k := ⟨_, rfl⟩
   rw [← hq] at HC1
   replace hq := Lib.hid hq
   replace HC1 := Lib.hid HC1
   go_wp2_with fail
   with_reducible refine Calls.mono (HC1.out _ (hP.out.at hL0.bl kP.out)) ?_
   rintro e y1 ⟨rfl, hb⟩
   replace hL0 := hL0.call hb
   clear hb
   have zh := hL0.get _ _ mZ
   have hlen := rowV_len f n k (Nat.le_of_lt hin)
   obtain ⟨z0, z1, z2, z3, z4⟩ := (hd_fs zh).cell k (by omega)
   have zz := zh.frz
   clear zh
   have hPt := hL0.putF 0 g (rowV f n k) rfl k q (by omega)
   simp only [List.set_cons_zero, List.set_cons_succ] at hPt
   generalize hputr : (((((y1.setCell ⟨g, k * 5, none⟩ (.int .u64 ((zl q.num : Nat) : Int))).setCell ⟨g, k * 5 + 1, none⟩ (.string (zh q.num))).setCell ⟨g, k * 5 + 2, none⟩ (.bool (zs q.num))).setCell ⟨g, k * 5 + 3, none⟩ (.int .u64 ((lo (fe q) : Nat) : Int))).setCell ⟨g, k * 5 + 4, none⟩ (.string (hs (fe q)))) = y2 at hPt
   rw [hq.out, rowV_step f n k hin] at hPt
   clear hL0
   have hL0 := hPt
   clear hPt
   go_wp2_with fail
   go_roundg (n - (k + 1))
   case measure => omega
   case rel => exact ⟨k + 1, _, by omega, by first | rfl | go_num, by omega, hL0⟩
  ·obtain rfl : k = n := by omega
   subst hzi
   have k1 : ¬ (k : Int) < (k : Int) := by omega
   rw [rowV_end] at hL0
   have hNV : NV w.heap.size (tabV k f) (.slice (some ⟨g, 0, none⟩) k k) wr := ⟨g, by rw [tabV_len], Nat.le_of_eq hg.out.symm, hL0.get _ _ mZ⟩
   replace hNV := Lib.hid hNV
   go_wp2_with fail
   exact bodyPost_ret (v := .slice (some ⟨g, 0, none⟩) k k) (by simp [results, Tryz.results79, go_sem]) rfl ⟨_, rfl, hNV.out, hL0.bl⟩
end Go.Proofs.YthffglapmkkohaaGreatDoor
namespace Go.Proofs.YthffglapmkkohaaGreatDoor
open Go.RowKit
attribute [local irreducible] lo hs sm s64 c64 d64 b64 mh ml pd pc qd qc val hiB str cmpI srD lz nb zl zh zs fe rowV
theorem vfault_w (m c g : Nat) (ao : Option Addr) (ln : Nat → Nat) (hm : m ≤ 100000) (hln : ∀ i, i < m → ln i ≤ 2048) (w : World)
  (hx : 0 < m → ao = some ⟨g, 0, none⟩) (hc : ∀ i, i < m → ∃ a d, w.cell? ⟨g, i, none⟩ = some (.slice a (ln i) d)) :
  Calls Tryz.prog 74 #[.slice ao m c] w fun xe w' => ∃ e : Int, xe = .returned (.int .i64 e) ∧ ((e = 0 ∧ ∀ i, i < m → ln i = ln 0) ∨ (e = 1 ∧ ∃ i, i < m ∧ ln i ≠ ln 0)) ∧ Below w.heap.size w w' := by
 replace hm := Lib.hid hm
 replace hln := Lib.hid hln
 replace hx := Lib.hid hx
 replace hc := Lib.hid hc
 go_enter Tryz.func74, Tryz.ntmps74
 go_wp2_with fail
 go_loopg [9] m (fun gk iv wr => ∃ (k : Nat) (zi : Int), k + gk = m ∧ iv = .int .i64 zi ∧ zi = (k : Int) ∧ wr = w)
 case atStart => exact ⟨0, 0, Nat.zero_add m, by first | rfl | go_num, rfl, rfl⟩
 case round =>
  obtain ⟨k, zi, hik, rfl, hzi, hwr⟩ := hrel
  subst hwr
  have hmm := hm.out
  rcases Nat.lt_or_ge k m with hin | hin
  ·subst hzi
   have k1 : (k : Int) < (m : Int) := by omega
   have k0 : (0 : Int) ≤ (k : Int) := Int.natCast_nonneg _
   have kb : (k : Int) ≤ 100000 := by omega
   obtain ⟨a, d, hcell⟩ := hc.out k hin
   have hl := hln.out k hin
   have e0 := hx.out (by omega)
   subst e0
   have l1 : ¬ (2048 : Int) < (ln k : Int) := by omega
   have l2 : ¬ 2048 < ln k := by omega
   generalize ln k = lk at *
   go_wp2_with fail
   go_roundg (m - (k + 1))
   case measure => omega
   case rel => exact ⟨k + 1, _, by omega, by first | rfl | go_num, by omega, rfl⟩
  ·obtain rfl : k = m := by omega
   subst hzi
   have k1 : ¬ (k : Int) < (k : Int) := by omega
   go_wp2_with fail
   go_loopg [19] k (fun gk iv wr2 => ∃ (j : Nat) (zi : Int), j + gk = k ∧ iv = .int .i64 zi ∧ zi = (j : Int) ∧ (∀ i, i < j → ln i = ln 0) ∧ wr2 = wr)
   case atStart => exact ⟨0, 0, Nat.zero_add k, by first | rfl | go_num, rfl, fun i hi => by omega, rfl⟩
   case round =>
    obtain ⟨j, zi, hjk, rfl, hzi, hall, hwr⟩ := hrel
    subst hwr
    replace hall := Lib.hid hall
    rcases Nat.lt_or_ge j k with hjn | hjn
    ·subst hzi
     have k2 : (j : Int) < (k : Int) := by omega
     have k3 : (0 : Int) ≤ (j : Int) := Int.natCast_nonneg _
     have kb : (j : Int) ≤ 100000 := by omega
     have k4 : (0 : Int) < (k : Int) := by omega
     obtain ⟨a, d, hcell⟩ := hc.out j hjn
     obtain ⟨a2, d2, hcell2⟩ := hc.out 0 (by omega)
     have e0 := hx.out (by omega)
     subst e0
     by_cases heq : ln j = ln 0
     ·have hall2 : ∀ i, i < j + 1 → ln i = ln 0 := fun i hi => by
       rcases Nat.lt_or_ge i j with h | h
       ·exact hall.out i h
       ·rw [show i = j by omega]; exact heq
      replace hall2 := Lib.hid hall2
      rw [heq] at hcell
      clear heq
      generalize hl0 : ln 0 = l0 at hcell hcell2
      replace hl0 := Lib.hid hl0
      go_wp2_with fail
      go_roundg (k - (j + 1))
      case measure => omega
      case rel => exact ⟨j + 1, _, by omega, by first | rfl | go_num, by omega, hall2.out, rfl⟩
     ·have hex : ∃ i, i < k ∧ ln i ≠ ln 0 := ⟨j, hjn, heq⟩
      replace hex := Lib.hid hex
      have n1 : ¬ (ln j : Int) = (ln 0 : Int) := by omega
      have n2 : ((ln j : Int) == (ln 0 : Int)) = false := beq_eq_false_iff_ne.2 n1
      have n3 : (ln j == ln 0) = false := beq_eq_false_iff_ne.2 heq
      go_wp2_with fail
      exact bodyPost_ret (v := .int .i64 1) (by simp [results, Tryz.results74, go_sem]) rfl ⟨1, rfl, .inr ⟨rfl, hex.out⟩, Below.refl _ _⟩
    ·obtain rfl : j = k := by omega
     subst hzi
     have k2 : ¬ (j : Int) < (j : Int) := by omega
     go_wp2_with fail
     exact bodyPost_ret (v := .int .i64 0) (by simp [results, Tryz.results74, go_sem]) rfl ⟨0, rfl, .inl ⟨rfl, hall.out⟩, Below.refl _ _⟩
end Go.Proofs.YthffglapmkkohaaGreatDoor
namespace Go.Proofs.YthffglapmkkohaaGreatDoor
open Go.RowKit
attribute [local irreducible] lo hs sm s64 c64 d64 b64 mh ml pd pc qd qc val hiB str cmpI srD lz nb zl zh zs fe rowV tabV gv bsV
theorem fsc {w : World} {g : Nat} {l : List Rat} (h : FS w g l) (i : Nat) (hi : i < l.length) : w.cell? ⟨g, i * 5, none⟩ = some (.int .u64 ((zl (gv l i).num : Nat) : Int)) ∧ w.cell? ⟨g, i * 5 + 1, none⟩ = some (.string (zh (gv l i).num)) ∧ w.cell? ⟨g, i * 5 + 2, none⟩ = some (.bool (zs (gv l i).num)) ∧
  w.cell? ⟨g, i * 5 + 3, none⟩ = some (.int .u64 ((lo (fe (gv l i)) : Nat) : Int)) ∧ w.cell? ⟨g, i * 5 + 4, none⟩ = some (.string (hs (fe (gv l i)))) := by
 rw [gv_get hi]; exact h.cell i hi
theorem slq_form' {w : World} {v : Value} {l : List Rat} (h : SlQ w v l) : ∃ ao c, v = .slice ao l.length c := by
 obtain ⟨ao, c, e, _⟩ := slq_len h
 exact ⟨ao, c, e⟩
theorem slq_at {w : World} {ao : Option Addr} {n c : Nat} {l : List Rat} (h : SlQ w (.slice ao n c) l) (i : Nat) (hi : i < l.length) : ∃ g, ao = some ⟨g, 0, none⟩ ∧ n = l.length ∧ FS w g l := slq_pos h (by omega)
theorem qsk (l : List Rat) {k : Nat} (h : ∀ q ∈ l, Sz q k) (i : Nat) (hi : i < l.length) : Sz (gv l i) k := h _ (gv_mem hi)
theorem endot : ∀ (args : Array Value) (w : World), (callFunc 151 args).run Tryz.prog w = .ok (.enter 151 args) w := enters_of Tryz.func151 (by kernel_rfl) rfl
theorem enof : ∀ (args : Array Value) (w : World), (callFunc 125 args).run Tryz.prog w = .ok (.enter 125 args) w := enters_of Tryz.func125 (by kernel_rfl) rfl
/-- A fraction in a box. -/
def Bq (w : World) (b : Nat) (q : Rat) : Prop := w.cell? ⟨b, 0, none⟩ = some (.int .u64 ((zl q.num : Nat) : Int)) ∧ w.cell? ⟨b, 1, none⟩ = some (.string (zh q.num)) ∧ w.cell? ⟨b, 2, none⟩ = some (.bool (zs q.num)) ∧ w.cell? ⟨b, 3, none⟩ = some (.int .u64 ((lo (fe q) : Nat) : Int)) ∧ w.cell? ⟨b, 4, none⟩ = some (.string (hs (fe q)))
theorem Bq.keeps (b : Nat) (q : Rat) : Keeps fun w => Bq w b q := fun _ _ hb h => ⟨keepsC hb h.1, keepsC hb h.2.1, keepsC hb h.2.2.1, keepsC hb h.2.2.2.1, keepsC hb h.2.2.2.2⟩
theorem Bq.of {w : World} {b : Nat} {q : Rat} (h : Hd w b [.int .u64 ((zl q.num : Nat) : Int), .string (zh q.num), .bool (zs q.num), .int .u64 ((lo (fe q) : Nat) : Int), .string (hs (fe q))]) : Bq w b q :=
 ⟨h.cell 0 (by simp), h.cell 1 (by simp), h.cell 2 (by simp), h.cell 3 (by simp), h.cell 4 (by simp)⟩
theorem keepsB (a : Addr) (v : Value) : Keeps fun w => w.cell? a = some v := fun _ _ hb h => keepsC hb h
end Go.Proofs.YthffglapmkkohaaGreatDoor
namespace Go.Proofs.YthffglapmkkohaaGreatDoor
open Go.RowKit
attribute [local irreducible] lo hs sm s64 c64 d64 b64 mh ml pd pc qd qc val hiB str cmpI srD lz nb zl zh zs
theorem ne_fr {p q : Rat} (h : p ≠ q) : (((zl p.num : Nat) : Int) == ((zl q.num : Nat) : Int)) = false ∨
  ((((zl p.num : Nat) : Int) == ((zl q.num : Nat) : Int)) = true ∧ ((zh p.num).toList == (zh q.num).toList) = false) ∨
  ((((zl p.num : Nat) : Int) == ((zl q.num : Nat) : Int)) = true ∧ ((zh p.num).toList == (zh q.num).toList) = true ∧ (zs p.num == zs q.num) = false) ∨
  ((((zl p.num : Nat) : Int) == ((zl q.num : Nat) : Int)) = true ∧ ((zh p.num).toList == (zh q.num).toList) = true ∧ (zs p.num == zs q.num) = true ∧ (((lo (fe p) : Nat) : Int) == ((lo (fe q) : Nat) : Int)) = false) ∨
  ((((zl p.num : Nat) : Int) == ((zl q.num : Nat) : Int)) = true ∧ ((zh p.num).toList == (zh q.num).toList) = true ∧ (zs p.num == zs q.num) = true ∧ (((lo (fe p) : Nat) : Int) == ((lo (fe q) : Nat) : Int)) = true ∧ ((hs (fe p)).toList == (hs (fe q)).toList) = false) := by
 by_cases hn : p.num = q.num
 ·have he : fe p ≠ fe q := fun e => h (fracV_inj (by unfold fracV; rw [hn, e]))
  rw [hn]
  rcases ne_nat he with h1 | ⟨h1, h2⟩
  ·exact .inr (.inr (.inr (.inl ⟨by simp, by simp, by simp, h1⟩)))
  ·exact .inr (.inr (.inr (.inr ⟨by simp, by simp, by simp, h1, h2⟩)))
 ·rcases ne_int hn with h1 | h1 | h1
  ·exact .inl h1
  ·exact .inr (.inl h1)
  ·exact .inr (.inr (.inl h1))
/-- What == sees of two fractions, as they are the same or not. -/
theorem same_fr {p q : Rat} {y : Bool} (hy : y = decide (p = q)) : (((((zl p.num : Nat) : Int) == ((zl q.num : Nat) : Int)) = true ∧ ((zh p.num).toList == (zh q.num).toList) = true ∧ (zs p.num == zs q.num) = true ∧ (((lo (fe p) : Nat) : Int) == ((lo (fe q) : Nat) : Int)) = true ∧ ((hs (fe p)).toList == (hs (fe q)).toList) = true) ∧ y = true) ∨
  (((((zl p.num : Nat) : Int) == ((zl q.num : Nat) : Int)) = false) ∧ y = false) ∨
  (((((zl p.num : Nat) : Int) == ((zl q.num : Nat) : Int)) = true ∧ ((zh p.num).toList == (zh q.num).toList) = false) ∧ y = false) ∨
  (((((zl p.num : Nat) : Int) == ((zl q.num : Nat) : Int)) = true ∧ ((zh p.num).toList == (zh q.num).toList) = true ∧ (zs p.num == zs q.num) = false) ∧ y = false) ∨
  (((((zl p.num : Nat) : Int) == ((zl q.num : Nat) : Int)) = true ∧ ((zh p.num).toList == (zh q.num).toList) = true ∧ (zs p.num == zs q.num) = true ∧ (((lo (fe p) : Nat) : Int) == ((lo (fe q) : Nat) : Int)) = false) ∧ y = false) ∨
  (((((zl p.num : Nat) : Int) == ((zl q.num : Nat) : Int)) = true ∧ ((zh p.num).toList == (zh q.num).toList) = true ∧ (zs p.num == zs q.num) = true ∧ (((lo (fe p) : Nat) : Int) == ((lo (fe q) : Nat) : Int)) = true ∧ ((hs (fe p)).toList == (hs (fe q)).toList) = false) ∧ y = false) := by
 subst hy
 by_cases h : p = q
 ·subst h
  exact .inl ⟨⟨by simp, by simp, by simp, by simp, by simp⟩, decide_eq_true rfl⟩
 ·have hd := decide_eq_false h
  rcases ne_fr h with h1 | h1 | h1 | h1 | h1
  ·exact .inr (.inl ⟨h1, hd⟩)
  ·exact .inr (.inr (.inl ⟨h1, hd⟩))
  ·exact .inr (.inr (.inr (.inl ⟨h1, hd⟩)))
  ·exact .inr (.inr (.inr (.inr (.inl ⟨h1, hd⟩))))
  ·exact .inr (.inr (.inr (.inr (.inr ⟨h1, hd⟩))))
end Go.Proofs.YthffglapmkkohaaGreatDoor
namespace Go.Proofs.YthffglapmkkohaaGreatDoor
open Go.RowKit
attribute [local irreducible] lo hs sm s64 c64 d64 b64 mh ml pd pc qd qc val hiB str cmpI srD lz nb zl zh zs fe rowV tabV gv bsV
theorem run_neqF (p q : Rat) (y : Bool) (hy : y = decide (p = q)) (W : World) : (binOp .neq 36 (fracV p) (fracV q)).run Tryz.prog W = .ok (.bool (!y)) W := by
 rcases same_fr hy with hz | hz | hz | hz | hz | hz <;> simp [go_sem, hz]
theorem vindex_in (i n : Int) (h0 : 0 ≤ i) (h1 : i < n) (w : World) : Calls Tryz.prog 78 #[.int .i64 i, .int .i64 n] w fun xe w' => xe = .returned (.bool true) ∧ Below w.heap.size w w' := by
 go_enter Tryz.func78, Tryz.ntmps78
 go_wp2_with fail
 exact bodyPost_ret (v := .bool true) (by simp [results, Tryz.results78, go_sem]) rfl ⟨rfl, Below.refl _ _⟩
theorem vindex_low (i n : Int) (h0 : i < 0) (w : World) : Calls Tryz.prog 78 #[.int .i64 i, .int .i64 n] w fun xe w' => xe = .returned (.bool false) ∧ Below w.heap.size w w' := by
 have h1 : ¬ 0 ≤ i := by omega
 go_enter Tryz.func78, Tryz.ntmps78
 go_wp2_with fail
 exact bodyPost_ret (v := .bool false) (by simp [results, Tryz.results78, go_sem]) rfl ⟨rfl, Below.refl _ _⟩
theorem vindex_high (i n : Int) (h0 : 0 ≤ i) (h1 : n ≤ i) (w : World) : Calls Tryz.prog 78 #[.int .i64 i, .int .i64 n] w fun xe w' => xe = .returned (.bool false) ∧ Below w.heap.size w w' := by
 have h2 : ¬ i < n := by omega
 go_enter Tryz.func78, Tryz.ntmps78
 go_wp2_with fail
 exact bodyPost_ret (v := .bool false) (by simp [results, Tryz.results78, go_sem]) rfl ⟨rfl, Below.refl _ _⟩
theorem vindexV (i n : Int) (w : World) : Calls Tryz.prog 78 #[.int .i64 i, .int .i64 n] w fun xe w' => xe = .returned (.bool (decide (0 ≤ i ∧ i < n))) ∧ Below w.heap.size w w' := by
 by_cases h0 : 0 ≤ i
 ·by_cases h1 : i < n
  ·rw [decide_eq_true ⟨h0, h1⟩]; exact vindex_in i n h0 h1 w
  ·rw [decide_eq_false (fun h => h1 h.2)]; exact vindex_high i n h0 (by omega) w
 ·rw [decide_eq_false (fun h => h0 h.1)]; exact vindex_low i n (by omega) w
theorem vzero_ok (n : Nat) (hn : n ≤ 2048) (w : World) : Calls Tryz.prog 46 #[.int .i64 (n : Int)] w fun xe w' => ∃ u, xe = .returned (.tuple #[u, .int .i64 0]) ∧ NV w.heap.size (tabV n fun _ => 0) u w' ∧ Below w.heap.size w w' := by
 have hmk := fun W => makeV W (n : Int) n rfl (by omega)
 have hL0 : GL w w [] := GL.start w
 obtain ⟨x1, hweq, hL0⟩ := GL.named (hL0.new rfl (frCs (List.replicate n 0)) 36)
 have hNV : NV w.heap.size (tabV n fun _ => 0) (.slice (some ⟨w.heap.size, 0, none⟩) n n) x1 := ⟨w.heap.size, by rw [tabV_len], Nat.le_refl _, by rw [← rep_tab]; exact hL0.get _ _ mZ⟩
 replace hNV := Lib.hid hNV
 have k0 : (0 : Int) ≤ (n : Int) := Int.natCast_nonneg _
 have k1 : (n : Int) ≤ 2048 := by omega
 have k2 : ¬ (n : Int) < 0 := by omega
 go_enter Tryz.func46, Tryz.ntmps46
 go_wp2_with fail
 exact bodyPost_ret (v := .tuple #[_, .int .i64 0]) (by simp [results, Tryz.results46, go_sem]) rfl ⟨_, rfl, hNV.out, hL0.bl⟩
theorem unit_tab (n i : Nat) (h : i < n) : (tabV n fun _ => 0).set i 1 = tabV n fun k => if k = i then 1 else 0 := by
 apply List.ext_getElem (by rw [List.length_set, tabV_len, tabV_len])
 intro k h1 h2
 rw [List.getElem_set, tabV_get, tabV_get]
 by_cases e : i = k
 ·rw [if_pos e, if_pos e.symm]
 ·rw [if_neg e, if_neg (fun h => e h.symm)]
theorem vunit_ok (n i : Nat) (hn : n ≤ 2048) (hi : i < n) (w : World) : Calls Tryz.prog 27 #[.int .i64 (n : Int), .int .i64 (i : Int)] w fun xe w' => ∃ u, xe = .returned (.tuple #[u, .int .i64 0]) ∧ NV w.heap.size (tabV n fun k => if k = i then 1 else 0) u w' ∧ Below w.heap.size w w' := by
 have HZ := Lib.hid (fun w => vzero_ok n hn w)
 have HI := Lib.hid (fun w => vindexV (i : Int) (n : Int) w)
 rw [decide_eq_true ⟨by omega, by omega⟩] at HI
 have HO := Lib.hid (fun w => intF 1 (by decide) (by decide) w)
 rw [show (((1 : Int)) : Rat) = 1 from rfl] at HO
 have k0 : (0 : Int) ≤ (i : Int) := Int.natCast_nonneg _
 have k1 : (i : Int) < (n : Int) := by omega
 obtain ⟨q, hq⟩ : ∃ q : Rat, q = 1 := ⟨1, rfl⟩
 rw [← hq] at HO
 replace hq := Lib.hid hq
 go_enter Tryz.func27, Tryz.ntmps27
 go_wp2_with fail
 with_reducible refine Calls.mono (HZ.out _) ?_
 rintro e y1 ⟨u, rfl, hnv, hb⟩
 obtain ⟨gu, rfl, hg, hd⟩ := hnv
 rw [tabV_len]
 have hL0 : GL w y1 [(gu, frCs (tabV n fun _ => 0))] := ⟨hb, fun p hp => by rw [List.mem_singleton.1 hp]; exact ⟨hg, hd⟩, by simp⟩
 replace hg := Lib.hid hg
 clear hb hd
 go_wp2_with fail
 with_reducible refine Calls.mono (HI.out _) ?_
 rintro e y2 ⟨rfl, hb2⟩
 replace hL0 := hL0.call hb2
 clear hb2
 go_wp2_with fail
 with_reducible refine Calls.mono (HO.out _) ?_
 rintro e y3 ⟨rfl, hb3⟩
 replace hL0 := hL0.call hb3
 clear hb3
 have zh := hL0.get _ _ mZ
 have hlen := tabV_len n fun _ => 0
 obtain ⟨z0, z1, z2, z3, z4⟩ := (hd_fs zh).cell i (by omega)
 have zz := zh.frz
 clear zh
 have hPt := hL0.putF 0 gu (tabV n fun _ => 0) rfl i q (by omega)
 simp only [List.set_cons_zero, List.set_cons_succ] at hPt
 generalize hputr : (((((y3.setCell ⟨gu, i * 5, none⟩ (.int .u64 ((zl q.num : Nat) : Int))).setCell ⟨gu, i * 5 + 1, none⟩ (.string (zh q.num))).setCell ⟨gu, i * 5 + 2, none⟩ (.bool (zs q.num))).setCell ⟨gu, i * 5 + 3, none⟩ (.int .u64 ((lo (fe q) : Nat) : Int))).setCell ⟨gu, i * 5 + 4, none⟩ (.string (hs (fe q)))) = y4 at hPt
 rw [hq.out, unit_tab n i hi] at hPt
 clear hL0
 have hNV : NV w.heap.size (tabV n fun k => if k = i then 1 else 0) (.slice (some ⟨gu, 0, none⟩) n n) y4 := ⟨gu, by rw [tabV_len], hg.out, hPt.get _ _ mZ⟩
 replace hNV := Lib.hid hNV
 have hb4 := Lib.hid hPt.bl
 clear hPt
 go_wp2_with fail
 exact bodyPost_ret (v := .tuple #[_, .int .i64 0]) (by simp [results, Tryz.results27, go_sem]) rfl ⟨_, rfl, hNV.out, hb4.out⟩
end Go.Proofs.YthffglapmkkohaaGreatDoor
namespace Go.Proofs.YthffglapmkkohaaGreatDoor
open Go.RowKit
attribute [local irreducible] lo hs sm s64 c64 d64 b64 mh ml pd pc qd qc val hiB str cmpI srD lz nb zl zh zs fe rowV tabV gv bsV
/-- A slice of integers. -/
def ILs (w : World) (v : Value) (zs : List Int) : Prop := ∃ ao c g, v = .slice ao zs.length c ∧ (0 < zs.length → ao = some ⟨g, 0, none⟩ ∧ g < w.heap.size) ∧ ∀ i (h : i < zs.length), w.cell? ⟨g, i, none⟩ = some (.int .i64 (zs[i]'h))
theorem ILs.below {w w' : World} {v : Value} {zs : List Int} (h : ILs w v zs) (hb : Below w.heap.size w w') : ILs w' v zs := by
 obtain ⟨ao, c, g, h1, h2, h3⟩ := h
 exact ⟨ao, c, g, h1, fun h => ⟨(h2 h).1, Nat.lt_of_lt_of_le (h2 h).2 hb.size⟩, fun i hi => (hb.cell (p := ⟨g, i, none⟩) (h2 (by omega)).2).trans (h3 i hi)⟩
theorem ILs.keeps (v : Value) (zs : List Int) : Keeps (fun w => ILs w v zs) := fun _ _ hb h => h.below hb
theorem ils_of {w : World} {g c : Nat} {zs : List Int} {cs : List Value} (h : Hd w g cs) (he : cs = zs.map (.int .i64)) : ILs w (.slice (some ⟨g, 0, none⟩) zs.length c) zs := by
 subst he
 refine ⟨_, c, g, rfl, fun _ => ⟨rfl, h.lt⟩, fun i hi => ?_⟩
 have := h.cell i (by rw [List.length_map]; exact hi)
 rw [this, List.getElem_map]
def ofV (zs : List Int) (i : Nat) : Rat := ((zs.getD i 0 : Int) : Rat)
theorem getI {zs : List Int} {k : Nat} (h : k < zs.length) : zs.getD k 0 = zs[k] := by rw [List.getD_eq_getElem?_getD, List.getElem?_eq_getElem h]; rfl
theorem vof_at (zs : List Int) (b1 : Nat) (v : Value) (hz : ∀ z ∈ zs, -9223372036854775808 ≤ z ∧ z < 9223372036854775808) (i : Nat) (hi : i < zs.length) (w : World) (hw : ILs w v zs ∧ w.cell? ⟨b1, 0, none⟩ = some v) :
  Calls Tryz.prog 125 (#[.int .i64 (i : Int)] ++ #[.pointer (some ⟨b1, 0, none⟩)]) w fun xe w' => xe = .returned (fracV (ofV zs i)) ∧ Below w.heap.size w w' := by
 obtain ⟨⟨ao, c, g, rfl, h2, h3⟩, h4⟩ := hw
 obtain ⟨rfl, -⟩ := h2 (by omega)
 obtain ⟨l1, l2⟩ := hz _ (List.getElem_mem hi)
 unfold ofV
 rw [getI hi]
 exact vof1_w i zs.length c g b1 zs[i] _ (fun w => intF zs[i] l1 l2 w) hi w h4 (h3 i hi)
theorem vofV (zs : List Int) (hm : zs.length ≤ 100000) (hz : ∀ z ∈ zs, -9223372036854775808 ≤ z ∧ z < 9223372036854775808) (v : Value) (w : World) (hv : ILs w v zs) :
  Calls Tryz.prog 58 #[v] w fun xe w' => ∃ u, xe = .returned u ∧ NV w.heap.size (tabV zs.length (ofV zs)) u w' ∧ Below w.heap.size w w' := by
 have HCl := fun b1 => vof_at zs b1 v hz
 obtain ⟨ao, c, -, rfl, -⟩ := id hv
 have hL0 : GL w w [] := GL.start w
 obtain ⟨x1, hweq, hL0⟩ := GL.named (hL0.new rfl [.slice ao zs.length c] 157)
 have hv1 := hv.below hL0.bl
 have hc1 := (hL0.get _ _ mZ).cell 0 (by simp)
 simp only [List.getElem_cons_zero, List.getElem_cons_succ] at hc1
 have HC := veach_w 125 #[.pointer (some ⟨w.heap.size, 0, none⟩)] enof zs.length (ofV zs) (fun w => ILs w (.slice ao zs.length c) zs ∧ w.cell? ⟨_, 0, none⟩ = some (.slice ao zs.length c)) (Keeps.and (ILs.keeps _ _) (keepsB _ _)) (HCl _) hm x1 ⟨hv1, hc1⟩
 clear hv hv1 HCl hz
 generalize tabV zs.length (ofV zs) = tl at *
 generalize zs.length = m at *
 replace HC := Lib.hid HC
 replace hL0 := Lib.hid hL0
 go_enter Tryz.func58, Tryz.ntmps58
 go_wp2_with fail
 with_reducible refine Calls.mono HC.out ?_
 rintro e y1 ⟨u, rfl, hnv, hb⟩
 replace hnv := Lib.hid (hnv.mono hL0.out.bl.size)
 replace hb := Lib.hid (hL0.out.bl.trans (hb.mono hL0.out.bl.size))
 clear hc1 hweq
 obtain ⟨gu, rfl, -, -⟩ := id hnv.out
 go_wp2_with fail
 exact bodyPost_ret (v := .slice (some ⟨gu, 0, none⟩) _ _) (by simp [results, Tryz.results58, go_sem]) rfl ⟨_, rfl, hnv.out, hb.out⟩
theorem getN {ps : List Nat} {k : Nat} (h : k < ps.length) : ps.getD k 0 = ps[k] := by rw [List.getD_eq_getElem?_getD, List.getElem?_eq_getElem h]; rfl
/-- A row of strings of one's own. -/
abbrev OwnS (w : World) (B : Nat) (v : Value) (n : Nat) (l : List ByteArray) : Prop := w.ownsRow B 9 1 v n (l.map .string)
theorem infoS8 : (Tryz.prog.info? 9).map (fun i => (i.zero, i.size, i.bytes)) = some (some (.string ⟨#[]⟩), 1, 16) := by kernel_rfl
theorem wp_appendS {w : World} {ops : Array Oper} {rest : List Oper} {o : Oper} {a : Act} {Q : Exit → Act → World → Prop} (hgd : o.guard = none) (s x : Operand)
  (ho : o.op = .call { callee := .builtin .append, args := #[s, x], argTypes := #[158, 158] }) (B : Nat) (v : Value) (n : Nat) (L : List ByteArray) (hs : a.eval s = v) (hown : OwnS w B v n L) (g : Nat) (t : ByteArray) (hx : a.eval x = .slice (some ⟨g, 0, none⟩) 1 1) (hH : Hd w g [.string t])
  (hn : n ≤ 100000) (hbase : B ≤ w.heap.size)
  (h : ∀ v' w', OwnS w' B v' (n + 1) (L ++ [t]) → w.grownBy w' v.ownBlock → (v'.ownBlock = v.ownBlock ∨ v'.ownBlock = some w.heap.size) → wpList Tryz.prog ops Q rest (a.put o.dst v') w') : wpList Tryz.prog ops Q (o :: rest) a w := by
 obtain ⟨i0, hi, hz1, hz2, hz3⟩ := info_parts infoS8
 refine wpList_append_own_at w hgd s x 158 ho B 9 i0 (.string ⟨#[]⟩) 1 16 Tryz.underlying158 hi hz1 hz2 hz3 rfl (by decide) v n (L.map .string) hs hown ⟨g, 0, none⟩ 1 1 [.string t] hx rfl (hd_newsH hH) (fun u hu => by rw [List.mem_singleton.1 hu]; rfl) (by unfold maxLen; omega) (by omega) hbase ?_
 intro v' w' h1 h2 _ h4
 refine h v' w' ?_ h2 h4
 unfold OwnS
 rw [List.map_append]; exact h1
theorem ownS_below {w w' : World} {B n : Nat} {v : Value} {l : List ByteArray} (h : OwnS w B v n l) (hb : Below w.heap.size w w') : OwnS w' B v n l := by
 refine ⟨h.1, ?_⟩
 rcases h.2 with h1 | ⟨g, cap, cur, h1, h2, h3, h4⟩
 ·exact .inl h1
 ·refine .inr ⟨g, cap, cur, h1, h2, ?_, h4⟩
  have hg := (World.ownsRow.lt h g (by rw [h1]; rfl)).2
  rw [hb.block g hg]; exact h3
theorem ownS_cells {w : World} {B n : Nat} {v : Value} {l : List ByteArray} (h : OwnS w B v n l) (h0 : 0 < l.length) : ∃ g c, v = .slice (some ⟨g, 0, none⟩) l.length c ∧ l.length ≤ c ∧ g < w.heap.size ∧ ∀ (j : Nat) (x : ByteArray), l[j]? = some x → w.cell? ⟨g, 0 + j, none⟩ = some (.string x) := by
 have hl : l.length = n := by have := h.1; rw [List.length_map] at this; omega
 rcases h.2 with ⟨_, h1⟩ | ⟨g, cap, cur, h1, h2, h3, h4, h5, h6, h7⟩
 ·omega
 ·refine ⟨g, cap, by rw [h1, hl], by omega, (World.ownsRow.lt h g (by rw [h1]; rfl)).2, fun j x hx => ?_⟩
  rw [cell_of_row _ _ _ _ _ _ h3, Nat.zero_add]
  have hj : (l.map Value.string)[j]? = some (.string x) := by rw [List.getElem?_map, hx]; rfl
  rw [← h7, List.getElem?_take] at hj
  split at hj
  ·rw [← Array.getElem?_toList]; exact hj
  ·cases hj
theorem ownS_form {w : World} {B n : Nat} {v : Value} {l : List ByteArray} (h : OwnS w B v n l) : ∃ a c, v = .slice a n c := by
 rcases h.2 with ⟨h1, h2⟩ | ⟨g, cap, cur, h1, _⟩
 ·exact ⟨_, _, by rw [h1, h2]⟩
 ·exact ⟨_, _, h1⟩
theorem vtextV (x : List Rat) (n k : Nat) (Jt : List UInt8) (hx : x.length = n) (hn : n ≤ 10000) (hk : k ≤ 1000) (sx : ∀ q ∈ x, Sz q k) (hJ : Lib.join ((x.map qtxt).map (·.data.toList)) [32] = Jt) (hJl : Jt.length ≤ 1000000) (va : Value) (w : World) (ht : Tab w) (hv : SlQ w va x) :
  Calls Tryz.prog 60 #[va] w fun xe w' => xe = .returned (.string ⟨([91] ++ Jt ++ [93]).toArray⟩) ∧ Below w.heap.size w w' := by
 obtain ⟨ao, c, rfl, hf⟩ := slq_len hv
 rw [hx] at hv hf ⊢
 have HT := Lib.hid (fun i (hi : i < n) w ht => textF (gv x i) k (qsk x sx i (by omega)) (by omega) w ht)
 obtain ⟨tx, htx⟩ : ∃ tx, tx = x.map qtxt := ⟨_, rfl⟩
 have hti : ∀ i, i < n → tx.take (i + 1) = tx.take i ++ [qtxt (gv x i)] := fun i hi => by
  rw [htx, List.take_succ_eq_append_getElem (by rw [List.length_map]; omega), List.getElem_map, gv_get (by omega)]
 have htl : tx.length = n := by rw [htx, List.length_map, hx]
 rw [← htx] at hJ
 replace hti := Lib.hid hti
 replace htl := Lib.hid htl
 replace hJ := Lib.hid hJ
 replace hJl := Lib.hid hJl
 replace hf := Lib.hid hf
 replace ht := Lib.hid ht
 replace hn := Lib.hid hn
 clear sx hv htx
 go_enter Tryz.func60, Tryz.ntmps60
 go_wp2_with fail
 go_loopg [3, 8] n (fun gk sv iv wr => ∃ (k : Nat) (zi : Int) (vs : Value), k + gk = n ∧ vs = sv ∧ iv = .int .i64 zi ∧ zi = (k : Int) ∧ OwnS wr w.heap.size vs k (tx.take k) ∧ Below w.heap.size w wr)
 case atStart => exact ⟨0, 0, _, Nat.zero_add n, rfl, by first | rfl | go_num, rfl, World.ownsRow_nil _ _ _ _, Below.refl _ _⟩
 case round =>
  obtain ⟨k, zi, vs, hik, rfl, rfl, hzi, hown, hB⟩ := hrel
  replace hown := Lib.hid hown
  have hnn := hn.out
  rcases Nat.lt_or_ge k n with hin | hin
  ·subst hzi
   have k1 : (k : Int) < (n : Int) := by omega
   have k0 : (0 : Int) ≤ (k : Int) := Int.natCast_nonneg _
   have kb : (k : Int) ≤ 10000 := by omega
   obtain ⟨g, rfl, hfs⟩ := hf.out (by omega)
   have hcs := fsc (hfs.below hB) k (by omega)
   have HT1 := HT.out k hin
   have hti1 := hti.out k hin
   generalize gv x k = q at hcs HT1 hti1
   obtain ⟨S, hS⟩ : ∃ S, S = qtxt q := ⟨_, rfl⟩
   rw [← hS] at HT1 hti1
   replace HT1 := Lib.hid HT1
   replace hti1 := Lib.hid hti1
   clear hS hfs
   obtain ⟨f0, f1, f2, f3, f4⟩ := hcs
   have hL0 : GL wr wr [] := GL.start wr
   replace hL0 := hL0.new rfl [.int .u64 ((zl q.num : Nat) : Int), .string (zh q.num), .bool (zs q.num), .int .u64 ((lo (fe q) : Nat) : Int), .string (hs (fe q))] 36
   generalize hweq : wr.alloc (.cells #[.int .u64 ((zl q.num : Nat) : Int), .string (zh q.num), .bool (zs q.num), .int .u64 ((lo (fe q) : Nat) : Int), .string (hs (fe q))] 36) = y2 at hL0
   have hN0 := cells_of _ 0 [] rfl (hL0.get _ _ mZ)
   simp only [zF, Nat.reduceAdd] at hN0
   have hB2 := Lib.hid (hB.trans (hL0.bl.mono hB.size))
   go_wp2_with fail
   with_reducible refine Calls.mono (HT1.out _ (ht.out.below hB2.out)) ?_
   rintro e y3 ⟨rfl, hb3⟩
   replace hL0 := hL0.call hb3
   have hown3 := Lib.hid (ownS_below hown.out hL0.bl)
   have hB3 := Lib.hid (hB.trans (hL0.bl.mono hB.size))
   clear hb3 hN0 hweq f0 f1 f2 f3 f4 hL0 hB2 hB hown
   have hL1 : GL y3 y3 [] := GL.start y3
   replace hL1 := hL1.new rfl [.string S] 9
   generalize hweq : y3.alloc (.cells #[.string S] 9) = y4 at hL1
   have hown4 := Lib.hid (ownS_below hown3.out hL1.bl)
   have hB4 := Lib.hid (hB3.out.trans (hL1.bl.mono hB3.out.size))
   have hH := Lib.hid (hL1.get _ _ mZ)
   go_wp2_with (at_builtin; refine wp_appendS rfl _ _ rfl _ _ _ _ rfl hown4.out _ S rfl hH.out (by omega) hB4.out.size ?_)
   intro v' w5 hown5 hgrow _
   have hB5 := hB4.out.grown hgrow hB4.out.size (fun j hj => (hown4.out.lt j hj).1)
   rw [← hti1.out] at hown5
   replace hown5 := Lib.hid hown5
   clear hgrow hown4 hB4 hown3 hB3 hH hweq
   go_wp2_with fail
   go_roundg (gk - 1)
   case measure => omega
   case rel => exact ⟨k + 1, _, _, by omega, rfl, by first | rfl | go_num, by omega, hown5.out, hB5⟩
  ·obtain rfl : k = n := by omega
   subst hzi
   have k1 : ¬ (k : Int) < (k : Int) := by omega
   rw [List.take_of_length_le (Nat.le_of_eq htl.out)] at hown
   have hJ2 : Calls Tryz.prog 128 #[vs, .string ⟨#[32]⟩] wr fun e w' => e = .returned (.string ⟨Jt.toArray⟩) ∧ Below wr.heap.size wr w' := by
    by_cases h0 : k = 0
    ·have e0 : tx = [] := List.eq_nil_of_length_eq_zero (by rw [htl.out, h0])
     obtain ⟨a, c2, hvs⟩ := ownS_form hown.out
     rw [hvs, h0]
     rw [e0] at hJ
     refine (Tryz.strings_Join_none a c2 ⟨#[32]⟩ wr).mono ?_
     rintro e w' ⟨rfl, rfl⟩
     exact ⟨by rw [← hJ.out]; rfl, Below.refl _ _⟩
    ·obtain ⟨g9, c9, hvs, hc9, hg9, hce9⟩ := ownS_cells hown.out (by rw [htl.out]; omega)
     rw [hvs]
     have := Tryz.strings_Join g9 0 c9 tx ⟨#[32]⟩ wr hce9 hg9 (by rw [htl.out]; omega) hc9 (by
      have h1 := hJl.out
      rw [← hJ.out] at h1
      exact Nat.le_trans h1 (by decide))
     rw [show (⟨#[32]⟩ : ByteArray).data.toList = [32] from rfl, hJ.out] at this
     exact this
   replace hJ2 := Lib.hid hJ2
   have j1 : (Jt.length : Int) ≤ 1000000 := by have := hJl.out; omega
   have j2 : ¬ (9223372036854775807 : Int) < 1 + (Jt.length : Int) := by omega
   have j3 : ¬ (9223372036854775806 : Int) < (Jt.length : Int) := by omega
   have j4 : 1 + (Jt.length : Int) ≤ 9223372036854775807 := by omega
   have j5 : ¬ (9223372036854775807 : Int) < 1 + (Jt.length : Int) + 1 := by omega
   have j6 : ¬ (9223372036854775806 : Int) < 1 + (Jt.length : Int) := by omega
   replace hB := Lib.hid hB
   obtain ⟨a9, c9, hvs⟩ := ownS_form hown.out
   subst hvs
   clear hown
   go_wp2_with fail
   refine hJ2.out.mono ?_
   rintro e y9 ⟨rfl, hb9⟩
   replace hb9 := Lib.hid (hB.out.trans (hb9.mono hB.out.size))
   go_wp2_with fail
   exact bodyPost_ret (v := .string ⟨([91] ++ Jt ++ [93]).toArray⟩) (by simp [results, Tryz.results60, go_sem]; apply ByteArray.ext; simp) rfl ⟨rfl, hb9.out⟩
end Go.Proofs.YthffglapmkkohaaGreatDoor
namespace Go.Proofs.YthffglapmkkohaaGreatDoor
open Go.RowKit
attribute [local irreducible] lo hs sm s64 c64 d64 b64 mh ml pd pc qd qc val hiB str cmpI srD lz nb zl zh zs
theorem qof_zero (n x c : Int) (f : Nat) (HF : RT 57 #[.int .i64 n, .int .i64 1] (.tuple #[frV x f, .int .i64 c])) (hmx : max (0 : Int) 1 = 1) (w : World) :
  Calls Tryz.prog 13 #[.agg #[.int .i64 n, .int .u32 0]] w fun xe w' => xe = .returned (frV x f) ∧ Below w.heap.size w w' := by
 have hL0 : GL w w [] := GL.start w
 replace HF := Lib.hid HF
 obtain ⟨x1, hweq, hL0⟩ := GL.named ((hL0.new rfl [.int .i64 n, .int .u32 0] 40).new (K := w.heap.size + 1) (szA _ _) [.int .u64 0, .string ⟨#[]⟩, .bool false, .int .u64 0, .string ⟨#[]⟩] 36)
 go_enter Tryz.func13, Tryz.ntmps13
 have hN0 := cells_of _ 0 [] rfl (hL0.get _ _ (mK mZ))
 simp only [zF, Nat.reduceAdd] at hN0
 go_wp2_with fail
 clear hN0
 with_reducible refine Calls.mono (HF.out _) ?_
 rintro e x2 ⟨rfl, hb⟩
 replace hL0 := hL0.call hb
 clear hb hweq
 obtain ⟨x3, hweq, hL0⟩ := GL.named (hL0.new rfl [.int .u64 ((zl x : Nat) : Int), .string (zh x), .bool (zs x), .int .u64 ((lo f : Nat) : Int), .string (hs f)] 36)
 have hA := hL0.fc
 simp only [zF, Nat.reduceAdd] at hA
 obtain ⟨x4, hput1, hP⟩ := GL.named (hL0.put 1 (w.heap.size + 1) _ rfl [.int .u64 ((zl x : Nat) : Int), .string (zh x), .bool (zs x), .int .u64 ((lo f : Nat) : Int), .string (hs f)] rfl)
 simp only [setAll] at hput1
 simp only [List.set_cons_zero, List.set_cons_succ] at hP
 have hB1 := hP.fc
 simp only [zF, Nat.reduceAdd] at hB1
 replace hL0 := hP
 go_wp2_with fail
 exact bodyPost_ret (v := frV x f) (by simp [results, Tryz.results13, go_sem, hB1]) rfl ⟨rfl, hL0.bl⟩
theorem qof_pos (n d x c : Int) (f : Nat) (HF : RT 57 #[.int .i64 n, .int .i64 d] (.tuple #[frV x f, .int .i64 c])) (h1 : max d 1 = d) (hw : IntKind.i64.wrap d = d) (w : World) :
  Calls Tryz.prog 13 #[.agg #[.int .i64 n, .int .u32 d]] w fun xe w' => xe = .returned (frV x f) ∧ Below w.heap.size w w' := by
 have hL0 : GL w w [] := GL.start w
 replace HF := Lib.hid HF
 obtain ⟨x1, hweq, hL0⟩ := GL.named ((hL0.new rfl [.int .i64 n, .int .u32 d] 40).new (K := w.heap.size + 1) (szA _ _) [.int .u64 0, .string ⟨#[]⟩, .bool false, .int .u64 0, .string ⟨#[]⟩] 36)
 go_enter Tryz.func13, Tryz.ntmps13
 have hN0 := cells_of _ 0 [] rfl (hL0.get _ _ (mK mZ))
 simp only [zF, Nat.reduceAdd] at hN0
 go_wp2_with fail
 clear hN0
 with_reducible refine Calls.mono (HF.out _) ?_
 rintro e x2 ⟨rfl, hb⟩
 replace hL0 := hL0.call hb
 clear hb hweq
 obtain ⟨x3, hweq, hL0⟩ := GL.named (hL0.new rfl [.int .u64 ((zl x : Nat) : Int), .string (zh x), .bool (zs x), .int .u64 ((lo f : Nat) : Int), .string (hs f)] 36)
 have hA := hL0.fc
 simp only [zF, Nat.reduceAdd] at hA
 obtain ⟨x4, hput1, hP⟩ := GL.named (hL0.put 1 (w.heap.size + 1) _ rfl [.int .u64 ((zl x : Nat) : Int), .string (zh x), .bool (zs x), .int .u64 ((lo f : Nat) : Int), .string (hs f)] rfl)
 simp only [setAll] at hput1
 simp only [List.set_cons_zero, List.set_cons_succ] at hP
 have hB1 := hP.fc
 simp only [zF, Nat.reduceAdd] at hB1
 replace hL0 := hP
 go_wp2_with fail
 exact bodyPost_ret (v := frV x f) (by simp [results, Tryz.results13, go_sem, hB1]) rfl ⟨rfl, hL0.bl⟩
theorem qof_any (n d : Int) (a1 : -9223372036854775808 ≤ n) (a2 : n < 9223372036854775808) (b1 : 0 ≤ d) (b2 : d < 4294967296) (w : World) :
  Calls Tryz.prog 13 #[.agg #[.int .i64 n, .int .u32 d]] w fun xe w' => xe = .returned (fracV (qmade n d.toNat)) ∧ Below w.heap.size w w' := by
 by_cases h : d = 0
 ·subst h
  have e : (n : Rat) / ((1 : Int) : Rat) = qmade n 0 := by rw [← of_val_q n 1 (by decide)]; rfl
  have hF := fun w => ofF n 1 a1 a2 (by decide) (by decide) (by decide) w
  rw [e] at hF
  exact qof_zero n _ _ _ hF (by decide) w
 ·have e : (n : Rat) / (d : Rat) = qmade n d.toNat := by
   rw [← of_val_q n d h]
   unfold qmade
   rw [if_neg (by omega), if_neg (by omega), show d.natAbs = d.toNat by omega]
  have hF := fun w => ofF n d a1 a2 (by omega) (by omega) h w
  rw [e] at hF
  exact qof_pos n d _ _ _ hF (by omega) (IntWalk.i64_in _ (by omega)) w
end Go.Proofs.YthffglapmkkohaaGreatDoor
namespace Go.Proofs.YthffglapmkkohaaGreatDoor
open Go.RowKit
attribute [local irreducible] lo hs sm s64 c64 d64 b64 mh ml pd pc qd qc val hiB str cmpI srD lz nb zl zh zs fe rowV tabV gv bsV
/-- The plain fractions that a slice holds. -/
structure QSl (w : World) (a : Addr) (ql : List (Int × Int)) : Prop where
 c0 : ∀ (i : Nat) (h : i < ql.length), w.cell? (a.add (i * 2)) = some (.int .i64 ql[i].1)
 c1 : ∀ (i : Nat) (h : i < ql.length), w.cell? ((a.add (i * 2)).add 1) = some (.int .u32 ql[i].2)
 rg : ∀ p ∈ ql, (-9223372036854775808 ≤ p.1 ∧ p.1 < 9223372036854775808) ∧ 0 ≤ p.2 ∧ p.2 < 4294967296
 blk : a.block < w.heap.size
theorem add_blk (a : Addr) (i : Nat) : (a.add i).block = a.block := by unfold Addr.add; split <;> rfl
theorem add_one (a : Addr) : a.add 1 = ⟨a.block, a.off + 1, none⟩ := by unfold Addr.add; simp
theorem QSl.below {w w' : World} {a : Addr} {ql : List (Int × Int)} (h : QSl w a ql) (hb : Below w.heap.size w w') : QSl w' a ql :=
 ⟨fun i hi => (hb.cell (p := a.add (i * 2)) (by rw [add_blk]; exact h.blk)).trans (h.c0 i hi), fun i hi => (hb.cell (p := (a.add (i * 2)).add 1) (by rw [add_blk, add_blk]; exact h.blk)).trans (h.c1 i hi), h.rg, Nat.lt_of_lt_of_le h.blk hb.size⟩
/-- A slice of plain fractions. -/
def QV (w : World) (v : Value) (ql : List (Int × Int)) : Prop := ∃ ao c, v = .slice ao ql.length c ∧ ql.length ≤ c ∧ (ao = none → c = 0) ∧ (0 < ql.length → ∃ a, ao = some a ∧ QSl w a ql)
theorem QV.below {w w' : World} {v : Value} {ql : List (Int × Int)} (h : QV w v ql) (hb : Below w.heap.size w w') : QV w' v ql := by
 obtain ⟨ao, c, h1, h2, h3, h4⟩ := h
 refine ⟨ao, c, h1, h2, h3, fun h => ?_⟩
 obtain ⟨a, e, h5⟩ := h4 h
 exact ⟨a, e, h5.below hb⟩
theorem QV.keeps (v : Value) (ql : List (Int × Int)) : Keeps fun w => QV w v ql := fun _ _ hb h => h.below hb
theorem QSl.take {w : World} {a : Addr} {ql : List (Int × Int)} (h : QSl w a ql) (k : Nat) : QSl w a (ql.take k) := by
 refine ⟨fun i hi => ?_, fun i hi => ?_, fun p hp => h.rg p (List.mem_of_mem_take hp), h.blk⟩
 ·rw [List.getElem_take]; exact h.c0 i (by rw [List.length_take] at hi; omega)
 ·rw [List.getElem_take]; exact h.c1 i (by rw [List.length_take] at hi; omega)
theorem QV.take {w : World} {ao : Option Addr} {n c : Nat} {ql : List (Int × Int)} (h : QV w (.slice ao n c) ql) (k : Nat) (hk : k ≤ n) : QV w (.slice ao k c) (ql.take k) := by
 obtain ⟨a2, c2, h1, h2, h3, h4⟩ := h
 obtain ⟨rfl, rfl, rfl⟩ : ao = a2 ∧ n = ql.length ∧ c = c2 := by simpa using h1
 have e : (ql.take k).length = k := by rw [List.length_take]; omega
 refine ⟨ao, c, by rw [e], by omega, h3, fun h => ?_⟩
 obtain ⟨a, h5, h6⟩ := h4 (by omega)
 exact ⟨a, h5, h6.take k⟩
theorem QV.form {w : World} {v : Value} {ql : List (Int × Int)} (h : QV w v ql) : ∃ ao c, v = .slice ao ql.length c := by
 obtain ⟨ao, c, h1, _⟩ := h
 exact ⟨ao, c, h1⟩
def qm (p : Int × Int) : Rat := qmade p.1 p.2.toNat
/-- A row of fractions of one's own. -/
abbrev OwnF (w : World) (B : Nat) (v : Value) (n : Nat) (l : List Rat) : Prop := w.ownsRow B 36 5 v n (frCs l)
end Go.Proofs.YthffglapmkkohaaGreatDoor
namespace Go.Proofs.YthffglapmkkohaaGreatDoor
open Go.RowKit
attribute [local irreducible] lo hs sm s64 c64 d64 b64 mh ml pd pc qd qc val hiB str cmpI srD lz nb zl zh zs fe rowV tabV gv bsV
abbrev PT (w : World) (v : Value) (l : List Rat) : Prop := SlQ w v l
theorem PT.below {w w' : World} {v : Value} {l : List Rat} (h : PT w v l) (hb : Below w.heap.size w w') : PT w' v l := SlQ.below h hb
theorem pt_form {w : World} {v : Value} {l : List Rat} (h : PT w v l) : ∃ ao n c, v = .slice ao n c ∧ n = l.length := by
 obtain ⟨ao, c, e⟩ := slq_form' h
 exact ⟨ao, _, c, e, rfl⟩
theorem ptn_form {w : World} {v : Value} {l : List Rat} {n : Nat} (h : PT w v l) (hl : l.length = n) : ∃ ao c, v = .slice ao n c := by
 obtain ⟨ao, c, e⟩ := slq_form' h
 exact ⟨ao, c, by rw [e, hl]⟩
abbrev PP (l : List Rat) : Value → World → Prop := fun v w => PT w v l
theorem stays_pt (l : List Rat) : Stays (PP l) := fun _ _ _ hb h => h.below hb
abbrev PI (l : List Int) : Value → World → Prop := fun v w => ILs w v l
theorem stays_pi (l : List Int) : Stays (PI l) := fun _ _ _ hb h => h.below hb
/-- A vector with a code. -/
abbrev PE (l : List Rat) (e : Int) : Value → World → Prop := fun v w => ∃ u, v = .tuple #[u, .int .i64 e] ∧ PT w u l
theorem stays_pe (l : List Rat) (e : Int) : Stays (PE l e) := fun _ _ _ hb ⟨u, h1, h2⟩ => ⟨u, h1, h2.below hb⟩
theorem ty_val8 {P : Program} {o : Oper} {a : Act} {w w' : World} {T : Value → World → Prop} {u : Value} (hr : (execOp a.eval o).run P w = .ok (.value u) w') (hb : Below w.heap.size w w') (ht : T u w') : tyUpon P w T ((execOp a.eval o).run P w) := by
 rw [hr]; exact ⟨hb, ht⟩
def PTs (W : World) (S : List (Value × List Rat)) : Prop := ∀ p ∈ S, PT W p.1 p.2
theorem PTs.nil (w : World) : PTs w [] := fun p hp => by cases hp
theorem PTs.call {W W' : World} {S : List (Value × List Rat)} (h : PTs W S) (hb : Below W.heap.size W W') : PTs W' S := fun p hp => (h p hp).below hb
theorem PTs.new {W : World} {S : List (Value × List Rat)} (h : PTs W S) (o : Obj) : PTs (W.alloc o) S := h.call ((Below.refl _ _).alloc (Nat.le_refl _) o)
theorem PTs.drew {W : World} {S : List (Value × List Rat)} (h : PTs W S) : PTs W.drew S := h.call (Below.refl _ _).drew
theorem PTs.cons {W : World} {S : List (Value × List Rat)} {v : Value} {l : List Rat} (h : PTs W S) (q : PT W v l) : PTs W ((v, l) :: S) := fun p hp => by
 rcases List.mem_cons.1 hp with rfl | hp
 ·exact q
 ·exact h p hp
theorem PTs.get {W : World} {S : List (Value × List Rat)} {v : Value} {l : List Rat} (h : PTs W S) (hm : (v, l) ∈ S) : PT W v l := h _ hm
theorem ils_at {w : World} {g c n : Nat} {zs : List Int} {cs : List Value} (h : Hd w g cs) (he : cs = zs.map (.int .i64)) (hn : n = zs.length) : ILs w (.slice (some ⟨g, 0, none⟩) n c) zs := by
 subst hn; exact ils_of h he
theorem ils_form {w : World} {v : Value} {zs : List Int} (h : ILs w v zs) : ∃ ao n c, v = .slice ao n c := by
 obtain ⟨ao, c, g, h1, _⟩ := h
 exact ⟨ao, _, c, h1⟩
end Go.Proofs.YthffglapmkkohaaGreatDoor
namespace Go.Proofs.YthffglapmkkohaaGreatDoor
open Go.RowKit
attribute [local irreducible] lo hs sm s64 c64 d64 b64 mh ml pd pc qd qc val hiB str cmpI srD lz nb zl zh zs fe
theorem szl {l : List Rat} (h : l.all (fun q => decide (q.num.natAbs < 18446744073709551616 ∧ q.den < 18446744073709551616)) = true) : ∀ q ∈ l, Sz q 1 := fun q hq => by
 have := of_decide_eq_true (List.all_eq_true.1 h q hq)
 exact szc q this.1 this.2
theorem nv_one {f : FuncId} {args : Array Value} {w : World} {B : Nat} {l : List Rat} (h : Calls Tryz.prog f args w fun xe w' => ∃ u, xe = .returned u ∧ NV B l u w' ∧ Below w.heap.size w w') :
  Calls Tryz.prog f args w fun xe w' => ∃ u, xe = .returned u ∧ SlQ w' u l ∧ Below w.heap.size w w' := h.mono fun _ _ ⟨u, h1, h2, h3⟩ => ⟨u, h1, h2.slq, h3⟩
def oW (zs : List Int) : List Rat := tabV zs.length (ofV zs)
theorem of_at (zs : List Int) (hm : zs.length ≤ 100000) (hz : ∀ z ∈ zs, -9223372036854775808 ≤ z ∧ z < 9223372036854775808) (v : Value) (w : World) (hv : ILs w v zs) :
  Calls Tryz.prog 58 #[v] w fun xe w' => ∃ u, xe = .returned u ∧ SlQ w' u (oW zs) ∧ Below w.heap.size w w' := nv_one (vofV zs hm hz v w hv)
theorem text_at (x : List Rat) (Jt : List UInt8) (t : ByteArray) (hx : x.length ≤ 10) (sx : ∀ q ∈ x, Sz q 1) (hJ : Lib.join ((x.map qtxt).map (·.data.toList)) [32] = Jt) (hJl : Jt.length ≤ 100) (ht : (⟨([91] ++ Jt ++ [93]).toArray⟩ : ByteArray) = t) (v : Value) (w : World) (hT : Tab w) (hv : SlQ w v x) :
  Calls Tryz.prog 60 #[v] w fun xe w' => xe = .returned (.string t) ∧ Below w.heap.size w w' := by
 rw [← ht]
 exact vtextV x x.length 1 Jt rfl (by omega) (by omega) sx hJ (by omega) v w hT hv
end Go.Proofs.YthffglapmkkohaaGreatDoor
namespace Go.Proofs.YthffglapmkkohaaGreatDoor
open Go.RowKit
attribute [local irreducible] lo hs sm s64 c64 d64 b64 mh ml pd pc qd qc val hiB str cmpI srD lz nb zl zh zs fe qmade
structure GV (x : List Rat) (n K : Nat) : Prop where
 len : x.length = n
 sz : ∀ q ∈ x, Sz q K
theorem GV.at {x : List Rat} {n K : Nat} (h : GV x n K) (i : Nat) (hi : i < n) : Sz (gv x i) K := qsk x h.sz i (by rw [h.len]; exact hi)
theorem GV.mono {x : List Rat} {n K M : Nat} (h : GV x n K) (hm : K ≤ M) : GV x n M := ⟨h.len, fun q hq => (h.sz q hq).mono hm⟩
theorem GV.tab {n K : Nat} {f : Nat → Rat} (h : ∀ i, i < n → Sz (f i) K) : GV (tabV n f) n K := ⟨tabV_len _ _, tab_all h⟩
def sumL (n : Nat) (x y : List Rat) : List Rat := tabV n fun i => gv x i + gv y i
def mulL (n : Nat) (c : Rat) (x : List Rat) : List Rat := tabV n fun i => c * gv x i
def dotL (n : Nat) (x y : List Rat) : Rat := bsV n fun i => gv x i * gv y i
theorem GV.sum {x y : List Rat} {n k m : Nat} (hx : GV x n k) (hy : GV y n m) : GV (sumL n x y) n (k + m + 1) := GV.tab fun i hi => (hx.at i hi).add (hy.at i hi)
theorem GV.mul {x : List Rat} {c : Rat} {n k m : Nat} (hc : Sz c k) (hx : GV x n m) : GV (mulL n c x) n (k + m) := GV.tab fun i hi => hc.mul (hx.at i hi)
theorem GV.dot {x y : List Rat} {n k m : Nat} (hx : GV x n k) (hy : GV y n m) : Sz (dotL n x y) (n * (k + m + 1) + 1) := bs_sz fun i hi => (hx.at i hi).mul (hy.at i hi)
section
variable {x y : List Rat} {n k m : Nat}
end
/-- Plain fractions as Go holds them. -/
def QR (p : Int × Int) : Prop := (-9223372036854775808 ≤ p.1 ∧ p.1 < 9223372036854775808) ∧ 0 ≤ p.2 ∧ p.2 < 4294967296
theorem qm_sz {p : Int × Int} (h : QR p) : Sz (qm p) 1 := by
 obtain ⟨⟨h1, h2⟩, h3, h4⟩ := h
 exact qmade_sz p.1 p.2.toNat h1 h2 (by omega)
theorem qv_rg {w : World} {v : Value} {ql : List (Int × Int)} (h : QV w v ql) : ∀ p ∈ ql, QR p := by
 intro p hp
 obtain ⟨ao, c, h1, h2, h3, h4⟩ := h
 obtain ⟨a, e, h5⟩ := h4 (List.length_pos_of_mem hp)
 exact h5.rg p hp
theorem qv_len {w : World} {ao : Option Addr} {n c : Nat} {ql : List (Int × Int)} (h : QV w (.slice ao n c) ql) : ql.length = n := by
 obtain ⟨a2, c2, h1, h2, h3, h4⟩ := h
 obtain ⟨rfl, rfl, rfl⟩ : ao = a2 ∧ n = ql.length ∧ c = c2 := by simpa using h1
 rfl
end Go.Proofs.YthffglapmkkohaaGreatDoor
namespace Go.Proofs.YthffglapmkkohaaGreatDoor
open Go.RowKit
/-- A matrix: its rows, its columns, its elements. -/
structure Mx where
 r : Nat
 c : Nat
 l : List Rat
def ent (x : Mx) (i k : Nat) : Rat := gv x.l (i * x.c + k)
def tabM (r c : Nat) (f : Nat → Nat → Rat) : Mx := ⟨r, c, tabV (r * c) fun p => f (p / c) (p % c)⟩
theorem ix_lt {r c i k : Nat} (hi : i < r) (hk : k < c) : i * c + k < r * c := by
 have : (i + 1) * c ≤ r * c := Nat.mul_le_mul_right c hi
 rw [Nat.add_mul, Nat.one_mul] at this
 omega
theorem ix_div {c i k : Nat} (hk : k < c) : (i * c + k) / c = i := by
 rw [Nat.mul_comm, Nat.mul_add_div (by omega), Nat.div_eq_of_lt hk, Nat.add_zero]
theorem ix_mod {c i k : Nat} (hk : k < c) : (i * c + k) % c = k := by
 rw [Nat.mul_comm, Nat.mul_add_mod, Nat.mod_eq_of_lt hk]
theorem ix_row {r c p : Nat} (h : p < r * c) : p / c < r ∧ p % c < c := by
 have hc : 0 < c := by
  rcases Nat.eq_zero_or_pos c with e | e
  ·subst e; simp at h
  ·exact e
 exact ⟨(Nat.div_lt_iff_lt_mul hc).2 h, Nat.mod_lt _ hc⟩
theorem ent_tab {r c i k : Nat} {f : Nat → Nat → Rat} (hi : i < r) (hk : k < c) : ent (tabM r c f) i k = f i k := by
 unfold ent tabM
 show gv (tabV (r * c) fun p => f (p / c) (p % c)) (i * c + k) = f i k
 rw [gv_tab (ix_lt hi hk), ix_div hk, ix_mod hk]
theorem tabM_ext {r c : Nat} {f g : Nat → Nat → Rat} (h : ∀ i k, i < r → k < c → f i k = g i k) : tabM r c f = tabM r c g := by
 unfold tabM
 rw [tab_ext fun p hp => h _ _ (ix_row hp).1 (ix_row hp).2]
/-- A matrix of n rows, k columns, whose elements have a size. -/
structure GM (x : Mx) (n k K : Nat) : Prop where
 r : x.r = n
 c : x.c = k
 len : x.l.length = n * k
 sz : ∀ q ∈ x.l, Sz q K
theorem GM.at {x : Mx} {n k K : Nat} (h : GM x n k K) (i j : Nat) (hi : i < n) (hj : j < k) : Sz (ent x i j) K := by
 unfold ent
 rw [h.c]
 exact qsk x.l h.sz _ (by rw [h.len]; exact ix_lt hi hj)
theorem GM.mono {x : Mx} {n k K M : Nat} (h : GM x n k K) (hm : K ≤ M) : GM x n k M := ⟨h.r, h.c, h.len, fun q hq => (h.sz q hq).mono hm⟩
theorem GM.tab {n k K : Nat} {f : Nat → Nat → Rat} (h : ∀ i j, i < n → j < k → Sz (f i j) K) : GM (tabM n k f) n k K :=
 ⟨rfl, rfl, tabV_len _ _, tab_all fun p hp => h _ _ (ix_row hp).1 (ix_row hp).2⟩
theorem tab_ent {x : Mx} {n k K : Nat} (h : GM x n k K) : tabM n k (ent x) = x := by
 obtain ⟨r, c, l⟩ := x
 obtain ⟨rfl, rfl, hl, -⟩ := h
 unfold tabM
 congr 1
 show tabV (r * c) (fun p => gv l (p / c * c + p % c)) = l
 replace hl : l.length = r * c := hl
 refine Eq.trans (tab_ext fun p hp => ?_) (tab_gv' hl)
 rw [Nat.mul_comm, Nat.div_add_mod]
theorem mx_ext {x : Mx} {n k K : Nat} {f : Nat → Nat → Rat} (h : GM x n k K) (he : ∀ i j, i < n → j < k → ent x i j = f i j) : x = tabM n k f := by
 rw [← tab_ent h]; exact tabM_ext he
def sumM (n k : Nat) (x y : Mx) : Mx := tabM n k fun i j => ent x i j + ent y i j
def turM (n k : Nat) (x : Mx) : Mx := tabM k n fun i j => ent x j i
def mulM (n k p : Nat) (x y : Mx) : Mx := tabM n p fun i j => bsV k fun t => ent x i t * ent y t j
def oneM (n : Nat) : Mx := tabM n n fun i j => if i = j then 1 else 0
def appV (n k : Nat) (x : Mx) (v : List Rat) : List Rat := tabV n fun i => bsV k fun t => ent x i t * gv v t
def formM (n k : Nat) (x : Mx) (v w : List Rat) : Rat := bsV n fun i => gv v i * gv (appV n k x w) i
theorem GM.sum {x y : Mx} {n k K M : Nat} (hx : GM x n k K) (hy : GM y n k M) : GM (sumM n k x y) n k (K + M + 1) := GM.tab fun i j hi hj => (hx.at i j hi hj).add (hy.at i j hi hj)
theorem GM.tur {x : Mx} {n k K : Nat} (hx : GM x n k K) : GM (turM n k x) k n K := GM.tab fun i j hi hj => hx.at j i hj hi
theorem GM.mul {x y : Mx} {n k p K M : Nat} (hx : GM x n k K) (hy : GM y k p M) : GM (mulM n k p x y) n p (k * (K + M + 1) + 1) := GM.tab fun i j hi hj => bs_sz fun t ht => (hx.at i t hi ht).mul (hy.at t j ht hj)
theorem GM.one (n : Nat) : GM (oneM n) n n 1 := GM.tab fun i j hi hj => by
 split
 ·exact szc 1 (by decide +kernel) (by decide +kernel)
 ·exact szc 0 (by decide) (by decide)
theorem GM.app {x : Mx} {v : List Rat} {n k K M : Nat} (hx : GM x n k K) (hv : GV v k M) : GV (appV n k x v) n (k * (K + M + 1) + 1) := GV.tab fun i hi => bs_sz fun t ht => (hx.at i t hi ht).mul (hv.at t ht)
theorem GM.form {x : Mx} {v w : List Rat} {n k K M N : Nat} (hx : GM x n k K) (hv : GV v n M) (hw : GV w k N) : Sz (formM n k x v w) (n * (M + (k * (K + N + 1) + 1) + 1) + 1) := bs_sz fun i hi => (hv.at i hi).mul ((hx.app hw).at i hi)
-- sums
theorem bs_swap (n m : Nat) (f : Nat → Nat → Rat) : bsV n (fun i => bsV m fun j => f i j) = bsV m fun j => bsV n fun i => f i j := by
 induction n with
 | zero => exact (bs_zero m).symm
 | succ n ih =>
  show bsV n (fun i => bsV m fun j => f i j) + bsV m (fun j => f n j) = bsV m fun j => bsV n (fun i => f i j) + f n j
  rw [ih, bs_add]
theorem bs_mul_r (n : Nat) (c : Rat) (f : Nat → Rat) : bsV n (fun i => f i * c) = bsV n f * c := by
 rw [Rat.mul_comm, ← bs_mul]
 exact bs_congr fun i _ => Rat.mul_comm _ _
theorem bs_one (n i : Nat) (hi : i < n) (f : Nat → Rat) : bsV n (fun t => (if i = t then 1 else 0) * f t) = f i := by
 induction n with
 | zero => omega
 | succ n ih =>
  show bsV n (fun t => (if i = t then 1 else 0) * f t) + (if i = n then 1 else 0) * f n = f i
  rcases Nat.lt_or_ge i n with h | h
  ·rw [ih h, if_neg (by omega)]; grind
  ·obtain rfl : i = n := by omega
   rw [if_pos rfl, bs_congr (g := fun _ => 0) fun t ht => by rw [if_neg (by omega)]; grind, bs_zero]; grind
-- the ring
/-- A matrix that equals its transpose. -/
def SymM (n : Nat) (x : Mx) : Prop := ∀ i j, i < n → j < n → ent x i j = ent x j i
end Go.Proofs.YthffglapmkkohaaGreatDoor
