/-
  The law answers true at every input, and leaves its arguments as they were: a part of the proof. CONDITIONS: the package-level tables start as the program's text lays them (the card ties them).
-/
import Derived.Test.YthffglapmkkohaaGreatDoorZeb
import Derived.Test.YthffglapmkkohaaGreatDoorRows
set_option linter.unusedVariables false
set_option linter.unusedSimpArgs false
set_option maxHeartbeats 16000000
set_option maxRecDepth 100000
namespace Go.Proofs.YthffglapmkkohaaGreatDoor
open Go.RowKit
theorem canc {z : Int} {d : Nat} (hd : d ≠ 0) : (mkRat z d).num = z.tdiv (Nat.gcd z.natAbs d : Nat) ∧ (mkRat z d).den = d / Nat.gcd z.natAbs d := by
 have hg : ((Nat.gcd z.natAbs d : Nat) : Int) ∣ z := by rw [← Int.dvd_natAbs, Int.ofNat_dvd]; exact Nat.gcd_dvd_left _ _
 rw [Rat.num_mkRat, Rat.den_mkRat, if_neg hd, if_neg hd, Nat.gcd_comm d]
 exact ⟨(Int.tdiv_eq_ediv_of_dvd hg).symm, rfl⟩
theorem rmul_parts (a b : Rat) : (a * b).num = a.num.tdiv (Nat.gcd a.num.natAbs b.den : Nat) * b.num.tdiv (Nat.gcd b.num.natAbs a.den : Nat) ∧
  (a * b).den = b.den / Nat.gcd a.num.natAbs b.den * (a.den / Nat.gcd b.num.natAbs a.den) := by
 have h : a * b = Rat.mul a b := rfl
 rw [h]; unfold Rat.mul
 simp only [Int.divExact_eq_tdiv]
 exact ⟨trivial, Nat.mul_comm _ _⟩
theorem radd_parts (a b : Rat) :
  (a + b).num = (a.num * ((b.den / Nat.gcd a.den b.den : Nat) : Int) + b.num * ((a.den / Nat.gcd a.den b.den : Nat) : Int)).tdiv (Nat.gcd (a.num * ((b.den / Nat.gcd a.den b.den : Nat) : Int) + b.num * ((a.den / Nat.gcd a.den b.den : Nat) : Int)).natAbs (Nat.gcd a.den b.den) : Nat) ∧
  (a + b).den = a.den / Nat.gcd a.den b.den * (b.den / Nat.gcd a.den b.den) * (Nat.gcd a.den b.den / Nat.gcd (a.num * ((b.den / Nat.gcd a.den b.den : Nat) : Int) + b.num * ((a.den / Nat.gcd a.den b.den : Nat) : Int)).natAbs (Nat.gcd a.den b.den)) := by
 have h : a + b = Rat.add a b := rfl
 rw [h]; unfold Rat.add
 by_cases hg : a.den.gcd b.den = 1
 ·simp only [hg, dif_pos]
  simp
 ·simp only [hg, dif_neg, not_false_eq_true, Rat.maybeNormalize_eq]
  refine ⟨Int.divExact_eq_tdiv .., ?_⟩
  generalize hx : a.num * ((b.den / Nat.gcd a.den b.den : Nat) : Int) + b.num * ((a.den / Nat.gcd a.den b.den : Nat) : Int) = x
  have e1 : b.den = b.den / Nat.gcd a.den b.den * Nat.gcd a.den b.den := (Nat.div_mul_cancel (Nat.gcd_dvd_right _ _)).symm
  generalize hg' : Nat.gcd a.den b.den = g at *
  generalize hq : b.den / g = q at *
  rw [e1, ← Nat.mul_assoc, Nat.mul_div_assoc _ (Nat.gcd_dvd_right _ _)]
def cmpQ (a b : Rat) : Int := if a < b then -1 else if a = b then 0 else 1
theorem cmpQ_parts (a b : Rat) : cmpQ a b = if a.num * b.den < b.num * a.den then -1 else if a.num * b.den = b.num * a.den then 0 else 1 := by
 unfold cmpQ
 have h1 := Rat.lt_iff a b
 have h2 := @Rat.eq_iff_mul_eq_mul a b
 by_cases h : a < b
 ·rw [if_pos h, if_pos (h1.1 h)]
 ·rw [if_neg h, if_neg (fun e => h (h1.2 e))]
  by_cases h' : a = b
  ·rw [if_pos h', if_pos (h2.1 h')]
  ·rw [if_neg h', if_neg (fun e => h' (h2.2 e))]
theorem num_le_add (a b : Rat) : (a + b).num.natAbs ≤ (a.num * b.den + b.num * a.den).natAbs := by
 rw [Rat.num_add]; exact Int.natAbs_ediv_le_natAbs _ _
theorem den_le_add (a b : Rat) : (a + b).den ≤ a.den * b.den := by
 rw [Rat.den_add]; exact Nat.div_le_self _ _
theorem num_le_mul (a b : Rat) : (a * b).num.natAbs ≤ (a.num * b.num).natAbs := by
 rw [Rat.num_mul]; exact Int.natAbs_ediv_le_natAbs _ _
theorem den_le_mul (a b : Rat) : (a * b).den ≤ a.den * b.den := by
 rw [Rat.den_mul]; exact Nat.div_le_self _ _
/-- The denominator as it is kept: 0 stands for 1. -/
def fe (q : Rat) : Nat := if q.den = 1 then 0 else q.den
theorem fe_one {q : Rat} (h : q.den = 1) : fe q = 0 := if_pos h
theorem fe_ne {q : Rat} (h : q.den ≠ 1) : fe q = q.den := if_neg h
/-- A fraction: its numerator, and its denominator as it is kept. -/
abbrev frV (n : Int) (e : Nat) : Value := .agg #[.int .u64 ((zl n : Nat) : Int), .string (zh n), .bool (zs n), .int .u64 ((lo e : Nat) : Int), .string (hs e)]
abbrev fracV (q : Rat) : Value := frV q.num (fe q)
theorem frV_inj {m n : Int} {d e : Nat} (h : frV m d = frV n e) : m = n ∧ d = e := by
 simp only [frV, Value.agg.injEq, Array.mk.injEq, List.cons.injEq, Value.int.injEq, Value.string.injEq, Value.bool.injEq, and_true, true_and] at h
 obtain ⟨h1, h2, h3, h4, h5⟩ := h
 exact ⟨intV_inj (by unfold intV; rw [h1, h2, h3]), natV_inj (by unfold natV; rw [h4, h5])⟩
theorem fracV_inj {p q : Rat} (h : fracV p = fracV q) : p = q := by
 obtain ⟨h1, h2⟩ := frV_inj h
 refine Rat.ext h1 ?_
 unfold fe at h2
 have := p.den_nz
 have := q.den_nz
 split at h2 <;> split at h2 <;> omega
/-- What == sees of two naturals that differ. -/
theorem ne_nat {a b : Nat} (h : a ≠ b) : (((lo a : Nat) : Int) == ((lo b : Nat) : Int)) = false ∨ ((((lo a : Nat) : Int) == ((lo b : Nat) : Int)) = true ∧ ((hs a).toList == (hs b).toList) = false) := by
 by_cases h1 : lo a = lo b
 ·right
  refine ⟨by rw [h1]; exact beq_self_eq_true _, beq_eq_false_iff_ne.2 fun h3 => h ?_⟩
  rw [hs_toList, hs_toList] at h3
  have h4 := hiB_inj h3
  have h5 := divmod a
  have h6 := divmod b
  rw [h4, h1, ← h6] at h5
  exact h5
 ·left
  exact beq_eq_false_iff_ne.2 fun h2 => h1 (by omega)
/-- At most k words in the numerator and in the denominator. -/
def Sz (q : Rat) (k : Nat) : Prop := dI q.num ≤ k ∧ (digs q.den).length ≤ k
theorem Sz.n {q : Rat} {k : Nat} (h : Sz q k) : dI q.num ≤ k := h.1
theorem Sz.d {q : Rat} {k : Nat} (h : Sz q k) : (digs q.den).length ≤ k := h.2
theorem Sz.mono {q : Rat} {k m : Nat} (h : Sz q k) (hm : k ≤ m) : Sz q m := ⟨Nat.le_trans h.1 hm, Nat.le_trans h.2 hm⟩
theorem Sz.neg {q : Rat} {k : Nat} (h : Sz q k) : Sz (-q) k := ⟨by rw [Rat.neg_num, dI_neg]; exact h.1, h.2⟩
theorem Sz.add {p q : Rat} {k m : Nat} (hp : Sz p k) (hq : Sz q m) : Sz (p + q) (k + m + 1) := by
 constructor
 ·refine Nat.le_trans (dI_mono (num_le_add p q)) (dI_add (k := k + m) (dI_mul hp.1 (by rw [dI_nat]; exact hq.2)) ?_)
  rw [Nat.add_comm k m]
  exact dI_mul hq.1 (by rw [dI_nat]; exact hp.2)
 ·exact Nat.le_trans (digs_mono (den_le_add p q)) (Nat.le_trans (digs_mul_le hp.2 hq.2) (by omega))
theorem Sz.sub {p q : Rat} {k m : Nat} (hp : Sz p k) (hq : Sz q m) : Sz (p - q) (k + m + 1) := by
 rw [Rat.sub_eq_add_neg]; exact hp.add hq.neg
theorem Sz.mul {p q : Rat} {k m : Nat} (hp : Sz p k) (hq : Sz q m) : Sz (p * q) (k + m) :=
 ⟨Nat.le_trans (dI_mono (num_le_mul p q)) (dI_mul hp.1 hq.1), Nat.le_trans (digs_mono (den_le_mul p q)) (digs_mul_le hp.2 hq.2)⟩
theorem Sz.int {z : Int} {k : Nat} (h : dI z ≤ k) (hk : 0 < k) : Sz (z : Rat) k :=
 ⟨h, Nat.le_trans (digs_length_iff (k := 1).2 (by show (z : Rat).den < _; rw [Rat.den_intCast, Nat.pow_one]; exact Bs_gt)) hk⟩
theorem Sz.mk {z : Int} {d k : Nat} (hz : dI z ≤ k) (hd : (digs d).length ≤ k) (h0 : d ≠ 0) : Sz (mkRat z d) k := by
 obtain ⟨h1, h2⟩ := canc (z := z) h0
 refine ⟨?_, ?_⟩
 ·rw [h1]
  refine Nat.le_trans (dI_mono ?_) hz
  rw [Int.natAbs_tdiv]
  exact Nat.div_le_self _ _
 ·rw [h2]; exact Nat.le_trans (digs_mono (Nat.div_le_self _ _)) hd
theorem new_natc (w : World) : (Instr.alloc 32 true (.tuple #[])).run Tryz.prog w = .ok (.pointer (some ⟨w.heap.size, 0, none⟩)) (w.alloc (.cells #[.int .u64 0, .string ⟨#[]⟩] 32)) := by
 simp [go_sem, Instr.alloc]
theorem put_natc (i0 i : Int) (s0 s : ByteArray) (w : World) (k : Nat) (h : Hd w k [.int .u64 i0, .string s0]) :
  ∃ w', (Instr.storeAt 32 (.pointer (some ⟨k, 0, none⟩)) (.agg #[.int .u64 i, .string s])).run Tryz.prog w = .ok () w' ∧ Hd w' k [.int .u64 i, .string s] ∧ Upd k w w' := by
 have h0 : w.cell? ⟨k, 0, none⟩ = some (.int .u64 i0) := h.cell 0 (by simp)
 have h1 : w.cell? ⟨k, 1, none⟩ = some (.string s0) := h.cell 1 (by simp)
 have hf := h.frz
 refine ⟨_, ?_, setAll_hd [.int .u64 i, .string s] 0 w k [] [.int .u64 i0, .string s0] rfl rfl h, (((Upd.refl k w).setCell 0 _).setCell 1 _)⟩
 simp [go_sem, Instr.storeAt, Instr.sureAddr, h0, h1, hf, setAll]
/-- A property of worlds that stays while memory is only made. -/
def Keeps (K : World → Prop) : Prop := ∀ w w', Below w.heap.size w w' → K w → K w'
theorem Keeps.at {K : World → Prop} (h : Keeps K) {w w' : World} (hb : Below w.heap.size w w') (hk : K w) : K w' := h _ _ hb hk
theorem Keeps.tab : Keeps Tab := fun _ _ hb h => h.below hb
theorem Keeps.and {K L : World → Prop} (h : Keeps K) (g : Keeps L) : Keeps (fun w => K w ∧ L w) := fun _ _ hb ⟨a, b⟩ => ⟨h _ _ hb a, g _ _ hb b⟩
end Go.Proofs.YthffglapmkkohaaGreatDoor
namespace Go.Proofs.YthffglapmkkohaaGreatDoor
open Go.RowKit
attribute [local irreducible] lo hs sm s64 c64 d64 b64 mh ml pd pc qd qc val hiB str cmpI srD lz nb zl zh zs
theorem cls_box {α : Type} {F : α → World} {z : World} (h1 : ∀ x, Below z.heap.size z (F x)) {w : World} {L : List (Nat × List Value)} (hL : GL w z L) (k : Nat) (c : List Value) (hm : (k, c) ∈ L) : cellsC F k 0 c :=
 cellsC_of c 0 fun x => cells_of c 0 [] rfl ((hL.get k c hm).below (h1 x))
end Go.Proofs.YthffglapmkkohaaGreatDoor
namespace Go.Proofs.YthffglapmkkohaaGreatDoor
open Go.RowKit
attribute [local irreducible] lo hs sm s64 c64 d64 b64 mh ml pd pc qd qc val hiB str cmpI srD lz nb zl zh zs dval
end Go.Proofs.YthffglapmkkohaaGreatDoor
namespace Go.Proofs.YthffglapmkkohaaGreatDoor
open Go.RowKit
attribute [local irreducible] lo hs zl zh zs
theorem Ws.len {w : World} {a : Option Addr} {n c : Nat} {l : List Nat} (h : Ws w (.slice a n c) l) : l.length = n := by
 rcases h with ⟨ao, c1, h1, h2⟩ | ⟨a1, c1, h1, h2⟩
 ·simp only [Value.slice.injEq] at h1; rw [h2, h1.2.1]; rfl
 ·simp only [Value.slice.injEq] at h1; rw [h1.2.1]
end Go.Proofs.YthffglapmkkohaaGreatDoor
namespace Go.Proofs.YthffglapmkkohaaGreatDoor
open Go.RowKit
attribute [local irreducible] lo hs sm s64 c64 d64 b64 mh ml pd pc qd qc val hiB str cmpI srD lz nb zl zh zs
theorem whole_yes (n : Int) (w : World) :
  Calls Tryz.prog 141 #[frV n 0] w fun xe w' => xe = .returned (.bool true) ∧ Below w.heap.size w w' := by
 have hL0 : GL w w [] := GL.start w
 have e0 : (((lo 0 : Nat) : Int) == 0) = true := by rw [lo_small Bs_pos]; rfl
 have e1 : ((hs 0).toList == []) = true := by rw [hs_small Bs_pos, ByteArray.toList_eq]; rfl
 obtain ⟨x1, hweq, hL0⟩ := GL.named (hL0.new rfl [.int .u64 ((zl n : Nat) : Int), .string (zh n), .bool (zs n), .int .u64 ((lo 0 : Nat) : Int), .string (hs 0)] 36)
 go_enter Tryz.func141, Tryz.ntmps141
 have hN0 := cells_of _ 0 [] rfl (hL0.get _ _ mZ)
 simp only [zF, Nat.reduceAdd] at hN0
 go_wp2_with fail
 exact bodyPost_ret (v := .bool true) (by simp [results, Tryz.results141, go_sem, hN0]) rfl ⟨rfl, hL0.bl⟩
theorem whole_no (n : Int) (e : Nat) (he : e ≠ 0) (w : World) :
  Calls Tryz.prog 141 #[frV n e] w fun xe w' => xe = .returned (.bool false) ∧ Below w.heap.size w w' := by
 have hL0 : GL w w [] := GL.start w
 have hz := ne0 he
 clear he
 rcases hz with e0 | ⟨e0, e1⟩
 all_goals (
  obtain ⟨x1, hweq, hL0⟩ := GL.named (hL0.new rfl [.int .u64 ((zl n : Nat) : Int), .string (zh n), .bool (zs n), .int .u64 ((lo e : Nat) : Int), .string (hs e)] 36)
  go_enter Tryz.func141, Tryz.ntmps141
  have hN0 := cells_of _ 0 [] rfl (hL0.get _ _ mZ)
  simp only [zF, Nat.reduceAdd] at hN0
  go_wp2_with fail
  exact bodyPost_ret (v := .bool false) (by simp [results, Tryz.results141, go_sem, hN0]) rfl ⟨rfl, hL0.bl⟩)
theorem den_one_w (n : Int) (HW : RT 141 #[frV n 0] (.bool true)) (HO : RT 133 #[.int .u64 1] (natV 1)) (w : World) :
  Calls Tryz.prog 66 #[frV n 0] w fun xe w' => xe = .returned (natV 1) ∧ Below w.heap.size w w' := by
 have hL0 : GL w w [] := GL.start w
 replace HW := Lib.hid HW
 replace HO := Lib.hid HO
 obtain ⟨x1, hweq, hL0⟩ := GL.named ((hL0.new rfl [.int .u64 ((zl n : Nat) : Int), .string (zh n), .bool (zs n), .int .u64 ((lo 0 : Nat) : Int), .string (hs 0)] 36).new (K := w.heap.size + 1) (szA _ _) [.int .u64 0, .string ⟨#[]⟩] 32)
 go_enter Tryz.func66, Tryz.ntmps66
 have hN0 := cells_of _ 0 [] rfl (hL0.get _ _ (mK mZ))
 simp only [zF, Nat.reduceAdd] at hN0
 go_wp2_with fail
 clear hN0
 with_reducible refine Calls.mono (HW.out _) ?_
 rintro e x2 ⟨rfl, hb⟩
 replace hL0 := hL0.call hb
 clear hb hweq
 go_wp2_with fail
 with_reducible refine Calls.mono (HO.out _) ?_
 rintro e x3 ⟨rfl, hb⟩
 replace hL0 := hL0.call hb
 clear hb
 have hA := hL0.fc
 simp only [zF, Nat.reduceAdd] at hA
 obtain ⟨x4, hput1, hP⟩ := GL.named (hL0.put 0 (w.heap.size + 1) _ rfl [.int .u64 ((lo 1 : Nat) : Int), .string (hs 1)] rfl)
 simp only [setAll] at hput1
 simp only [List.set_cons_zero, List.set_cons_succ] at hP
 have hB1 := hP.fc
 simp only [zF, Nat.reduceAdd] at hB1
 replace hL0 := hP
 go_wp2_with fail
 exact bodyPost_ret (v := natV 1) (by simp [results, Tryz.results66, go_sem, hB1]) rfl ⟨rfl, hL0.bl⟩
theorem den_part_w (n : Int) (e : Nat) (HW : RT 141 #[frV n e] (.bool false)) (w : World) :
  Calls Tryz.prog 66 #[frV n e] w fun xe w' => xe = .returned (natV e) ∧ Below w.heap.size w w' := by
 have hL0 : GL w w [] := GL.start w
 replace HW := Lib.hid HW
 obtain ⟨x1, hweq, hL0⟩ := GL.named ((hL0.new rfl [.int .u64 ((zl n : Nat) : Int), .string (zh n), .bool (zs n), .int .u64 ((lo e : Nat) : Int), .string (hs e)] 36).new (K := w.heap.size + 1) (szA _ _) [.int .u64 0, .string ⟨#[]⟩] 32)
 go_enter Tryz.func66, Tryz.ntmps66
 have hN0 := cells_of _ 0 [] rfl (hL0.get _ _ (mK mZ))
 simp only [zF, Nat.reduceAdd] at hN0
 go_wp2_with fail
 clear hN0
 with_reducible refine Calls.mono (HW.out _) ?_
 rintro e x2 ⟨rfl, hb⟩
 replace hL0 := hL0.call hb
 clear hb hweq
 have hA := hL0.fc
 simp only [zF, Nat.reduceAdd] at hA
 obtain ⟨x3, hput1, hP⟩ := GL.named (hL0.put 0 (w.heap.size + 1) _ rfl [.int .u64 ((lo e : Nat) : Int), .string (hs e)] rfl)
 simp only [setAll] at hput1
 simp only [List.set_cons_zero, List.set_cons_succ] at hP
 have hB1 := hP.fc
 simp only [zF, Nat.reduceAdd] at hB1
 replace hL0 := hP
 go_wp2_with fail
 exact bodyPost_ret (v := natV e) (by simp [results, Tryz.results66, go_sem, hB1]) rfl ⟨rfl, hL0.bl⟩
theorem lowest_one (n : Int) (HO : RT 133 #[.int .u64 1] (natV 1)) (w : World) :
  Calls Tryz.prog 67 #[intV n, natV 1] w fun xe w' => xe = .returned (.agg #[.int .u64 ((zl n : Nat) : Int), .string (zh n), .bool (zs n), .int .u64 0, .string ⟨#[]⟩]) ∧ Below w.heap.size w w' := by
 have hL0 : GL w w [] := GL.start w
 replace HO := Lib.hid HO
 obtain ⟨x1, hweq, hL0⟩ := GL.named (((hL0.new rfl [.int .u64 ((zl n : Nat) : Int), .string (zh n), .bool (zs n)] 34).new (K := w.heap.size + 1) (szA _ _) [.int .u64 ((lo 1 : Nat) : Int), .string (hs 1)] 32).new (K := w.heap.size + 1 + 1) (by simp only [World.size_alloc]) [.int .u64 0, .string ⟨#[]⟩, .bool false, .int .u64 0, .string ⟨#[]⟩] 36)
 go_enter Tryz.func67, Tryz.ntmps67
 go_upto_region 1 with fail
 clear hweq
 obtain ⟨α, iα, F, hF1, hF2⟩ := cls x1
 have hq0 := cls_box hF1 hL0 _ _ (mK mZ)
 simp only [zC, Nat.reduceAdd] at hq0
 refine region_qs 3 (C := fun w' => ∃ x, w' = F x) (by kernel_rfl) (by kernel_rfl) (cls_drew hF2) ?_
 simp only [zT]
 repeat (go_big_quiet_step (first | fail | (go_at_call 133; with_reducible exact cls_call hF1 hF2 HO.out _)))
 refine wpQuiet_nil ?_
 rintro wq ⟨xq, rfl⟩
 replace hL0 := hL0.call (hF1 xq)
 clear  hq0 hF2
 generalize F xq = x2 at hL0 ⊢
 clear hF1 xq iα F α
 have hA := hL0.fc
 simp only [zF, Nat.reduceAdd] at hA
 obtain ⟨x3, hput1, hP⟩ := GL.named (hL0.put 0 (w.heap.size + 1 + 1) _ rfl [.int .u64 ((zl n : Nat) : Int), .string (zh n), .bool (zs n), .int .u64 0, .string ⟨#[]⟩] rfl)
 simp only [setAll] at hput1
 simp only [List.set_cons_zero, List.set_cons_succ] at hP
 have hB1 := hP.fc
 simp only [zF, Nat.reduceAdd] at hB1
 replace hL0 := hP
 go_wp2_with fail
 exact bodyPost_ret (v := .agg #[.int .u64 ((zl n : Nat) : Int), .string (zh n), .bool (zs n), .int .u64 0, .string ⟨#[]⟩]) (by simp [results, Tryz.results67, go_sem, hB1]) rfl ⟨rfl, hL0.bl⟩
theorem lowest_part (n : Int) (d : Nat) (HO : RT 133 #[.int .u64 1] (natV 1)) (hd : d ≠ 1) (w : World) :
  Calls Tryz.prog 67 #[intV n, natV d] w fun xe w' => xe = .returned (frV n d) ∧ Below w.heap.size w w' := by
 have hL0 : GL w w [] := GL.start w
 replace HO := Lib.hid HO
 have hz := ne_nat hd
 clear hd
 rcases hz with e0 | ⟨e0, e1⟩
 all_goals (
  obtain ⟨x1, hweq, hL0⟩ := GL.named (((hL0.new rfl [.int .u64 ((zl n : Nat) : Int), .string (zh n), .bool (zs n)] 34).new (K := w.heap.size + 1) (szA _ _) [.int .u64 ((lo d : Nat) : Int), .string (hs d)] 32).new (K := w.heap.size + 1 + 1) (by simp only [World.size_alloc]) [.int .u64 0, .string ⟨#[]⟩, .bool false, .int .u64 0, .string ⟨#[]⟩] 36)
  go_enter Tryz.func67, Tryz.ntmps67
  go_upto_region 1 with fail
  clear hweq
  obtain ⟨α, iα, F, hF1, hF2⟩ := cls x1
  have hq0 := cls_box hF1 hL0 _ _ (mK mZ)
  simp only [zC, Nat.reduceAdd] at hq0
  refine region_qs 3 (C := fun w' => ∃ x, w' = F x) (by kernel_rfl) (by kernel_rfl) (cls_drew hF2) ?_
  simp only [zT]
  repeat (go_big_quiet_step (first | fail | (go_at_call 133; with_reducible exact cls_call hF1 hF2 HO.out _)))
  refine wpQuiet_nil ?_
  rintro wq ⟨xq, rfl⟩
  replace hL0 := hL0.call (hF1 xq)
  clear  hq0 hF2
  generalize F xq = x2 at hL0 ⊢
  clear hF1 xq iα F α
  have hA := hL0.fc
  simp only [zF, Nat.reduceAdd] at hA
  obtain ⟨x3, hput1, hP⟩ := GL.named (hL0.put 0 (w.heap.size + 1 + 1) _ rfl [.int .u64 ((zl n : Nat) : Int), .string (zh n), .bool (zs n), .int .u64 ((lo d : Nat) : Int), .string (hs d)] rfl)
  simp only [setAll] at hput1
  simp only [List.set_cons_zero, List.set_cons_succ] at hP
  have hB1 := hP.fc
  simp only [zF, Nat.reduceAdd] at hB1
  replace hL0 := hP
  go_wp2_with fail
  exact bodyPost_ret (v := frV n d) (by simp [results, Tryz.results67, go_sem, hB1]) rfl ⟨rfl, hL0.bl⟩)
theorem pon_one (n : Nat) (HO : RT 133 #[.int .u64 1] (natV 1)) (w : World) :
  Calls Tryz.prog 135 #[natV n, natV 1] w fun xe w' => xe = .returned (natV n) ∧ Below w.heap.size w w' := by
 have hL0 : GL w w [] := GL.start w
 replace HO := Lib.hid HO
 obtain ⟨x1, hweq, hL0⟩ := GL.named (((hL0.new rfl [.int .u64 ((lo n : Nat) : Int), .string (hs n)] 32).new (K := w.heap.size + 1) (szA _ _) [.int .u64 ((lo 1 : Nat) : Int), .string (hs 1)] 32).new (K := w.heap.size + 1 + 1) (by simp only [World.size_alloc]) [.int .u64 0, .string ⟨#[]⟩] 32)
 go_enter Tryz.func135, Tryz.ntmps135
 go_upto_region 1 with fail
 clear hweq
 obtain ⟨α, iα, F, hF1, hF2⟩ := cls x1
 have hq0 := cls_box hF1 hL0 _ _ (mK mZ)
 simp only [zC, Nat.reduceAdd] at hq0
 refine region_qs 3 (C := fun w' => ∃ x, w' = F x) (by kernel_rfl) (by kernel_rfl) (cls_drew hF2) ?_
 simp only [zT]
 repeat (go_big_quiet_step (first | fail | (go_at_call 133; with_reducible exact cls_call hF1 hF2 HO.out _)))
 refine wpQuiet_nil ?_
 rintro wq ⟨xq, rfl⟩
 replace hL0 := hL0.call (hF1 xq)
 clear  hq0 hF2
 generalize F xq = x2 at hL0 ⊢
 clear hF1 xq iα F α
 have hA := hL0.fc
 simp only [zF, Nat.reduceAdd] at hA
 obtain ⟨x3, hput1, hP⟩ := GL.named (hL0.put 0 (w.heap.size + 1 + 1) _ rfl [.int .u64 ((lo n : Nat) : Int), .string (hs n)] rfl)
 simp only [setAll] at hput1
 simp only [List.set_cons_zero, List.set_cons_succ] at hP
 have hB1 := hP.fc
 simp only [zF, Nat.reduceAdd] at hB1
 replace hL0 := hP
 go_wp2_with fail
 exact bodyPost_ret (v := natV n) (by simp [results, Tryz.results135, go_sem, hB1]) rfl ⟨rfl, hL0.bl⟩
theorem pon_div (n d q r : Nat) (HO : RT 133 #[.int .u64 1] (natV 1)) (HD : RT 173 #[natV n, natV d] (.tuple #[natV q, natV r, .bool true])) (hd : d ≠ 1) (w : World) :
  Calls Tryz.prog 135 #[natV n, natV d] w fun xe w' => xe = .returned (natV q) ∧ Below w.heap.size w w' := by
 have hL0 : GL w w [] := GL.start w
 replace HO := Lib.hid HO
 replace HD := Lib.hid HD
 have hz := ne_nat hd
 clear hd
 rcases hz with e0 | ⟨e0, e1⟩
 all_goals (
  obtain ⟨x1, hweq, hL0⟩ := GL.named (((hL0.new rfl [.int .u64 ((lo n : Nat) : Int), .string (hs n)] 32).new (K := w.heap.size + 1) (szA _ _) [.int .u64 ((lo d : Nat) : Int), .string (hs d)] 32).new (K := w.heap.size + 1 + 1) (by simp only [World.size_alloc]) [.int .u64 0, .string ⟨#[]⟩] 32)
  go_enter Tryz.func135, Tryz.ntmps135
  go_upto_region 1 with fail
  clear hweq
  obtain ⟨α, iα, F, hF1, hF2⟩ := cls x1
  have hq0 := cls_box hF1 hL0 _ _ (mK mZ)
  simp only [zC, Nat.reduceAdd] at hq0
  refine region_qs 3 (C := fun w' => ∃ x, w' = F x) (by kernel_rfl) (by kernel_rfl) (cls_drew hF2) ?_
  simp only [zT]
  repeat (go_big_quiet_step (first | fail | (go_at_call 133; with_reducible exact cls_call hF1 hF2 HO.out _)))
  refine wpQuiet_nil ?_
  rintro wq ⟨xq, rfl⟩
  replace hL0 := hL0.call (hF1 xq)
  clear  hq0 hF2
  generalize F xq = x2 at hL0 ⊢
  clear hF1 xq iα F α
  have hN0 := cells_of _ 0 [] rfl (hL0.get _ _ (mK mZ))
  simp only [zF, Nat.reduceAdd] at hN0
  have hN1 := cells_of _ 0 [] rfl (hL0.get _ _ (mK (mK mZ)))
  simp only [zF, Nat.reduceAdd] at hN1
  go_wp2_with fail
  clear hN0 hN1
  with_reducible refine Calls.mono (HD.out _) ?_
  rintro e x3 ⟨rfl, hb⟩
  replace hL0 := hL0.call hb
  clear hb
  obtain ⟨x4, hweq, hL0⟩ := GL.named ((hL0.new rfl [.int .u64 ((lo q : Nat) : Int), .string (hs q)] 32).new (K := x3.heap.size + 1) (szA _ _) [.int .u64 ((lo r : Nat) : Int), .string (hs r)] 32)
  have hA := hL0.fc
  simp only [zF, Nat.reduceAdd] at hA
  obtain ⟨x5, hput1, hP⟩ := GL.named (hL0.put 2 (w.heap.size + 1 + 1) _ rfl [.int .u64 ((lo q : Nat) : Int), .string (hs q)] rfl)
  simp only [setAll] at hput1
  simp only [List.set_cons_zero, List.set_cons_succ] at hP
  have hB1 := hP.fc
  simp only [zF, Nat.reduceAdd] at hB1
  replace hL0 := hP
  go_wp2_with fail
  exact bodyPost_ret (v := natV q) (by simp [results, Tryz.results135, go_sem, hB1]) rfl ⟨rfl, hL0.bl⟩)
theorem part_true (z s u : Int) (a g q : Nat) (HS : RT 121 #[intV z] (.int .i64 s)) (HA : RT 124 #[intV z] (natV a)) (HP : RT 135 #[natV a, natV g] (natV q)) (HF : RT 132 #[.bool true, natV q] (intV u)) (hsg : decide (s < 0) = true) (w : World) :
  Calls Tryz.prog 140 #[intV z, natV g] w fun xe w' => xe = .returned (intV u) ∧ Below w.heap.size w w' := by
 have hL0 : GL w w [] := GL.start w
 replace HS := Lib.hid HS
 replace HA := Lib.hid HA
 replace HP := Lib.hid HP
 replace HF := Lib.hid HF
 obtain ⟨x1, hweq, hL0⟩ := GL.named (((hL0.new rfl [.int .u64 ((zl z : Nat) : Int), .string (zh z), .bool (zs z)] 34).new (K := w.heap.size + 1) (szA _ _) [.int .u64 ((lo g : Nat) : Int), .string (hs g)] 32).new (K := w.heap.size + 1 + 1) (by simp only [World.size_alloc]) [.int .u64 0, .string ⟨#[]⟩, .bool false] 34)
 go_enter Tryz.func140, Tryz.ntmps140
 go_upto_region 1 with fail
 clear hweq
 obtain ⟨α, iα, F, hF1, hF2⟩ := cls x1
 have hq0 := cls_box hF1 hL0 _ _ (mK mZ)
 simp only [zC, Nat.reduceAdd] at hq0
 have hq1 := cls_box hF1 hL0 _ _ (mK (mK mZ))
 simp only [zC, Nat.reduceAdd] at hq1
 refine region_qs 8 (C := fun w' => ∃ x, w' = F x) (by kernel_rfl) (by kernel_rfl) (cls_drew hF2) ?_
 simp only [zT]
 repeat (go_big_quiet_step (first | fail | (go_at_call 121; with_reducible exact cls_call hF1 hF2 HS.out _) | (go_at_call 124; with_reducible exact cls_call hF1 hF2 HA.out _) | (go_at_call 135; with_reducible exact cls_call hF1 hF2 HP.out _) | (go_at_call 132; with_reducible exact cls_call hF1 hF2 HF.out _)))
 refine wpQuiet_nil ?_
 rintro wq ⟨xq, rfl⟩
 replace hL0 := hL0.call (hF1 xq)
 clear  hq0 hq1 hF2
 generalize F xq = x2 at hL0 ⊢
 clear hF1 xq iα F α
 have hA := hL0.fc
 simp only [zF, Nat.reduceAdd] at hA
 obtain ⟨x3, hput1, hP⟩ := GL.named (hL0.put 0 (w.heap.size + 1 + 1) _ rfl [.int .u64 ((zl u : Nat) : Int), .string (zh u), .bool (zs u)] rfl)
 simp only [setAll] at hput1
 simp only [List.set_cons_zero, List.set_cons_succ] at hP
 have hB1 := hP.fc
 simp only [zF, Nat.reduceAdd] at hB1
 replace hL0 := hP
 go_wp2_with fail
 exact bodyPost_ret (v := intV u) (by simp [results, Tryz.results140, go_sem, hB1]) rfl ⟨rfl, hL0.bl⟩
theorem part_false (z s u : Int) (a g q : Nat) (HS : RT 121 #[intV z] (.int .i64 s)) (HA : RT 124 #[intV z] (natV a)) (HP : RT 135 #[natV a, natV g] (natV q)) (HF : RT 132 #[.bool false, natV q] (intV u)) (hsg : decide (s < 0) = false) (w : World) :
  Calls Tryz.prog 140 #[intV z, natV g] w fun xe w' => xe = .returned (intV u) ∧ Below w.heap.size w w' := by
 have hL0 : GL w w [] := GL.start w
 replace HS := Lib.hid HS
 replace HA := Lib.hid HA
 replace HP := Lib.hid HP
 replace HF := Lib.hid HF
 obtain ⟨x1, hweq, hL0⟩ := GL.named (((hL0.new rfl [.int .u64 ((zl z : Nat) : Int), .string (zh z), .bool (zs z)] 34).new (K := w.heap.size + 1) (szA _ _) [.int .u64 ((lo g : Nat) : Int), .string (hs g)] 32).new (K := w.heap.size + 1 + 1) (by simp only [World.size_alloc]) [.int .u64 0, .string ⟨#[]⟩, .bool false] 34)
 go_enter Tryz.func140, Tryz.ntmps140
 go_upto_region 1 with fail
 clear hweq
 obtain ⟨α, iα, F, hF1, hF2⟩ := cls x1
 have hq0 := cls_box hF1 hL0 _ _ (mK mZ)
 simp only [zC, Nat.reduceAdd] at hq0
 have hq1 := cls_box hF1 hL0 _ _ (mK (mK mZ))
 simp only [zC, Nat.reduceAdd] at hq1
 refine region_qs 8 (C := fun w' => ∃ x, w' = F x) (by kernel_rfl) (by kernel_rfl) (cls_drew hF2) ?_
 simp only [zT]
 repeat (go_big_quiet_step (first | fail | (go_at_call 121; with_reducible exact cls_call hF1 hF2 HS.out _) | (go_at_call 124; with_reducible exact cls_call hF1 hF2 HA.out _) | (go_at_call 135; with_reducible exact cls_call hF1 hF2 HP.out _) | (go_at_call 132; with_reducible exact cls_call hF1 hF2 HF.out _)))
 refine wpQuiet_nil ?_
 rintro wq ⟨xq, rfl⟩
 replace hL0 := hL0.call (hF1 xq)
 clear  hq0 hq1 hF2
 generalize F xq = x2 at hL0 ⊢
 clear hF1 xq iα F α
 have hA := hL0.fc
 simp only [zF, Nat.reduceAdd] at hA
 obtain ⟨x3, hput1, hP⟩ := GL.named (hL0.put 0 (w.heap.size + 1 + 1) _ rfl [.int .u64 ((zl u : Nat) : Int), .string (zh u), .bool (zs u)] rfl)
 simp only [setAll] at hput1
 simp only [List.set_cons_zero, List.set_cons_succ] at hP
 have hB1 := hP.fc
 simp only [zF, Nat.reduceAdd] at hB1
 replace hL0 := hP
 go_wp2_with fail
 exact bodyPost_ret (v := intV u) (by simp [results, Tryz.results140, go_sem, hB1]) rfl ⟨rfl, hL0.bl⟩
theorem cancel_w (z u : Int) (a d g v : Nat) (HA : RT 124 #[intV z] (natV a)) (HG : RT 134 #[natV a, natV d] (natV g)) (HP : RT 140 #[intV z, natV g] (intV u)) (HQ : RT 135 #[natV d, natV g] (natV v)) (w : World) :
  Calls Tryz.prog 65 #[intV z, natV d] w fun xe w' => xe = .returned (.tuple #[intV u, natV v]) ∧ Below w.heap.size w w' := by
 have hL0 : GL w w [] := GL.start w
 replace HA := Lib.hid HA
 replace HG := Lib.hid HG
 replace HP := Lib.hid HP
 replace HQ := Lib.hid HQ
 obtain ⟨x1, hweq, hL0⟩ := GL.named ((((hL0.new rfl [.int .u64 ((zl z : Nat) : Int), .string (zh z), .bool (zs z)] 34).new (K := w.heap.size + 1) (szA _ _) [.int .u64 ((lo d : Nat) : Int), .string (hs d)] 32).new (K := w.heap.size + 1 + 1) (by simp only [World.size_alloc]) [.int .u64 0, .string ⟨#[]⟩, .bool false] 34).new (K := w.heap.size + 1 + 1 + 1) (by simp only [World.size_alloc]) [.int .u64 0, .string ⟨#[]⟩] 32)
 go_enter Tryz.func65, Tryz.ntmps65
 go_upto_region 1 with fail
 clear hweq
 refine region_gh (by kernel_rfl) (by kernel_rfl) ?_
 refine lex_seg (gl := []) 4 (by kernel_rfl) ?_
 intro α iα F hF1 hF2
 have hq := GL.seg hF1 hL0
 simp only [zC, Nat.reduceAdd] at hq
 simp only [zT]
 repeat (go_big_quiet_step (first | fail | (go_at_call 124; with_reducible exact seg_call hF2 HA.out _) | (go_at_call 134; with_reducible exact seg_call hF2 HG.out _)))
 refine wpQuiet_nil ?_
 clear hq hF1 hF2 iα F α
 refine lex_new [.int .u64 0, .string ⟨#[]⟩] 6 32 32 rfl rfl (of_decide_eq_true (by kernel_rfl)) (by kernel_rfl) rfl new_natc ?_
 simp only [Act.put, zP]
 refine lex_put [.int .u64 ((lo g : Nat) : Int), .string (hs g)] [.int .u64 0, .string ⟨#[]⟩] 6 32 (.tmp 10) rfl (by kernel_rfl) (by simp [toG, upd]) rfl (fun w k h => put_natc _ _ _ _ w k h) ?_
 simp only [Act.put]
 refine lexG_nil ?_
 intro κ x2 hS
 replace hL0 := hL0.ghs hS [(6, [.int .u64 ((lo g : Nat) : Int), .string (hs g)])] (by simp) (by intro p hp; simp only [List.mem_cons, List.not_mem_nil, or_false] at hp; rcases hp with rfl <;> exact ⟨_, by simp only [toG, upd]; rfl⟩)
 simp only [List.map_cons, List.map_nil, List.cons_append, List.nil_append] at hL0
 simp only [over_toG, over_nil, Act.put, zP]
 clear hS
 generalize κ 6 = k2_6 at *
 go_upto_region 2 with fail
 obtain ⟨α, iα, F, hF1, hF2⟩ := cls x2
 have hq0 := cls_box hF1 hL0 _ _ mZ
 simp only [zC, Nat.reduceAdd] at hq0
 have hq1 := cls_box hF1 hL0 _ _ (mK (mK (mK mZ)))
 simp only [zC, Nat.reduceAdd] at hq1
 have hq2 := cls_box hF1 hL0 _ _ (mK (mK (mK (mK mZ))))
 simp only [zC, Nat.reduceAdd] at hq2
 refine region_qs 6 (C := fun w' => ∃ x, w' = F x) (by kernel_rfl) (by kernel_rfl) (cls_drew hF2) ?_
 simp only [zT]
 repeat (go_big_quiet_step (first | fail | (go_at_call 140; with_reducible exact cls_call hF1 hF2 HP.out _) | (go_at_call 135; with_reducible exact cls_call hF1 hF2 HQ.out _)))
 refine wpQuiet_nil ?_
 rintro wq ⟨xq, rfl⟩
 replace hL0 := hL0.call (hF1 xq)
 clear  hq0 hq1 hq2 hF2
 generalize F xq = x3 at hL0 ⊢
 clear hF1 xq iα F α
 have hA := hL0.fc
 simp only [zF, Nat.reduceAdd] at hA
 obtain ⟨x4, hput1, hP⟩ := GL.named (hL0.put 2 (w.heap.size + 1 + 1) _ rfl [.int .u64 ((zl u : Nat) : Int), .string (zh u), .bool (zs u)] rfl)
 simp only [setAll] at hput1
 simp only [List.set_cons_zero, List.set_cons_succ] at hP
 have hB1 := hP.fc
 simp only [zF, Nat.reduceAdd] at hB1
 replace hL0 := hP
 obtain ⟨x5, hput2, hP⟩ := GL.named (hL0.put 1 (w.heap.size + 1 + 1 + 1) _ rfl [.int .u64 ((lo v : Nat) : Int), .string (hs v)] rfl)
 simp only [setAll] at hput2
 simp only [List.set_cons_zero, List.set_cons_succ] at hP
 have hB2 := hP.fc
 simp only [zF, Nat.reduceAdd] at hB2
 replace hL0 := hP
 go_wp2_with fail
 exact bodyPost_ret (v := .tuple #[intV u, natV v]) (by simp [results, Tryz.results65, go_sem, hB2]) rfl ⟨rfl, hL0.bl⟩
theorem times_one (z : Int) (HO : RT 133 #[.int .u64 1] (natV 1)) (w : World) :
  Calls Tryz.prog 136 #[intV z, natV 1] w fun xe w' => xe = .returned (intV z) ∧ Below w.heap.size w w' := by
 have hL0 : GL w w [] := GL.start w
 replace HO := Lib.hid HO
 obtain ⟨x1, hweq, hL0⟩ := GL.named (((hL0.new rfl [.int .u64 ((zl z : Nat) : Int), .string (zh z), .bool (zs z)] 34).new (K := w.heap.size + 1) (szA _ _) [.int .u64 ((lo 1 : Nat) : Int), .string (hs 1)] 32).new (K := w.heap.size + 1 + 1) (by simp only [World.size_alloc]) [.int .u64 0, .string ⟨#[]⟩, .bool false] 34)
 go_enter Tryz.func136, Tryz.ntmps136
 go_upto_region 1 with fail
 clear hweq
 obtain ⟨α, iα, F, hF1, hF2⟩ := cls x1
 have hq0 := cls_box hF1 hL0 _ _ (mK mZ)
 simp only [zC, Nat.reduceAdd] at hq0
 refine region_qs 3 (C := fun w' => ∃ x, w' = F x) (by kernel_rfl) (by kernel_rfl) (cls_drew hF2) ?_
 simp only [zT]
 repeat (go_big_quiet_step (first | fail | (go_at_call 133; with_reducible exact cls_call hF1 hF2 HO.out _)))
 refine wpQuiet_nil ?_
 rintro wq ⟨xq, rfl⟩
 replace hL0 := hL0.call (hF1 xq)
 clear  hq0 hF2
 generalize F xq = x2 at hL0 ⊢
 clear hF1 xq iα F α
 have hA := hL0.fc
 simp only [zF, Nat.reduceAdd] at hA
 obtain ⟨x3, hput1, hP⟩ := GL.named (hL0.put 0 (w.heap.size + 1 + 1) _ rfl [.int .u64 ((zl z : Nat) : Int), .string (zh z), .bool (zs z)] rfl)
 simp only [setAll] at hput1
 simp only [List.set_cons_zero, List.set_cons_succ] at hP
 have hB1 := hP.fc
 simp only [zF, Nat.reduceAdd] at hB1
 replace hL0 := hP
 go_wp2_with fail
 exact bodyPost_ret (v := intV z) (by simp [results, Tryz.results136, go_sem, hB1]) rfl ⟨rfl, hL0.bl⟩
theorem times_mul (z f p : Int) (d : Nat) (HO : RT 133 #[.int .u64 1] (natV 1)) (HF : RT 132 #[.bool false, natV d] (intV f)) (HM : RT 68 #[intV z, intV f] (intV p)) (hd : d ≠ 1) (w : World) :
  Calls Tryz.prog 136 #[intV z, natV d] w fun xe w' => xe = .returned (intV p) ∧ Below w.heap.size w w' := by
 have hL0 : GL w w [] := GL.start w
 replace HO := Lib.hid HO
 replace HF := Lib.hid HF
 replace HM := Lib.hid HM
 have hz := ne_nat hd
 clear hd
 rcases hz with e0 | ⟨e0, e1⟩
 all_goals (
  obtain ⟨x1, hweq, hL0⟩ := GL.named (((hL0.new rfl [.int .u64 ((zl z : Nat) : Int), .string (zh z), .bool (zs z)] 34).new (K := w.heap.size + 1) (szA _ _) [.int .u64 ((lo d : Nat) : Int), .string (hs d)] 32).new (K := w.heap.size + 1 + 1) (by simp only [World.size_alloc]) [.int .u64 0, .string ⟨#[]⟩, .bool false] 34)
  go_enter Tryz.func136, Tryz.ntmps136
  go_upto_region 1 with fail
  clear hweq
  obtain ⟨α, iα, F, hF1, hF2⟩ := cls x1
  have hq0 := cls_box hF1 hL0 _ _ (mK mZ)
  simp only [zC, Nat.reduceAdd] at hq0
  refine region_qs 3 (C := fun w' => ∃ x, w' = F x) (by kernel_rfl) (by kernel_rfl) (cls_drew hF2) ?_
  simp only [zT]
  repeat (go_big_quiet_step (first | fail | (go_at_call 133; with_reducible exact cls_call hF1 hF2 HO.out _)))
  refine wpQuiet_nil ?_
  rintro wq ⟨xq, rfl⟩
  replace hL0 := hL0.call (hF1 xq)
  clear  hq0 hF2
  generalize F xq = x2 at hL0 ⊢
  clear hF1 xq iα F α
  go_upto_region 3 with fail
  obtain ⟨α, iα, F, hF1, hF2⟩ := cls x2
  have hq0 := cls_box hF1 hL0 _ _ (mK mZ)
  simp only [zC, Nat.reduceAdd] at hq0
  have hq1 := cls_box hF1 hL0 _ _ (mK (mK mZ))
  simp only [zC, Nat.reduceAdd] at hq1
  refine region_qs 4 (C := fun w' => ∃ x, w' = F x) (by kernel_rfl) (by kernel_rfl) (cls_drew hF2) ?_
  simp only [zT]
  repeat (go_big_quiet_step (first | fail | (go_at_call 132; with_reducible exact cls_call hF1 hF2 HF.out _) | (go_at_call 68; with_reducible exact cls_call hF1 hF2 HM.out _)))
  refine wpQuiet_nil ?_
  rintro wq ⟨xq, rfl⟩
  replace hL0 := hL0.call (hF1 xq)
  clear  hq0 hq1 hF2
  generalize F xq = x3 at hL0 ⊢
  clear hF1 xq iα F α
  have hA := hL0.fc
  simp only [zF, Nat.reduceAdd] at hA
  obtain ⟨x4, hput1, hP⟩ := GL.named (hL0.put 0 (w.heap.size + 1 + 1) _ rfl [.int .u64 ((zl p : Nat) : Int), .string (zh p), .bool (zs p)] rfl)
  simp only [setAll] at hput1
  simp only [List.set_cons_zero, List.set_cons_succ] at hP
  have hB1 := hP.fc
  simp only [zF, Nat.reduceAdd] at hB1
  replace hL0 := hP
  go_wp2_with fail
  exact bodyPost_ret (v := intV p) (by simp [results, Tryz.results136, go_sem, hB1]) rfl ⟨rfl, hL0.bl⟩)
theorem int_w (k z : Int) (HO : RT 62 #[.int .i64 k] (intV z)) (w : World) :
  Calls Tryz.prog 12 #[.int .i64 k] w fun xe w' => xe = .returned (.agg #[.int .u64 ((zl z : Nat) : Int), .string (zh z), .bool (zs z), .int .u64 0, .string ⟨#[]⟩]) ∧ Below w.heap.size w w' := by
 have hL0 : GL w w [] := GL.start w
 replace HO := Lib.hid HO
 obtain ⟨x1, hweq, hL0⟩ := GL.named (hL0.new rfl [.int .u64 0, .string ⟨#[]⟩, .bool false, .int .u64 0, .string ⟨#[]⟩] 36)
 go_enter Tryz.func12, Tryz.ntmps12
 go_wp2_with fail
 with_reducible refine Calls.mono (HO.out _) ?_
 rintro e x2 ⟨rfl, hb⟩
 replace hL0 := hL0.call hb
 clear hb hweq
 have hA := hL0.fc
 simp only [zF, Nat.reduceAdd] at hA
 obtain ⟨x3, hput1, hP⟩ := GL.named (hL0.put 0 (w.heap.size) _ rfl [.int .u64 ((zl z : Nat) : Int), .string (zh z), .bool (zs z), .int .u64 0, .string ⟨#[]⟩] rfl)
 simp only [setAll] at hput1
 simp only [List.set_cons_zero, List.set_cons_succ] at hP
 have hB1 := hP.fc
 simp only [zF, Nat.reduceAdd] at hB1
 replace hL0 := hP
 go_wp2_with fail
 exact bodyPost_ret (v := .agg #[.int .u64 ((zl z : Nat) : Int), .string (zh z), .bool (zs z), .int .u64 0, .string ⟨#[]⟩]) (by simp [results, Tryz.results12, go_sem, hB1]) rfl ⟨rfl, hL0.bl⟩
theorem fof_true (x y s z p : Int) (a b : Int) (d e : Nat) (c : Int) (HO : RT 62 #[.int .i64 a] (intV x)) (HQ : RT 62 #[.int .i64 b] (intV y)) (HS : RT 121 #[intV y] (.int .i64 s)) (HN : RT 122 #[intV x] (intV z)) (HA : RT 124 #[intV y] (natV d)) (HF : RT 123 #[intV z, natV d] (.tuple #[frV p e, .int .i64 c])) (hsg : decide (s < 0) = true) (w : World) :
  Calls Tryz.prog 57 #[.int .i64 a, .int .i64 b] w fun xe w' => xe = .returned (.tuple #[frV p e, .int .i64 c]) ∧ Below w.heap.size w w' := by
 have hL0 : GL w w [] := GL.start w
 replace HO := Lib.hid HO
 replace HQ := Lib.hid HQ
 replace HS := Lib.hid HS
 replace HN := Lib.hid HN
 replace HA := Lib.hid HA
 replace HF := Lib.hid HF
 obtain ⟨x1, hweq, hL0⟩ := GL.named (hL0.new rfl [.int .u64 0, .string ⟨#[]⟩, .bool false, .int .u64 0, .string ⟨#[]⟩] 36)
 go_enter Tryz.func57, Tryz.ntmps57
 go_wp2_with fail
 with_reducible refine Calls.mono (HO.out _) ?_
 rintro e x2 ⟨rfl, hb⟩
 replace hL0 := hL0.call hb
 clear hb hweq
 go_wp2_with fail
 with_reducible refine Calls.mono (HQ.out _) ?_
 rintro e x3 ⟨rfl, hb⟩
 replace hL0 := hL0.call hb
 clear hb
 obtain ⟨x4, hweq, hL0⟩ := GL.named ((hL0.new rfl [.int .u64 ((zl x : Nat) : Int), .string (zh x), .bool (zs x)] 34).new (K := x3.heap.size + 1) (szA _ _) [.int .u64 ((zl y : Nat) : Int), .string (zh y), .bool (zs y)] 34)
 have hN0 := cells_of _ 0 [] rfl (hL0.get _ _ mZ)
 simp only [zF, Nat.reduceAdd] at hN0
 go_wp2_with fail
 clear hN0
 with_reducible refine Calls.mono (HS.out _) ?_
 rintro e x5 ⟨rfl, hb⟩
 replace hL0 := hL0.call hb
 clear hb hweq
 have hN0 := cells_of _ 0 [] rfl (hL0.get _ _ (mK mZ))
 simp only [zF, Nat.reduceAdd] at hN0
 go_wp2_with fail
 clear hN0
 with_reducible refine Calls.mono (HN.out _) ?_
 rintro e x6 ⟨rfl, hb⟩
 replace hL0 := hL0.call hb
 clear hb
 have hA := hL0.fc
 simp only [zF, Nat.reduceAdd] at hA
 obtain ⟨x7, hput1, hP⟩ := GL.named (hL0.put 1 (x3.heap.size) _ rfl [.int .u64 ((zl z : Nat) : Int), .string (zh z), .bool (zs z)] rfl)
 simp only [setAll] at hput1
 simp only [List.set_cons_zero, List.set_cons_succ] at hP
 have hB1 := hP.fc
 simp only [zF, Nat.reduceAdd] at hB1
 replace hL0 := hP
 go_upto_region 4 with fail
 clear hA
 clear hput1 hB1
 obtain ⟨α, iα, F, hF1, hF2⟩ := cls x7
 have hq0 := cls_box hF1 hL0 _ _ mZ
 simp only [zC, Nat.reduceAdd] at hq0
 have hq1 := cls_box hF1 hL0 _ _ (mK mZ)
 simp only [zC, Nat.reduceAdd] at hq1
 refine region_qs 6 (C := fun w' => ∃ x, w' = F x) (by kernel_rfl) (by kernel_rfl) (cls_drew hF2) ?_
 simp only [zT]
 repeat (go_big_quiet_step (first | fail | (go_at_call 124; with_reducible exact cls_call hF1 hF2 HA.out _) | (go_at_call 123; with_reducible exact cls_call hF1 hF2 HF.out _)))
 refine wpQuiet_nil ?_
 rintro wq ⟨xq, rfl⟩
 replace hL0 := hL0.call (hF1 xq)
 clear  hq0 hq1 hF2
 generalize F xq = x8 at hL0 ⊢
 clear hF1 xq iα F α
 have hA := hL0.fc
 simp only [zF, Nat.reduceAdd] at hA
 obtain ⟨x9, hput2, hP⟩ := GL.named (hL0.put 2 (w.heap.size) _ rfl [.int .u64 ((zl p : Nat) : Int), .string (zh p), .bool (zs p), .int .u64 ((lo e : Nat) : Int), .string (hs e)] rfl)
 simp only [setAll] at hput2
 simp only [List.set_cons_zero, List.set_cons_succ] at hP
 have hB2 := hP.fc
 simp only [zF, Nat.reduceAdd] at hB2
 replace hL0 := hP
 go_wp2_with fail
 exact bodyPost_ret (v := .tuple #[frV p e, .int .i64 c]) (by simp [results, Tryz.results57, go_sem, hB2]) rfl ⟨rfl, hL0.bl⟩
theorem fof_false (x y s z p : Int) (a b : Int) (d e : Nat) (c : Int) (HO : RT 62 #[.int .i64 a] (intV x)) (HQ : RT 62 #[.int .i64 b] (intV y)) (HS : RT 121 #[intV y] (.int .i64 s)) (HA : RT 124 #[intV y] (natV d)) (HF : RT 123 #[intV x, natV d] (.tuple #[frV p e, .int .i64 c])) (hsg : decide (s < 0) = false) (w : World) :
  Calls Tryz.prog 57 #[.int .i64 a, .int .i64 b] w fun xe w' => xe = .returned (.tuple #[frV p e, .int .i64 c]) ∧ Below w.heap.size w w' := by
 have hL0 : GL w w [] := GL.start w
 replace HO := Lib.hid HO
 replace HQ := Lib.hid HQ
 replace HS := Lib.hid HS
 replace HA := Lib.hid HA
 replace HF := Lib.hid HF
 obtain ⟨x1, hweq, hL0⟩ := GL.named (hL0.new rfl [.int .u64 0, .string ⟨#[]⟩, .bool false, .int .u64 0, .string ⟨#[]⟩] 36)
 go_enter Tryz.func57, Tryz.ntmps57
 go_wp2_with fail
 with_reducible refine Calls.mono (HO.out _) ?_
 rintro e x2 ⟨rfl, hb⟩
 replace hL0 := hL0.call hb
 clear hb hweq
 go_wp2_with fail
 with_reducible refine Calls.mono (HQ.out _) ?_
 rintro e x3 ⟨rfl, hb⟩
 replace hL0 := hL0.call hb
 clear hb
 obtain ⟨x4, hweq, hL0⟩ := GL.named ((hL0.new rfl [.int .u64 ((zl x : Nat) : Int), .string (zh x), .bool (zs x)] 34).new (K := x3.heap.size + 1) (szA _ _) [.int .u64 ((zl y : Nat) : Int), .string (zh y), .bool (zs y)] 34)
 have hN0 := cells_of _ 0 [] rfl (hL0.get _ _ mZ)
 simp only [zF, Nat.reduceAdd] at hN0
 go_wp2_with fail
 clear hN0
 with_reducible refine Calls.mono (HS.out _) ?_
 rintro e x5 ⟨rfl, hb⟩
 replace hL0 := hL0.call hb
 clear hb hweq
 go_upto_region 4 with fail
 obtain ⟨α, iα, F, hF1, hF2⟩ := cls x5
 have hq0 := cls_box hF1 hL0 _ _ mZ
 simp only [zC, Nat.reduceAdd] at hq0
 have hq1 := cls_box hF1 hL0 _ _ (mK mZ)
 simp only [zC, Nat.reduceAdd] at hq1
 refine region_qs 6 (C := fun w' => ∃ x, w' = F x) (by kernel_rfl) (by kernel_rfl) (cls_drew hF2) ?_
 simp only [zT]
 repeat (go_big_quiet_step (first | fail | (go_at_call 124; with_reducible exact cls_call hF1 hF2 HA.out _) | (go_at_call 123; with_reducible exact cls_call hF1 hF2 HF.out _)))
 refine wpQuiet_nil ?_
 rintro wq ⟨xq, rfl⟩
 replace hL0 := hL0.call (hF1 xq)
 clear  hq0 hq1 hF2
 generalize F xq = x6 at hL0 ⊢
 clear hF1 xq iα F α
 have hA := hL0.fc
 simp only [zF, Nat.reduceAdd] at hA
 obtain ⟨x7, hput1, hP⟩ := GL.named (hL0.put 2 (w.heap.size) _ rfl [.int .u64 ((zl p : Nat) : Int), .string (zh p), .bool (zs p), .int .u64 ((lo e : Nat) : Int), .string (hs e)] rfl)
 simp only [setAll] at hput1
 simp only [List.set_cons_zero, List.set_cons_succ] at hP
 have hB1 := hP.fc
 simp only [zF, Nat.reduceAdd] at hB1
 replace hL0 := hP
 go_wp2_with fail
 exact bodyPost_ret (v := .tuple #[frV p e, .int .i64 c]) (by simp [results, Tryz.results57, go_sem, hB1]) rfl ⟨rfl, hL0.bl⟩
theorem fabs_w (n m : Int) (a e : Nat) (HA : RT 124 #[intV n] (natV a)) (HF : RT 132 #[.bool false, natV a] (intV m)) (w : World) :
  Calls Tryz.prog 131 #[frV n e] w fun xe w' => xe = .returned (frV m e) ∧ Below w.heap.size w w' := by
 have hL0 : GL w w [] := GL.start w
 replace HA := Lib.hid HA
 replace HF := Lib.hid HF
 obtain ⟨x1, hweq, hL0⟩ := GL.named ((hL0.new rfl [.int .u64 ((zl n : Nat) : Int), .string (zh n), .bool (zs n), .int .u64 ((lo e : Nat) : Int), .string (hs e)] 36).new (K := w.heap.size + 1) (szA _ _) [.int .u64 0, .string ⟨#[]⟩, .bool false, .int .u64 0, .string ⟨#[]⟩] 36)
 go_enter Tryz.func131, Tryz.ntmps131
 go_upto_region 1 with fail
 clear hweq
 obtain ⟨α, iα, F, hF1, hF2⟩ := cls x1
 have hq0 := cls_box hF1 hL0 _ _ (mK mZ)
 simp only [zC, Nat.reduceAdd] at hq0
 refine region_qs 7 (C := fun w' => ∃ x, w' = F x) (by kernel_rfl) (by kernel_rfl) (cls_drew hF2) ?_
 simp only [zT]
 repeat (go_big_quiet_step (first | fail | (go_at_call 124; with_reducible exact cls_call hF1 hF2 HA.out _) | (go_at_call 132; with_reducible exact cls_call hF1 hF2 HF.out _)))
 refine wpQuiet_nil ?_
 rintro wq ⟨xq, rfl⟩
 replace hL0 := hL0.call (hF1 xq)
 clear  hq0 hF2
 generalize F xq = x2 at hL0 ⊢
 clear hF1 xq iα F α
 have hA := hL0.fc
 simp only [zF, Nat.reduceAdd] at hA
 obtain ⟨x3, hput1, hP⟩ := GL.named (hL0.put 0 (w.heap.size + 1) _ rfl [.int .u64 ((zl m : Nat) : Int), .string (zh m), .bool (zs m), .int .u64 ((lo e : Nat) : Int), .string (hs e)] rfl)
 simp only [setAll] at hput1
 simp only [List.set_cons_zero, List.set_cons_succ] at hP
 have hB1 := hP.fc
 simp only [zF, Nat.reduceAdd] at hB1
 replace hL0 := hP
 go_wp2_with fail
 exact bodyPost_ret (v := frV m e) (by simp [results, Tryz.results131, go_sem, hB1]) rfl ⟨rfl, hL0.bl⟩
end Go.Proofs.YthffglapmkkohaaGreatDoor
namespace Go.Proofs.YthffglapmkkohaaGreatDoor
open Go.RowKit
attribute [local irreducible] lo hs sm s64 c64 d64 b64 mh ml pd pc qd qc val hiB str cmpI srD lz nb zl zh zs
theorem fcmp_w (m n x y c : Int) (d e p q : Nat) (HD : RT 66 #[frV m d] (natV p)) (HE : RT 66 #[frV n e] (natV q)) (HS : RT 136 #[intV m, natV q] (intV x)) (HT : RT 136 #[intV n, natV p] (intV y)) (HC : RT 208 #[intV x, intV y] (.int .i64 c)) (w : World) :
  Calls Tryz.prog 190 #[frV m d, frV n e] w fun xe w' => xe = .returned (.int .i64 c) ∧ Below w.heap.size w w' := by
 have hL0 : GL w w [] := GL.start w
 replace HD := Lib.hid HD
 replace HE := Lib.hid HE
 replace HS := Lib.hid HS
 replace HT := Lib.hid HT
 replace HC := Lib.hid HC
 obtain ⟨x1, hweq, hL0⟩ := GL.named ((hL0.new rfl [.int .u64 ((zl m : Nat) : Int), .string (zh m), .bool (zs m), .int .u64 ((lo d : Nat) : Int), .string (hs d)] 36).new (K := w.heap.size + 1) (szA _ _) [.int .u64 ((zl n : Nat) : Int), .string (zh n), .bool (zs n), .int .u64 ((lo e : Nat) : Int), .string (hs e)] 36)
 go_enter Tryz.func190, Tryz.ntmps190
 go_upto_region 1 with fail
 clear hweq
 obtain ⟨α, iα, F, hF1, hF2⟩ := cls x1
 have hq0 := cls_box hF1 hL0 _ _ mZ
 simp only [zC, Nat.reduceAdd] at hq0
 have hq1 := cls_box hF1 hL0 _ _ (mK mZ)
 simp only [zC, Nat.reduceAdd] at hq1
 refine region_qs 12 (C := fun w' => ∃ x, w' = F x) (by kernel_rfl) (by kernel_rfl) (cls_drew hF2) ?_
 simp only [zT]
 repeat (go_big_quiet_step (first | fail | (go_at_call 66; with_reducible exact cls_call hF1 hF2 HE.out _) | (go_at_call 136; with_reducible exact cls_call hF1 hF2 HS.out _) | (go_at_call 66; with_reducible exact cls_call hF1 hF2 HD.out _) | (go_at_call 136; with_reducible exact cls_call hF1 hF2 HT.out _) | (go_at_call 208; with_reducible exact cls_call hF1 hF2 HC.out _)))
 refine wpQuiet_nil ?_
 rintro wq ⟨xq, rfl⟩
 replace hL0 := hL0.call (hF1 xq)
 clear  hq0 hq1 hF2
 generalize F xq = x2 at hL0 ⊢
 clear hF1 xq iα F α
 go_wp2_with fail
 exact bodyPost_ret (v := .int .i64 c) (by simp [results, Tryz.results190, go_sem]) rfl ⟨rfl, hL0.bl⟩
theorem fmul_w (m n u v x y : Int) (d e p q g h k f : Nat) (HD : RT 66 #[frV m d] (natV p)) (HE : RT 66 #[frV n e] (natV q)) (HX : RT 65 #[intV m, natV q] (.tuple #[intV u, natV g])) (HY : RT 65 #[intV n, natV p] (.tuple #[intV v, natV h])) (HM : RT 68 #[intV u, intV v] (intV x)) (HP : RT 69 #[natV h, natV g] (natV k)) (HL : RT 67 #[intV x, natV k] (frV y f)) (w : World) :
  Calls Tryz.prog 15 #[frV m d, frV n e] w fun xe w' => xe = .returned (frV y f) ∧ Below w.heap.size w w' := by
 have hL0 : GL w w [] := GL.start w
 replace HD := Lib.hid HD
 replace HE := Lib.hid HE
 replace HX := Lib.hid HX
 replace HY := Lib.hid HY
 replace HM := Lib.hid HM
 replace HP := Lib.hid HP
 replace HL := Lib.hid HL
 obtain ⟨x1, hweq, hL0⟩ := GL.named (((hL0.new rfl [.int .u64 ((zl m : Nat) : Int), .string (zh m), .bool (zs m), .int .u64 ((lo d : Nat) : Int), .string (hs d)] 36).new (K := w.heap.size + 1) (szA _ _) [.int .u64 ((zl n : Nat) : Int), .string (zh n), .bool (zs n), .int .u64 ((lo e : Nat) : Int), .string (hs e)] 36).new (K := w.heap.size + 1 + 1) (by simp only [World.size_alloc]) [.int .u64 0, .string ⟨#[]⟩, .bool false, .int .u64 0, .string ⟨#[]⟩] 36)
 go_enter Tryz.func15, Tryz.ntmps15
 go_upto_region 1 with fail
 clear hweq
 refine region_gh (by kernel_rfl) (by kernel_rfl) ?_
 refine lex_seg (gl := []) 8 (by kernel_rfl) ?_
 intro α iα F hF1 hF2
 have hq := GL.seg hF1 hL0
 simp only [zC, Nat.reduceAdd] at hq
 simp only [zT]
 repeat (go_big_quiet_step (first | fail | (go_at_call 66; with_reducible exact seg_call hF2 HE.out _) | (go_at_call 65; with_reducible exact seg_call hF2 HX.out _)))
 refine wpQuiet_nil ?_
 clear hq hF1 hF2 iα F α
 refine lex_new [.int .u64 0, .string ⟨#[]⟩, .bool false] 5 34 34 rfl rfl (of_decide_eq_true (by kernel_rfl)) (by kernel_rfl) rfl new_int ?_
 simp only [Act.put, zP]
 refine lex_new [.int .u64 0, .string ⟨#[]⟩] 6 32 32 rfl rfl (of_decide_eq_true (by kernel_rfl)) (by kernel_rfl) rfl new_natc ?_
 simp only [Act.put, zP]
 refine lex_put [.int .u64 ((zl u : Nat) : Int), .string (zh u), .bool (zs u)] [.int .u64 0, .string ⟨#[]⟩, .bool false] 5 34 (.tmp 15) rfl (by kernel_rfl) (by simp [toG, upd]) rfl (fun w k h => put_int _ _ _ _ _ _ w k h) ?_
 simp only [Act.put]
 refine lex_put [.int .u64 ((lo g : Nat) : Int), .string (hs g)] [.int .u64 0, .string ⟨#[]⟩] 6 32 (.tmp 16) rfl (by kernel_rfl) (by simp [toG, upd]) rfl (fun w k h => put_natc _ _ _ _ w k h) ?_
 simp only [Act.put]
 refine lexG_nil ?_
 intro κ x2 hS
 replace hL0 := hL0.ghs hS [(6, [.int .u64 ((lo g : Nat) : Int), .string (hs g)]), (5, [.int .u64 ((zl u : Nat) : Int), .string (zh u), .bool (zs u)])] (by simp) (by intro p hp; simp only [List.mem_cons, List.not_mem_nil, or_false] at hp; rcases hp with rfl | rfl <;> exact ⟨_, by simp only [toG, upd]; rfl⟩)
 simp only [List.map_cons, List.map_nil, List.cons_append, List.nil_append] at hL0
 simp only [over_toG, over_nil, Act.put, zP]
 clear hS
 generalize κ 6 = k2_6 at *
 generalize κ 5 = k2_5 at *
 go_upto_region 2 with fail
 refine region_gh (by kernel_rfl) (by kernel_rfl) ?_
 refine lex_seg (gl := []) 8 (by kernel_rfl) ?_
 intro α iα F hF1 hF2
 have hq := GL.seg hF1 hL0
 simp only [zC, Nat.reduceAdd] at hq
 simp only [zT]
 repeat (go_big_quiet_step (first | fail | (go_at_call 66; with_reducible exact seg_call hF2 HD.out _) | (go_at_call 65; with_reducible exact seg_call hF2 HY.out _)))
 refine wpQuiet_nil ?_
 clear hq hF1 hF2 iα F α
 refine lex_new [.int .u64 0, .string ⟨#[]⟩, .bool false] 7 34 34 rfl rfl (of_decide_eq_true (by kernel_rfl)) (by kernel_rfl) rfl new_int ?_
 simp only [Act.put, zP]
 refine lex_new [.int .u64 0, .string ⟨#[]⟩] 8 32 32 rfl rfl (of_decide_eq_true (by kernel_rfl)) (by kernel_rfl) rfl new_natc ?_
 simp only [Act.put, zP]
 refine lex_put [.int .u64 ((zl v : Nat) : Int), .string (zh v), .bool (zs v)] [.int .u64 0, .string ⟨#[]⟩, .bool false] 7 34 (.tmp 23) rfl (by kernel_rfl) (by simp [toG, upd]) rfl (fun w k h => put_int _ _ _ _ _ _ w k h) ?_
 simp only [Act.put]
 refine lex_put [.int .u64 ((lo h : Nat) : Int), .string (hs h)] [.int .u64 0, .string ⟨#[]⟩] 8 32 (.tmp 24) rfl (by kernel_rfl) (by simp [toG, upd]) rfl (fun w k h => put_natc _ _ _ _ w k h) ?_
 simp only [Act.put]
 refine lexG_nil ?_
 intro κ x3 hS
 replace hL0 := hL0.ghs hS [(8, [.int .u64 ((lo h : Nat) : Int), .string (hs h)]), (7, [.int .u64 ((zl v : Nat) : Int), .string (zh v), .bool (zs v)])] (by simp) (by intro p hp; simp only [List.mem_cons, List.not_mem_nil, or_false] at hp; rcases hp with rfl | rfl <;> exact ⟨_, by simp only [toG, upd]; rfl⟩)
 simp only [List.map_cons, List.map_nil, List.cons_append, List.nil_append] at hL0
 simp only [over_toG, over_nil, Act.put, zP]
 clear hS
 generalize κ 8 = k3_8 at *
 generalize κ 7 = k3_7 at *
 go_upto_region 3 with fail
 obtain ⟨α, iα, F, hF1, hF2⟩ := cls x3
 have hq0 := cls_box hF1 hL0 _ _ mZ
 simp only [zC, Nat.reduceAdd] at hq0
 have hq1 := cls_box hF1 hL0 _ _ (mK mZ)
 simp only [zC, Nat.reduceAdd] at hq1
 have hq2 := cls_box hF1 hL0 _ _ (mK (mK mZ))
 simp only [zC, Nat.reduceAdd] at hq2
 have hq3 := cls_box hF1 hL0 _ _ (mK (mK (mK mZ)))
 simp only [zC, Nat.reduceAdd] at hq3
 refine region_qs 7 (C := fun w' => ∃ x, w' = F x) (by kernel_rfl) (by kernel_rfl) (cls_drew hF2) ?_
 simp only [zT]
 repeat (go_big_quiet_step (first | fail | (go_at_call 68; with_reducible exact cls_call hF1 hF2 HM.out _) | (go_at_call 69; with_reducible exact cls_call hF1 hF2 HP.out _) | (go_at_call 67; with_reducible exact cls_call hF1 hF2 HL.out _)))
 refine wpQuiet_nil ?_
 rintro wq ⟨xq, rfl⟩
 replace hL0 := hL0.call (hF1 xq)
 clear  hq0 hq1 hq2 hq3 hF2
 generalize F xq = x4 at hL0 ⊢
 clear hF1 xq iα F α
 have hA := hL0.fc
 simp only [zF, Nat.reduceAdd] at hA
 obtain ⟨x5, hput1, hP⟩ := GL.named (hL0.put 4 (w.heap.size + 1 + 1) _ rfl [.int .u64 ((zl y : Nat) : Int), .string (zh y), .bool (zs y), .int .u64 ((lo f : Nat) : Int), .string (hs f)] rfl)
 simp only [setAll] at hput1
 simp only [List.set_cons_zero, List.set_cons_succ] at hP
 have hB1 := hP.fc
 simp only [zF, Nat.reduceAdd] at hB1
 replace hL0 := hP
 go_wp2_with fail
 exact bodyPost_ret (v := frV y f) (by simp [results, Tryz.results15, go_sem, hB1]) rfl ⟨rfl, hL0.bl⟩
theorem fcombine_add (m n x y s u z : Int) (d e p0 q0 g p q r t v f : Nat) (HD : RT 66 #[frV m d] (natV p0)) (HE : RT 66 #[frV n e] (natV q0)) (HG : RT 134 #[natV p0, natV q0] (natV g)) (HP : RT 135 #[natV p0, natV g] (natV p)) (HQ : RT 135 #[natV q0, natV g] (natV q)) (HS : RT 136 #[intV m, natV q] (intV x)) (HT : RT 136 #[intV n, natV p] (intV y)) (HB : RT 64 #[intV x, intV y] (intV s)) (HC : RT 65 #[intV s, natV g] (.tuple #[intV u, natV r])) (HU : RT 69 #[natV p, natV q] (natV t)) (HV : RT 69 #[natV t, natV r] (natV v)) (HL : RT 67 #[intV u, natV v] (frV z f)) (w : World) :
  Calls Tryz.prog 63 #[frV m d, frV n e, .func (.func 64) #[] #[]] w fun xe w' => xe = .returned (frV z f) ∧ Below w.heap.size w w' := by
 have hL0 : GL w w [] := GL.start w
 replace HD := Lib.hid HD
 replace HE := Lib.hid HE
 replace HG := Lib.hid HG
 replace HP := Lib.hid HP
 replace HQ := Lib.hid HQ
 replace HS := Lib.hid HS
 replace HT := Lib.hid HT
 replace HB := Lib.hid HB
 replace HC := Lib.hid HC
 replace HU := Lib.hid HU
 replace HV := Lib.hid HV
 replace HL := Lib.hid HL
 obtain ⟨x1, hweq, hL0⟩ := GL.named (((hL0.new rfl [.int .u64 ((zl m : Nat) : Int), .string (zh m), .bool (zs m), .int .u64 ((lo d : Nat) : Int), .string (hs d)] 36).new (K := w.heap.size + 1) (szA _ _) [.int .u64 ((zl n : Nat) : Int), .string (zh n), .bool (zs n), .int .u64 ((lo e : Nat) : Int), .string (hs e)] 36).new (K := w.heap.size + 1 + 1) (by simp only [World.size_alloc]) [.int .u64 0, .string ⟨#[]⟩, .bool false, .int .u64 0, .string ⟨#[]⟩] 36)
 go_enter Tryz.func63, Tryz.ntmps63
 go_upto_region 1 with fail
 clear hweq
 refine region_gh (by kernel_rfl) (by kernel_rfl) ?_
 refine lex_seg (gl := []) 5 (by kernel_rfl) ?_
 intro α iα F hF1 hF2
 have hq := GL.seg hF1 hL0
 simp only [zC, Nat.reduceAdd] at hq
 simp only [zT]
 repeat (go_big_quiet_step (first | fail | (go_at_call 66; with_reducible exact seg_call hF2 HD.out _) | (go_at_call 66; with_reducible exact seg_call hF2 HE.out _) | (go_at_call 134; with_reducible exact seg_call hF2 HG.out _)))
 refine wpQuiet_nil ?_
 clear hq hF1 hF2 iα F α
 refine lex_new [.int .u64 0, .string ⟨#[]⟩] 7 32 32 rfl rfl (of_decide_eq_true (by kernel_rfl)) (by kernel_rfl) rfl new_natc ?_
 simp only [Act.put, zP]
 refine lex_put [.int .u64 ((lo g : Nat) : Int), .string (hs g)] [.int .u64 0, .string ⟨#[]⟩] 7 32 (.tmp 16) rfl (by kernel_rfl) (by simp [toG, upd]) rfl (fun w k h => put_natc _ _ _ _ w k h) ?_
 simp only [Act.put]
 refine lexG_nil ?_
 intro κ x2 hS
 replace hL0 := hL0.ghs hS [(7, [.int .u64 ((lo g : Nat) : Int), .string (hs g)])] (by simp) (by intro p hp; simp only [List.mem_cons, List.not_mem_nil, or_false] at hp; rcases hp with rfl <;> exact ⟨_, by simp only [toG, upd]; rfl⟩)
 simp only [List.map_cons, List.map_nil, List.cons_append, List.nil_append] at hL0
 simp only [over_toG, over_nil, Act.put, zP]
 clear hS
 generalize κ 7 = k2_7 at *
 go_upto_region 2 with fail
 refine region_gh (by kernel_rfl) (by kernel_rfl) ?_
 refine lex_seg (gl := []) 8 (by kernel_rfl) ?_
 intro α iα F hF1 hF2
 have hq := GL.seg hF1 hL0
 simp only [zC, Nat.reduceAdd] at hq
 simp only [zT]
 repeat (go_big_quiet_step (first | fail | (go_at_call 66; with_reducible exact seg_call hF2 HD.out _) | (go_at_call 135; with_reducible exact seg_call hF2 HP.out _) | (go_at_call 66; with_reducible exact seg_call hF2 HE.out _) | (go_at_call 135; with_reducible exact seg_call hF2 HQ.out _)))
 refine wpQuiet_nil ?_
 clear hq hF1 hF2 iα F α
 refine lex_new [.int .u64 0, .string ⟨#[]⟩] 8 32 32 rfl rfl (of_decide_eq_true (by kernel_rfl)) (by kernel_rfl) rfl new_natc ?_
 simp only [Act.put, zP]
 refine lex_new [.int .u64 0, .string ⟨#[]⟩] 9 32 32 rfl rfl (of_decide_eq_true (by kernel_rfl)) (by kernel_rfl) rfl new_natc ?_
 simp only [Act.put, zP]
 refine lex_put [.int .u64 ((lo p : Nat) : Int), .string (hs p)] [.int .u64 0, .string ⟨#[]⟩] 8 32 (.tmp 20) rfl (by kernel_rfl) (by simp [toG, upd]) rfl (fun w k h => put_natc _ _ _ _ w k h) ?_
 simp only [Act.put]
 refine lex_put [.int .u64 ((lo q : Nat) : Int), .string (hs q)] [.int .u64 0, .string ⟨#[]⟩] 9 32 (.tmp 24) rfl (by kernel_rfl) (by simp [toG, upd]) rfl (fun w k h => put_natc _ _ _ _ w k h) ?_
 simp only [Act.put]
 refine lexG_nil ?_
 intro κ x3 hS
 replace hL0 := hL0.ghs hS [(9, [.int .u64 ((lo q : Nat) : Int), .string (hs q)]), (8, [.int .u64 ((lo p : Nat) : Int), .string (hs p)])] (by simp) (by intro p hp; simp only [List.mem_cons, List.not_mem_nil, or_false] at hp; rcases hp with rfl | rfl <;> exact ⟨_, by simp only [toG, upd]; rfl⟩)
 simp only [List.map_cons, List.map_nil, List.cons_append, List.nil_append] at hL0
 simp only [over_toG, over_nil, Act.put, zP]
 clear hS
 generalize κ 9 = k3_9 at *
 generalize κ 8 = k3_8 at *
 go_upto_region 3 with fail
 refine region_gh (by kernel_rfl) (by kernel_rfl) ?_
 refine lex_seg (gl := []) 15 (by kernel_rfl) ?_
 intro α iα F hF1 hF2
 have hq := GL.seg hF1 hL0
 simp only [zC, Nat.reduceAdd] at hq
 simp only [zT]
 repeat (go_big_quiet_step (first | fail | (go_at_call 136; with_reducible exact seg_call hF2 HS.out _) | (go_at_call 136; with_reducible exact seg_call hF2 HT.out _) | (go_at_call 64; with_reducible exact seg_call hF2 HB.out _) | (go_at_call 65; with_reducible exact seg_call hF2 HC.out _)))
 refine wpQuiet_nil ?_
 clear hq hF1 hF2 iα F α
 refine lex_new [.int .u64 0, .string ⟨#[]⟩, .bool false] 10 34 34 rfl rfl (of_decide_eq_true (by kernel_rfl)) (by kernel_rfl) rfl new_int ?_
 simp only [Act.put, zP]
 refine lex_new [.int .u64 0, .string ⟨#[]⟩] 11 32 32 rfl rfl (of_decide_eq_true (by kernel_rfl)) (by kernel_rfl) rfl new_natc ?_
 simp only [Act.put, zP]
 refine lex_put [.int .u64 ((zl u : Nat) : Int), .string (zh u), .bool (zs u)] [.int .u64 0, .string ⟨#[]⟩, .bool false] 10 34 (.tmp 38) rfl (by kernel_rfl) (by simp [toG, upd]) rfl (fun w k h => put_int _ _ _ _ _ _ w k h) ?_
 simp only [Act.put]
 refine lex_put [.int .u64 ((lo r : Nat) : Int), .string (hs r)] [.int .u64 0, .string ⟨#[]⟩] 11 32 (.tmp 39) rfl (by kernel_rfl) (by simp [toG, upd]) rfl (fun w k h => put_natc _ _ _ _ w k h) ?_
 simp only [Act.put]
 refine lexG_nil ?_
 intro κ x4 hS
 replace hL0 := hL0.ghs hS [(11, [.int .u64 ((lo r : Nat) : Int), .string (hs r)]), (10, [.int .u64 ((zl u : Nat) : Int), .string (zh u), .bool (zs u)])] (by simp) (by intro p hp; simp only [List.mem_cons, List.not_mem_nil, or_false] at hp; rcases hp with rfl | rfl <;> exact ⟨_, by simp only [toG, upd]; rfl⟩)
 simp only [List.map_cons, List.map_nil, List.cons_append, List.nil_append] at hL0
 simp only [over_toG, over_nil, Act.put, zP]
 clear hS
 generalize κ 11 = k4_11 at *
 generalize κ 10 = k4_10 at *
 go_upto_region 4 with fail
 obtain ⟨α, iα, F, hF1, hF2⟩ := cls x4
 have hq0 := cls_box hF1 hL0 _ _ mZ
 simp only [zC, Nat.reduceAdd] at hq0
 have hq1 := cls_box hF1 hL0 _ _ (mK mZ)
 simp only [zC, Nat.reduceAdd] at hq1
 have hq2 := cls_box hF1 hL0 _ _ (mK (mK mZ))
 simp only [zC, Nat.reduceAdd] at hq2
 have hq3 := cls_box hF1 hL0 _ _ (mK (mK (mK mZ)))
 simp only [zC, Nat.reduceAdd] at hq3
 refine region_qs 7 (C := fun w' => ∃ x, w' = F x) (by kernel_rfl) (by kernel_rfl) (cls_drew hF2) ?_
 simp only [zT]
 repeat (go_big_quiet_step (first | fail | (go_at_call 69; with_reducible exact cls_call hF1 hF2 HU.out _) | (go_at_call 69; with_reducible exact cls_call hF1 hF2 HV.out _) | (go_at_call 67; with_reducible exact cls_call hF1 hF2 HL.out _)))
 refine wpQuiet_nil ?_
 rintro wq ⟨xq, rfl⟩
 replace hL0 := hL0.call (hF1 xq)
 clear  hq0 hq1 hq2 hq3 hF2
 generalize F xq = x5 at hL0 ⊢
 clear hF1 xq iα F α
 have hA := hL0.fc
 simp only [zF, Nat.reduceAdd] at hA
 obtain ⟨x6, hput1, hP⟩ := GL.named (hL0.put 5 (w.heap.size + 1 + 1) _ rfl [.int .u64 ((zl z : Nat) : Int), .string (zh z), .bool (zs z), .int .u64 ((lo f : Nat) : Int), .string (hs f)] rfl)
 simp only [setAll] at hput1
 simp only [List.set_cons_zero, List.set_cons_succ] at hP
 have hB1 := hP.fc
 simp only [zF, Nat.reduceAdd] at hB1
 replace hL0 := hP
 go_wp2_with fail
 exact bodyPost_ret (v := frV z f) (by simp [results, Tryz.results63, go_sem, hB1]) rfl ⟨rfl, hL0.bl⟩
theorem fadd_w (m n z : Int) (d e f : Nat) (HC : RT 63 #[frV m d, frV n e, .func (.func 64) #[] #[]] (frV z f)) (w : World) :
  Calls Tryz.prog 14 #[frV m d, frV n e] w fun xe w' => xe = .returned (frV z f) ∧ Below w.heap.size w w' := by
 have hL0 : GL w w [] := GL.start w
 replace HC := Lib.hid HC
 obtain ⟨x1, hweq, hL0⟩ := GL.named (((hL0.new rfl [.int .u64 ((zl m : Nat) : Int), .string (zh m), .bool (zs m), .int .u64 ((lo d : Nat) : Int), .string (hs d)] 36).new (K := w.heap.size + 1) (szA _ _) [.int .u64 ((zl n : Nat) : Int), .string (zh n), .bool (zs n), .int .u64 ((lo e : Nat) : Int), .string (hs e)] 36).new (K := w.heap.size + 1 + 1) (by simp only [World.size_alloc]) [.int .u64 0, .string ⟨#[]⟩, .bool false, .int .u64 0, .string ⟨#[]⟩] 36)
 go_enter Tryz.func14, Tryz.ntmps14
 have hN0 := cells_of _ 0 [] rfl (hL0.get _ _ (mK mZ))
 simp only [zF, Nat.reduceAdd] at hN0
 have hN1 := cells_of _ 0 [] rfl (hL0.get _ _ (mK (mK mZ)))
 simp only [zF, Nat.reduceAdd] at hN1
 go_wp2_with fail
 clear hN0 hN1
 with_reducible refine Calls.mono (HC.out _) ?_
 rintro e x2 ⟨rfl, hb⟩
 replace hL0 := hL0.call hb
 clear hb hweq
 have hA := hL0.fc
 simp only [zF, Nat.reduceAdd] at hA
 obtain ⟨x3, hput1, hP⟩ := GL.named (hL0.put 0 (w.heap.size + 1 + 1) _ rfl [.int .u64 ((zl z : Nat) : Int), .string (zh z), .bool (zs z), .int .u64 ((lo f : Nat) : Int), .string (hs f)] rfl)
 simp only [setAll] at hput1
 simp only [List.set_cons_zero, List.set_cons_succ] at hP
 have hB1 := hP.fc
 simp only [zF, Nat.reduceAdd] at hB1
 replace hL0 := hP
 go_wp2_with fail
 exact bodyPost_ret (v := frV z f) (by simp [results, Tryz.results14, go_sem, hB1]) rfl ⟨rfl, hL0.bl⟩
end Go.Proofs.YthffglapmkkohaaGreatDoor
namespace Go.Proofs.YthffglapmkkohaaGreatDoor
open Go.RowKit
attribute [local irreducible] lo hs sm s64 c64 d64 b64 mh ml pd pc qd qc val hiB str cmpI srD lz nb zl zh zs
theorem ffrom_w (n u z : Int) (d v f : Nat) (HO : RT 133 #[.int .u64 0] (natV 0)) (HC : RT 65 #[intV n, natV d] (.tuple #[intV u, natV v])) (HL : RT 67 #[intV u, natV v] (frV z f)) (hd : d ≠ 0) (w : World) :
  Calls Tryz.prog 123 #[intV n, natV d] w fun xe w' => xe = .returned (.tuple #[frV z f, .int .i64 0]) ∧ Below w.heap.size w w' := by
 have hL0 : GL w w [] := GL.start w
 replace HO := Lib.hid HO
 replace HC := Lib.hid HC
 replace HL := Lib.hid HL
 have hz := ne_nat hd
 clear hd
 rcases hz with e0 | ⟨e0, e1⟩
 all_goals (
  obtain ⟨x1, hweq, hL0⟩ := GL.named (((hL0.new rfl [.int .u64 ((zl n : Nat) : Int), .string (zh n), .bool (zs n)] 34).new (K := w.heap.size + 1) (szA _ _) [.int .u64 ((lo d : Nat) : Int), .string (hs d)] 32).new (K := w.heap.size + 1 + 1) (by simp only [World.size_alloc]) [.int .u64 0, .string ⟨#[]⟩, .bool false, .int .u64 0, .string ⟨#[]⟩] 36)
  go_enter Tryz.func123, Tryz.ntmps123
  go_upto_region 1 with fail
  clear hweq
  obtain ⟨α, iα, F, hF1, hF2⟩ := cls x1
  have hq0 := cls_box hF1 hL0 _ _ (mK mZ)
  simp only [zC, Nat.reduceAdd] at hq0
  refine region_qs 3 (C := fun w' => ∃ x, w' = F x) (by kernel_rfl) (by kernel_rfl) (cls_drew hF2) ?_
  simp only [zT]
  repeat (go_big_quiet_step (first | fail | (go_at_call 133; with_reducible exact cls_call hF1 hF2 HO.out _)))
  refine wpQuiet_nil ?_
  rintro wq ⟨xq, rfl⟩
  replace hL0 := hL0.call (hF1 xq)
  clear  hq0 hF2
  generalize F xq = x2 at hL0 ⊢
  clear hF1 xq iα F α
  have hN0 := cells_of _ 0 [] rfl (hL0.get _ _ (mK mZ))
  simp only [zF, Nat.reduceAdd] at hN0
  have hN1 := cells_of _ 0 [] rfl (hL0.get _ _ (mK (mK mZ)))
  simp only [zF, Nat.reduceAdd] at hN1
  go_wp2_with fail
  clear hN0 hN1
  with_reducible refine Calls.mono (HC.out _) ?_
  rintro e x3 ⟨rfl, hb⟩
  replace hL0 := hL0.call hb
  clear hb
  go_wp2_with fail
  with_reducible refine Calls.mono (HL.out _) ?_
  rintro e x4 ⟨rfl, hb⟩
  replace hL0 := hL0.call hb
  clear hb
  have hA := hL0.fc
  simp only [zF, Nat.reduceAdd] at hA
  obtain ⟨x5, hput1, hP⟩ := GL.named (hL0.put 0 (w.heap.size + 1 + 1) _ rfl [.int .u64 ((zl z : Nat) : Int), .string (zh z), .bool (zs z), .int .u64 ((lo f : Nat) : Int), .string (hs f)] rfl)
  simp only [setAll] at hput1
  simp only [List.set_cons_zero, List.set_cons_succ] at hP
  have hB1 := hP.fc
  simp only [zF, Nat.reduceAdd] at hB1
  replace hL0 := hP
  go_wp2_with fail
  exact bodyPost_ret (v := .tuple #[frV z f, .int .i64 0]) (by simp [results, Tryz.results123, go_sem, hB1]) rfl ⟨rfl, hL0.bl⟩)
theorem ftext_whole (n : Int) (s : ByteArray) (HW : RT 141 #[frV n 0] (.bool true)) (HT : RK Tab 162 #[intV n] (.string s)) (w : World) (htab : Tab w) :
  Calls Tryz.prog 127 #[frV n 0] w fun xe w' => xe = .returned (.string s) ∧ Below w.heap.size w w' := by
 have hL0 : GL w w [] := GL.start w
 replace HW := Lib.hid HW
 replace HT := Lib.hid HT
 obtain ⟨x1, hweq, hL0⟩ := GL.named (hL0.new rfl [.int .u64 ((zl n : Nat) : Int), .string (zh n), .bool (zs n), .int .u64 ((lo 0 : Nat) : Int), .string (hs 0)] 36)
 go_enter Tryz.func127, Tryz.ntmps127
 have hN0 := cells_of _ 0 [] rfl (hL0.get _ _ mZ)
 simp only [zF, Nat.reduceAdd] at hN0
 go_wp2_with fail
 clear hN0
 with_reducible refine Calls.mono (HW.out _) ?_
 rintro e x2 ⟨rfl, hb⟩
 replace hL0 := hL0.call hb
 clear hb hweq
 have hN0 := cells_of _ 0 [] rfl (hL0.get _ _ mZ)
 simp only [zF, Nat.reduceAdd] at hN0
 go_wp2_with fail
 clear hN0
 with_reducible refine Calls.mono (HT.out _ (htab.below hL0.bl)) ?_
 rintro e x3 ⟨rfl, hb⟩
 replace hL0 := hL0.call hb
 clear hb
 go_wp2_with fail
 exact bodyPost_ret (v := .string s) (by simp [results, Tryz.results127, go_sem]) rfl ⟨rfl, hL0.bl⟩
theorem ftext_part (n : Int) (e : Nat) (s t : ByteArray) (HW : RT 141 #[frV n e] (.bool false)) (HT : RK Tab 162 #[intV n] (.string s)) (HU : RK Tab 163 #[natV e] (.string t)) (h1 : ((s.size : Nat) : Int) ≤ 20000000) (h2 : ((t.size : Nat) : Int) ≤ 20000000) (w : World) (htab : Tab w) :
  Calls Tryz.prog 127 #[frV n e] w fun xe w' => xe = .returned (.string ((s ++ ByteArray.mk #[47]) ++ t)) ∧ Below w.heap.size w w' := by
 have hL0 : GL w w [] := GL.start w
 replace HW := Lib.hid HW
 replace HT := Lib.hid HT
 replace HU := Lib.hid HU
 obtain ⟨x1, hweq, hL0⟩ := GL.named (hL0.new rfl [.int .u64 ((zl n : Nat) : Int), .string (zh n), .bool (zs n), .int .u64 ((lo e : Nat) : Int), .string (hs e)] 36)
 go_enter Tryz.func127, Tryz.ntmps127
 have hN0 := cells_of _ 0 [] rfl (hL0.get _ _ mZ)
 simp only [zF, Nat.reduceAdd] at hN0
 go_wp2_with fail
 clear hN0
 with_reducible refine Calls.mono (HW.out _) ?_
 rintro e x2 ⟨rfl, hb⟩
 replace hL0 := hL0.call hb
 clear hb hweq
 go_upto_region 3 with fail
 have ht := htab.below hL0.bl
 obtain ⟨α, iα, F, hF1, hF2⟩ := cls x2
 have hq0 := cls_box hF1 hL0 _ _ mZ
 simp only [zC, Nat.reduceAdd] at hq0
 refine region_qs 9 (C := fun w' => ∃ x, w' = F x) (by kernel_rfl) (by kernel_rfl) (cls_drew hF2) ?_
 simp only [zT]
 repeat (go_big_quiet_step (first | fail | (go_at_call 162; with_reducible exact cls_callT hF1 hF2 ht HT.out _) | (go_at_call 163; with_reducible exact cls_callT hF1 hF2 ht HU.out _)))
 refine wpQuiet_nil ?_
 rintro wq ⟨xq, rfl⟩
 replace hL0 := hL0.call (hF1 xq)
 clear  hq0 hF2
 generalize F xq = x3 at hL0 ⊢
 clear hF1 xq iα F α
 clear ht
 go_wp2_with fail
 exact bodyPost_ret (v := .string ((s ++ ByteArray.mk #[47]) ++ t)) (by simp [results, Tryz.results127, go_sem]) rfl ⟨rfl, hL0.bl⟩
end Go.Proofs.YthffglapmkkohaaGreatDoor
namespace Go.Proofs.YthffglapmkkohaaGreatDoor
open Go.RowKit
attribute [local irreducible] lo hs sm s64 c64 d64 b64 mh ml pd pc qd qc val hiB str cmpI srD lz nb zl zh zs
theorem fe_den (q : Rat) : q.den = if fe q = 0 then 1 else fe q := by
 unfold fe
 have := q.den_nz
 split <;> simp_all
theorem frV_z (n : Int) : frV n 0 = .agg #[.int .u64 ((zl n : Nat) : Int), .string (zh n), .bool (zs n), .int .u64 0, .string ⟨#[]⟩] := by unfold frV; rw [lo_small Bs_pos, hs_small Bs_pos]; rfl
theorem fracV_int (z : Int) : fracV (z : Rat) = frV z 0 := rfl
theorem fracV_of {q : Rat} {n : Int} {d : Nat} (hn : q.num = n) (hd : q.den = d) : fracV q = frV n (if d = 1 then 0 else d) := by subst hn hd; rfl
theorem one_o (w : World) : Calls Tryz.prog 133 #[.int .u64 1] w fun e w' => e = .returned (natV 1) ∧ Below w.heap.size w w' := of_val 1 1 rfl (by unfold Bs; omega) w
theorem zero_o (w : World) : Calls Tryz.prog 133 #[.int .u64 0] w fun e w' => e = .returned (natV 0) ∧ Below w.heap.size w w' := of_val 0 0 rfl (by unfold Bs; omega) w
theorem dec_sgn (z : Int) : decide (sgn z < 0) = decide (z < 0) := by
 have : sgn z < 0 ↔ z < 0 := by unfold sgn; split <;> (try split) <;> omega
 simp only [this]
theorem whole_raw (n : Int) (e : Nat) (w : World) : Calls Tryz.prog 141 #[frV n e] w fun x w' => x = .returned (.bool (decide (e = 0))) ∧ Below w.heap.size w w' := by
 by_cases h : e = 0
 ·subst h; rw [decide_eq_true rfl]; exact whole_yes n w
 ·rw [decide_eq_false h]; exact whole_no n e h w
theorem den_raw (n : Int) (e : Nat) (w : World) : Calls Tryz.prog 66 #[frV n e] w fun x w' => x = .returned (natV (if e = 0 then 1 else e)) ∧ Below w.heap.size w w' := by
 by_cases h : e = 0
 ·subst h; rw [if_pos rfl]; exact den_one_w n (whole_yes n) one_o w
 ·rw [if_neg h]; exact den_part_w n e (whole_no n e h) w
theorem denF (q : Rat) (w : World) : Calls Tryz.prog 66 #[fracV q] w fun x w' => x = .returned (natV q.den) ∧ Below w.heap.size w w' := by
 have h := den_raw q.num (fe q) w
 rw [← fe_den] at h
 exact h
theorem lowest_raw (n : Int) (d : Nat) (w : World) : Calls Tryz.prog 67 #[intV n, natV d] w fun x w' => x = .returned (frV n (if d = 1 then 0 else d)) ∧ Below w.heap.size w w' := by
 by_cases h : d = 1
 ·subst h; rw [if_pos rfl, frV_z]; exact lowest_one n one_o w
 ·rw [if_neg h]; exact lowest_part n d one_o h w
theorem lowestF {q : Rat} {n : Int} {d : Nat} (hn : q.num = n) (hd : q.den = d) (w : World) : Calls Tryz.prog 67 #[intV n, natV d] w fun x w' => x = .returned (fracV q) ∧ Below w.heap.size w w' := by
 rw [fracV_of hn hd]; exact lowest_raw n d w
theorem pon_raw (n g : Nat) (hg : g ≠ 0) (hn : (digs n).length ≤ 100000000) (w : World) : Calls Tryz.prog 135 #[natV n, natV g] w fun x w' => x = .returned (natV (n / g)) ∧ Below w.heap.size w w' := by
 by_cases h : g = 1
 ·subst h; rw [Nat.div_one]; exact pon_one n one_o w
 ·exact pon_div n g (n / g) (n % g) one_o (fun w => div_pos n g (by omega) (by omega) w) h w
theorem tdiv_sgn (z : Int) (g : Nat) : z.tdiv (g : Int) = if decide (z < 0) then -((z.natAbs / g : Nat) : Int) else ((z.natAbs / g : Nat) : Int) := by
 by_cases h : z < 0
 ·obtain ⟨n, rfl⟩ : ∃ n : Nat, z = -(n : Int) := ⟨z.natAbs, by omega⟩
  rw [decide_eq_true h, if_pos rfl, Int.natAbs_neg, Int.natAbs_natCast, Int.neg_tdiv, ← Int.ofNat_tdiv]
 ·obtain ⟨n, rfl⟩ : ∃ n : Nat, z = (n : Int) := ⟨z.natAbs, by omega⟩
  rw [decide_eq_false h, Int.natAbs_natCast, ← Int.ofNat_tdiv]; rfl
theorem part_raw (z : Int) (g : Nat) (hg : g ≠ 0) (hz : dI z ≤ 100000000) (w : World) : Calls Tryz.prog 140 #[intV z, natV g] w fun x w' => x = .returned (intV (z.tdiv g)) ∧ Below w.heap.size w w' := by
 have hF := fun w => fromI (decide (z < 0)) (z.natAbs / g) (z.tdiv g) (tdiv_sgn z g) w
 have hs := dec_sgn z
 by_cases h : z < 0
 ·rw [decide_eq_true h] at hF hs
  exact part_true z (sgn z) _ _ g _ (signI z) (absI z) (pon_raw _ g hg hz) hF hs w
 ·rw [decide_eq_false h] at hF hs
  exact part_false z (sgn z) _ _ g _ (signI z) (absI z) (pon_raw _ g hg hz) hF hs w
theorem cancel_raw (z : Int) (d : Nat) (hd : d ≠ 0) (hz : dI z ≤ 100000000) (hl : (digs d).length ≤ 100000000) (w : World) :
  Calls Tryz.prog 65 #[intV z, natV d] w fun x w' => x = .returned (.tuple #[intV (z.tdiv (Nat.gcd z.natAbs d : Nat)), natV (d / Nat.gcd z.natAbs d)]) ∧ Below w.heap.size w w' := by
 have hg : Nat.gcd z.natAbs d ≠ 0 := fun e => hd (Nat.gcd_eq_zero_iff.1 e).2
 exact cancel_w z _ _ d _ _ (absI z) (fun w => gcd_any z.natAbs d (Nat.le_trans hz (by omega)) (by omega) w) (part_raw z _ hg hz) (pon_raw d _ hg hl) w
theorem times_raw (z : Int) (d : Nat) (hz : dI z ≤ 100000000) (hd : (digs d).length ≤ 100000000) (w : World) : Calls Tryz.prog 136 #[intV z, natV d] w fun x w' => x = .returned (intV (z * (d : Int))) ∧ Below w.heap.size w w' := by
 by_cases h : d = 1
 ·subst h; rw [show z * ((1 : Nat) : Int) = z by omega]; exact times_one z one_o w
 ·exact times_mul z (d : Int) _ d one_o (fun w => fromI false d (d : Int) rfl w) (fun w => mulI z (d : Int) (by omega) (by rw [dI_nat]; omega) w) h w
theorem intF (k : Int) (h1 : -9223372036854775808 ≤ k) (h2 : k < 9223372036854775808) (w : World) : Calls Tryz.prog 12 #[.int .i64 k] w fun x w' => x = .returned (fracV (k : Rat)) ∧ Below w.heap.size w w' := by
 rw [fracV_int, frV_z]; exact int_w k k (fun w => ofI k h1 h2 w) w
theorem fromF (z : Int) (d : Nat) (hd : d ≠ 0) (hz : dI z ≤ 100000000) (hl : (digs d).length ≤ 100000000) (w : World) : Calls Tryz.prog 123 #[intV z, natV d] w fun x w' => x = .returned (.tuple #[fracV (mkRat z d), .int .i64 0]) ∧ Below w.heap.size w w' := by
 obtain ⟨h1, h2⟩ := canc (z := z) hd
 exact ffrom_w z _ _ d _ _ zero_o (cancel_raw z d hd hz hl) (fun w => lowestF h1 h2 w) hd w
end Go.Proofs.YthffglapmkkohaaGreatDoor
namespace Go.Proofs.YthffglapmkkohaaGreatDoor
open Go.RowKit
attribute [local irreducible] lo hs sm s64 c64 d64 b64 mh ml pd pc qd qc val hiB str cmpI srD lz nb zl zh zs
/-- The absolute value. -/
def absQ (q : Rat) : Rat := if q < 0 then -q else q
theorem num_neg_iff (q : Rat) : q.num < 0 ↔ q < 0 := by rw [← Rat.not_le, ← Rat.num_nonneg]; omega
theorem absQ_num (q : Rat) : (absQ q).num = (q.num.natAbs : Int) ∧ fe (absQ q) = fe q := by
 unfold absQ
 have := num_neg_iff q
 split
 ·rename_i h
  have h1 := this.2 h
  exact ⟨by rw [Rat.neg_num]; omega, rfl⟩
 ·rename_i h
  have h1 := mt this.1 h
  exact ⟨by omega, rfl⟩
theorem absF (q : Rat) (w : World) : Calls Tryz.prog 131 #[fracV q] w fun x w' => x = .returned (fracV (absQ q)) ∧ Below w.heap.size w w' := by
 rw [show fracV (absQ q) = frV (absQ q).num (fe (absQ q)) from rfl, (absQ_num q).1, (absQ_num q).2]
 exact fabs_w q.num (q.num.natAbs : Int) _ (fe q) (fun w => absI q.num w) (fun w => fromI false _ _ rfl w) w
theorem cmpF (p q : Rat) (k : Nat) (hp : Sz p k) (hq : Sz q k) (hk : k ≤ 100000000) (w : World) : Calls Tryz.prog 190 #[fracV p, fracV q] w fun x w' => x = .returned (.int .i64 (cmpQ p q)) ∧ Below w.heap.size w w' := by
 rw [cmpQ_parts]
 exact fcmp_w p.num q.num _ _ _ (fe p) (fe q) p.den q.den (denF p) (denF q) (times_raw p.num q.den (Nat.le_trans hp.1 hk) (Nat.le_trans hq.2 hk)) (times_raw q.num p.den (Nat.le_trans hq.1 hk) (Nat.le_trans hp.2 hk)) (fun w => cmpII _ _ w) w
theorem tdiv_dI {z : Int} {g k : Nat} (h : dI z ≤ k) : dI (z.tdiv (g : Int)) ≤ k := by
 refine Nat.le_trans (dI_mono ?_) h
 rw [Int.natAbs_tdiv]; exact Nat.div_le_self _ _
theorem ndiv_digs {n g k : Nat} (h : (digs n).length ≤ k) : (digs (n / g)).length ≤ k := Nat.le_trans (digs_mono (Nat.div_le_self _ _)) h
theorem mulF (p q : Rat) (k : Nat) (hp : Sz p k) (hq : Sz q k) (hk : k ≤ 100000000) (w : World) : Calls Tryz.prog 15 #[fracV p, fracV q] w fun x w' => x = .returned (fracV (p * q)) ∧ Below w.heap.size w w' := by
 obtain ⟨h1, h2⟩ := rmul_parts p q
 rw [Nat.mul_comm] at h2
 exact fmul_w p.num q.num _ _ _ _ (fe p) (fe q) p.den q.den _ _ _ _ (denF p) (denF q) (cancel_raw p.num q.den q.den_nz (Nat.le_trans hp.1 hk) (Nat.le_trans hq.2 hk)) (cancel_raw q.num p.den p.den_nz (Nat.le_trans hq.1 hk) (Nat.le_trans hp.2 hk))
  (fun w => mulI _ _ (Nat.le_trans (tdiv_dI hp.1) (by omega)) (Nat.le_trans (tdiv_dI hq.1) (by omega)) w) (fun w => mul_any _ _ (Nat.le_trans (ndiv_digs hp.2) (by omega)) (Nat.le_trans (ndiv_digs hq.2) (by omega)) w) (fun w => lowestF h1 h2 w) w
theorem frV_00 : frV 0 0 = .agg #[.int .u64 0, .string ⟨#[]⟩, .bool false, .int .u64 0, .string ⟨#[]⟩] := by
 rw [frV_z, (z0).1, (z0).2.1, (z0).2.2]; rfl
theorem addF (p q : Rat) (k : Nat) (hp : Sz p k) (hq : Sz q k) (hk : k ≤ 10000000) (w : World) : Calls Tryz.prog 14 #[fracV p, fracV q] w fun x w' => x = .returned (fracV (p + q)) ∧ Below w.heap.size w w' := by
 obtain ⟨h1, h2⟩ := radd_parts p q
 have hg : Nat.gcd p.den q.den ≠ 0 := fun e => p.den_nz (Nat.gcd_eq_zero_iff.1 e).1
 have l1 : (digs (p.den / Nat.gcd p.den q.den)).length ≤ k := ndiv_digs hp.2
 have l2 : (digs (q.den / Nat.gcd p.den q.den)).length ≤ k := ndiv_digs hq.2
 have l3 : (digs (Nat.gcd p.den q.den)).length ≤ k := Nat.le_trans (digs_mono (Nat.gcd_le_left _ p.den_pos)) hp.2
 have lx : dI (p.num * ((q.den / Nat.gcd p.den q.den : Nat) : Int)) ≤ k + k := dI_mul hp.1 (by rw [dI_nat]; exact l2)
 have ly : dI (q.num * ((p.den / Nat.gcd p.den q.den : Nat) : Int)) ≤ k + k := dI_mul hq.1 (by rw [dI_nat]; exact l1)
 have ls := dI_add lx ly
 refine fadd_w p.num q.num _ (fe p) (fe q) _ ?_ w
 exact fcombine_add p.num q.num _ _ _ _ _ (fe p) (fe q) p.den q.den _ _ _ _ _ _ _ (denF p) (denF q) (fun w => gcd_any _ _ (Nat.le_trans hp.2 (by omega)) (Nat.le_trans hq.2 (by omega)) w)
  (pon_raw _ _ hg (Nat.le_trans hp.2 (by omega))) (pon_raw _ _ hg (Nat.le_trans hq.2 (by omega))) (times_raw _ _ (Nat.le_trans hp.1 (by omega)) (by omega)) (times_raw _ _ (Nat.le_trans hq.1 (by omega)) (by omega))
  (fun w => addI _ _ (by omega) (by omega) w) (cancel_raw _ _ hg (by omega) (by omega)) (fun w => mul_any _ _ (by omega) (by omega) w)
  (fun w => mul_any _ _ (Nat.le_trans (digs_mul_le l1 l2) (by omega)) (Nat.le_trans (ndiv_digs l3) (by omega)) w) (fun w => lowestF h1 h2 w)
theorem of_val_q (n d : Int) (h0 : d ≠ 0) : mkRat (if d < 0 then -n else n) d.natAbs = (n : Rat) / (d : Rat) := by
 rw [Rat.mkRat_eq_div]
 by_cases h : d < 0
 ·rw [if_pos h]
  have e : ((d.natAbs : Nat) : Rat) = -(d : Rat) := by
   rw [show ((d.natAbs : Nat) : Rat) = (((d.natAbs : Nat) : Int) : Rat) from (Rat.intCast_natCast _).symm, show ((d.natAbs : Nat) : Int) = -d by omega, Rat.intCast_neg]
  rw [e, Rat.intCast_neg]
  have hd : (d : Rat) ≠ 0 := by simpa using h0
  grind
 ·rw [if_neg h, show ((d.natAbs : Nat) : Rat) = (((d.natAbs : Nat) : Int) : Rat) from (Rat.intCast_natCast _).symm, show ((d.natAbs : Nat) : Int) = d by omega]
theorem i64_dI {z : Int} (h1 : -9223372036854775808 ≤ z) (h2 : z < 9223372036854775808) : dI z ≤ 1 := digs_length_iff.2 (by unfold Bs; omega)
theorem ofF (n d : Int) (a1 : -9223372036854775808 ≤ n) (a2 : n < 9223372036854775808) (b1 : -9223372036854775808 ≤ d) (b2 : d < 9223372036854775808) (h0 : d ≠ 0) (w : World) :
  Calls Tryz.prog 57 #[.int .i64 n, .int .i64 d] w fun x w' => x = .returned (.tuple #[fracV ((n : Rat) / (d : Rat)), .int .i64 0]) ∧ Below w.heap.size w w' := by
 rw [← of_val_q n d h0]
 have hs := dec_sgn d
 have ln := i64_dI a1 a2
 have ld : (digs d.natAbs).length ≤ 1 := i64_dI b1 b2
 by_cases h : d < 0
 ·rw [decide_eq_true h] at hs
  rw [if_pos h]
  exact fof_true n d (sgn d) (-n) _ n d _ _ 0 (fun w => ofI n a1 a2 w) (fun w => ofI d b1 b2 w) (signI d) (fun w => negI n w) (absI d) (fromF (-n) d.natAbs (by omega) (by rw [dI_neg]; omega) (by omega)) hs w
 ·rw [decide_eq_false h] at hs
  rw [if_neg h]
  exact fof_false n d (sgn d) n _ n d _ _ 0 (fun w => ofI n a1 a2 w) (fun w => ofI d b1 b2 w) (signI d) (absI d) (fromF n d.natAbs (by omega) (by omega) (by omega)) hs w
end Go.Proofs.YthffglapmkkohaaGreatDoor
namespace Go.Proofs.YthffglapmkkohaaGreatDoor
open Go.RowKit
attribute [local irreducible] lo hs sm s64 c64 d64 b64 mh ml pd pc qd qc val hiB str cmpI srD lz nb zl zh zs fe
/-- A slice's fractions. -/
structure FS (w : World) (g : Nat) (qs : List Rat) : Prop where
 cell : ∀ i (h : i < qs.length), w.cell? ⟨g, i * 5, none⟩ = some (.int .u64 ((zl qs[i].num : Nat) : Int)) ∧ w.cell? ⟨g, i * 5 + 1, none⟩ = some (.string (zh qs[i].num)) ∧ w.cell? ⟨g, i * 5 + 2, none⟩ = some (.bool (zs qs[i].num)) ∧
  w.cell? ⟨g, i * 5 + 3, none⟩ = some (.int .u64 ((lo (fe qs[i]) : Nat) : Int)) ∧ w.cell? ⟨g, i * 5 + 4, none⟩ = some (.string (hs (fe qs[i])))
 lt : g < w.heap.size
theorem FS.below {w w' : World} {g : Nat} {qs : List Rat} (h : FS w g qs) (hb : Below w.heap.size w w') : FS w' g qs := by
 have hs := hb.size
 have hl := h.lt
 refine ⟨fun i hi => ?_, by omega⟩
 obtain ⟨h0, h1, h2, h3, h4⟩ := h.cell i hi
 exact ⟨(hb.cell (p := ⟨g, i * 5, none⟩) hl).trans h0, (hb.cell (p := ⟨g, i * 5 + 1, none⟩) hl).trans h1, (hb.cell (p := ⟨g, i * 5 + 2, none⟩) hl).trans h2, (hb.cell (p := ⟨g, i * 5 + 3, none⟩) hl).trans h3, (hb.cell (p := ⟨g, i * 5 + 4, none⟩) hl).trans h4⟩
def SlQ (w : World) (v : Value) (qs : List Rat) : Prop := (∃ ao c, v = .slice ao 0 c ∧ qs = []) ∨ ∃ g c, v = .slice (some ⟨g, 0, none⟩) qs.length c ∧ FS w g qs
theorem SlQ.below {w w' : World} {v : Value} {qs : List Rat} (h : SlQ w v qs) (hb : Below w.heap.size w w') : SlQ w' v qs := by
 rcases h with h | ⟨g, c, h1, h2⟩
 ·exact .inl h
 ·exact .inr ⟨g, c, h1, h2.below hb⟩
theorem SlQ.keeps (v : Value) (qs : List Rat) : Keeps (fun w => SlQ w v qs) := fun _ _ hb h => h.below hb
/-- The choice of the first that no other is better than. -/
def amg (r : Rat → Rat → Bool) : List Rat → Rat
 | [] => 0
 | q :: l => l.foldl (fun b a => if r a b then a else b) q
theorem amg_snoc (r : Rat → Rat → Bool) (l : List Rat) (a : Rat) (h : l ≠ []) : amg r (l ++ [a]) = if r a (amg r l) then a else amg r l := by
 cases l with
 | nil => exact absurd rfl h
 | cons q l => simp only [amg, List.cons_append, List.foldl_append, List.foldl_cons, List.foldl_nil]; rfl
theorem amg_mem (r : Rat → Rat → Bool) : ∀ (l : List Rat), l ≠ [] → amg r l ∈ l := by
 intro l
 refine snoc_ind (p := fun l => l ≠ [] → amg r l ∈ l) l (fun h => absurd rfl h) fun m a ih _ => ?_
 by_cases hm : m = []
 ·subst hm; simp [amg]
 ·rw [amg_snoc r m a hm]
  split
  ·simp
  ·exact List.mem_append_left _ (ih hm)
theorem fe_zero : fe 0 = 0 := fe_one rfl
def gtQ (p q : Rat) : Bool := decide (q < p)
theorem cmpQ_gt (p q : Rat) : decide (0 < cmpQ p q) = gtQ p q := by
 unfold cmpQ gtQ
 by_cases h : p < q
 ·rw [if_pos h, decide_eq_false (p := q < p) (by grind)]; rfl
 ·rw [if_neg h]
  by_cases h' : p = q
  ·rw [if_pos h', decide_eq_false (p := q < p) (by grind)]; rfl
  ·rw [if_neg h', decide_eq_true (p := q < p) (by grind)]; rfl
theorem gtr_true (m n c : Int) (d e : Nat) (HC : RT 190 #[frV m d, frV n e] (.int .i64 c)) (hc : decide (0 < c) = true) (w : World) :
  Calls Tryz.prog 167 #[frV m d, frV n e] w fun xe w' => xe = .returned (.bool true) ∧ Below w.heap.size w w' := by
 have hL0 : GL w w [] := GL.start w
 replace HC := Lib.hid HC
 obtain ⟨x1, hweq, hL0⟩ := GL.named ((hL0.new rfl [.int .u64 ((zl m : Nat) : Int), .string (zh m), .bool (zs m), .int .u64 ((lo d : Nat) : Int), .string (hs d)] 36).new (K := w.heap.size + 1) (szA _ _) [.int .u64 ((zl n : Nat) : Int), .string (zh n), .bool (zs n), .int .u64 ((lo e : Nat) : Int), .string (hs e)] 36)
 go_enter Tryz.func167, Tryz.ntmps167
 have hN0 := cells_of _ 0 [] rfl (hL0.get _ _ mZ)
 simp only [zF, Nat.reduceAdd] at hN0
 have hN1 := cells_of _ 0 [] rfl (hL0.get _ _ (mK mZ))
 simp only [zF, Nat.reduceAdd] at hN1
 go_wp2_with fail
 clear hN0 hN1
 with_reducible refine Calls.mono (HC.out _) ?_
 rintro e x2 ⟨rfl, hb⟩
 replace hL0 := hL0.call hb
 clear hb hweq
 go_wp2_with fail
 exact bodyPost_ret (v := .bool true) (by simp [results, Tryz.results167, go_sem]) rfl ⟨rfl, hL0.bl⟩
theorem gtr_false (m n c : Int) (d e : Nat) (HC : RT 190 #[frV m d, frV n e] (.int .i64 c)) (hc : decide (0 < c) = false) (w : World) :
  Calls Tryz.prog 167 #[frV m d, frV n e] w fun xe w' => xe = .returned (.bool false) ∧ Below w.heap.size w w' := by
 have hL0 : GL w w [] := GL.start w
 replace HC := Lib.hid HC
 obtain ⟨x1, hweq, hL0⟩ := GL.named ((hL0.new rfl [.int .u64 ((zl m : Nat) : Int), .string (zh m), .bool (zs m), .int .u64 ((lo d : Nat) : Int), .string (hs d)] 36).new (K := w.heap.size + 1) (szA _ _) [.int .u64 ((zl n : Nat) : Int), .string (zh n), .bool (zs n), .int .u64 ((lo e : Nat) : Int), .string (hs e)] 36)
 go_enter Tryz.func167, Tryz.ntmps167
 have hN0 := cells_of _ 0 [] rfl (hL0.get _ _ mZ)
 simp only [zF, Nat.reduceAdd] at hN0
 have hN1 := cells_of _ 0 [] rfl (hL0.get _ _ (mK mZ))
 simp only [zF, Nat.reduceAdd] at hN1
 go_wp2_with fail
 clear hN0 hN1
 with_reducible refine Calls.mono (HC.out _) ?_
 rintro e x2 ⟨rfl, hb⟩
 replace hL0 := hL0.call hb
 clear hb hweq
 go_wp2_with fail
 exact bodyPost_ret (v := .bool false) (by simp [results, Tryz.results167, go_sem]) rfl ⟨rfl, hL0.bl⟩
theorem among_max (ao : Option Addr) (n c : Nat) (qs : List Rat) (HB : ∀ p q, p ∈ qs → q ∈ qs → RT 167 #[fracV p, fracV q] (.bool (gtQ p q))) (w : World) (hq : SlQ w (.slice ao n c) qs) (hn : (0 < n → ∃ g, ao = some ⟨g, 0, none⟩ ∧ FS w g qs) ∧ qs.length = n ∧ n ≤ 1000000) :
  Calls Tryz.prog 168 #[.agg #[.func (.func 167) #[] #[]], .slice ao n c] w fun xe w' => xe = .returned (fracV (amg gtQ qs)) ∧ Below w.heap.size w w' := by
 have hL0 : GL w w [] := GL.start w
 have HB := Lib.hid HB
 have hle := hn.2
 have hcell := Lib.hid hn.1
 clear hn
 obtain ⟨x1, hweq, hL0⟩ := GL.named (((hL0.new rfl [.func (.func 167) #[] #[]] 197).new (K := w.heap.size + 1) (szA _ _) [.int .u64 0, .string ⟨#[]⟩, .bool false, .int .u64 0, .string ⟨#[]⟩] 36).new (K := w.heap.size + 1 + 1) (by simp only [World.size_alloc]) [.int .u64 0, .string ⟨#[]⟩, .bool false, .int .u64 0, .string ⟨#[]⟩] 36)
 have hsl := Lib.hid (SlQ.below hq hL0.bl)
 clear hq
 go_enter Tryz.func168, Tryz.ntmps168
 have hA := hL0.fc
 simp only [zF, Nat.reduceAdd] at hA
 go_wp2_with fail
 clear hA
 go_loopw [10] (fun z wr => ∃ i : Nat, i ≤ n ∧ z = .int .i64 (i : Int) ∧ ∃ q : Rat, q = amg gtQ (qs.take i) ∧ GL w wr [(w.heap.size + 1 + 1, [.int .u64 ((zl q.num : Nat) : Int), .string (zh q.num), .bool (zs q.num), .int .u64 ((lo (fe q) : Nat) : Int), .string (hs (fe q))]), (w.heap.size + 1, [.int .u64 0, .string ⟨#[]⟩, .bool false, .int .u64 0, .string ⟨#[]⟩]), (w.heap.size, [.func (.func 167) #[] #[]])]) (fun z _ => n - (intOf z).toNat)
 case atStart => exact ⟨0, Nat.zero_le _, rfl, 0, rfl, by rw [fe_zero, (show (0 : Rat).num = 0 from rfl), (z0).1, (z0).2.1, (z0).2.2, lo_small Bs_pos, hs_small Bs_pos]; exact hL0⟩
 case round =>
  clear hL0 hweq
  obtain ⟨i, hi, rfl, q, hq, hL0⟩ := hrel
  rcases Nat.lt_or_ge i n with hin | hin
  ·obtain ⟨g, rfl, hfs⟩ := hcell.out (by omega)
   have hf := (hfs.below hL0.bl).cell i (by omega)
   have k2 : decide ((i : Int) < (n : Int)) = true := decide_eq_true (by omega)
   have k1 : (i : Int) < (n : Int) := by omega
   have hlen : qs.length = n := by omega
   obtain ⟨a, ha⟩ : ∃ a, a = qs[i]'(by omega) := ⟨_, rfl⟩
   rw [← ha] at hf
   have hmem : a ∈ qs := by rw [ha]; exact List.getElem_mem _
   have htk : qs.take (i + 1) = qs.take i ++ [a] := by rw [List.take_succ_eq_append_getElem (by omega), ha]
   clear ha
   obtain ⟨f0, f1, f2, f3, f4⟩ := hf
   by_cases hi0 : i = 0
   ·subst hi0
    have ek : (((0 : Nat) : Int) == 0) = true := rfl
    have kn : 0 < n := by omega
    have kd : decide (0 < n) = true := decide_eq_true kn
    simp only [Nat.zero_mul, Nat.zero_add] at f0 f1 f2 f3 f4
    replace htk := Lib.hid htk
    replace hq := Lib.hid hq
    replace hlen := Lib.hid hlen
    clear k1 hin hi
    obtain ⟨x2, hweq, hL0⟩ := GL.named (hL0.new rfl [.int .u64 ((zl a.num : Nat) : Int), .string (zh a.num), .bool (zs a.num), .int .u64 ((lo (fe a) : Nat) : Int), .string (hs (fe a))] 36)
    have hA := hL0.fc
    simp only [zF, Nat.reduceAdd] at hA
    obtain ⟨x3, hput1, hP⟩ := GL.named (hL0.put 1 (w.heap.size + 1 + 1) _ rfl [.int .u64 ((zl a.num : Nat) : Int), .string (zh a.num), .bool (zs a.num), .int .u64 ((lo (fe a) : Nat) : Int), .string (hs (fe a))] rfl)
    simp only [setAll] at hput1
    simp only [List.set_cons_zero, List.set_cons_succ] at hP
    have hB1 := hP.fc
    simp only [zF, Nat.reduceAdd] at hB1
    replace hL0 := hP
    go_wp2_with fail
    go_roundw
    case rel => exact ⟨0 + 1, by omega, by first | rfl | go_num, a, by rw [htk.out]; rfl, hL0.weak (List.Sublist.cons _ (List.Sublist.refl _))⟩
    case measure => simp [intOf]; omega
   ·have ek : ((i : Int) == 0) = false := beq_eq_false_iff_ne.2 (by omega)
    have hne : qs.take i ≠ [] := fun e => by have := congrArg List.length e; rw [List.length_take, List.length_nil] at this; omega
    have hsn := Lib.hid (amg_snoc gtQ (qs.take i) a hne)
    clear hne
    have hqm : q = 0 ∨ q ∈ qs := .inr (by rw [hq]; exact List.mem_of_mem_take (amg_mem gtQ (qs.take i) (fun e => by have := congrArg List.length e; rw [List.length_take, List.length_nil] at this; omega)))
    have hqm2 : q ∈ qs := by rw [hq]; exact List.mem_of_mem_take (amg_mem gtQ (qs.take i) (fun e => by have := congrArg List.length e; rw [List.length_take, List.length_nil] at this; omega))
    clear hqm
    have HB1 := Lib.hid (HB.out a q hmem hqm2)
    clear hmem hqm2
    replace htk := Lib.hid htk
    replace hq := Lib.hid hq
    replace hlen := Lib.hid hlen
    obtain ⟨d, hd⟩ : ∃ d, d = gtQ a q := ⟨_, rfl⟩
    rw [← hd] at HB1
    replace hd := Lib.hid hd
    have k3 := Lib.hid hi
    have k4 := Lib.hid hin
    obtain ⟨x4, hweq, hL0⟩ := GL.named (hL0.new rfl [.int .u64 ((zl a.num : Nat) : Int), .string (zh a.num), .bool (zs a.num), .int .u64 ((lo (fe a) : Nat) : Int), .string (hs (fe a))] 36)
    have hA := hL0.fc
    simp only [zF, Nat.reduceAdd] at hA
    go_wp2_with fail
    clear hA
    with_reducible refine Calls.mono (HB1.out _) ?_
    rintro e x5 ⟨rfl, hb⟩
    replace hL0 := hL0.call hb
    clear hb hweq
    cases d with
    | true =>
     have hA := hL0.fc
     simp only [zF, Nat.reduceAdd] at hA
     obtain ⟨x6, hput2, hP⟩ := GL.named (hL0.put 1 (w.heap.size + 1 + 1) _ rfl [.int .u64 ((zl a.num : Nat) : Int), .string (zh a.num), .bool (zs a.num), .int .u64 ((lo (fe a) : Nat) : Int), .string (hs (fe a))] rfl)
     simp only [setAll] at hput2
     simp only [List.set_cons_zero, List.set_cons_succ] at hP
     have hB2 := hP.fc
     simp only [zF, Nat.reduceAdd] at hB2
     replace hL0 := hP
     go_wp2_with fail
     go_roundw
     case rel => exact ⟨i + 1, by omega, by first | rfl | go_num, a, by rw [htk.out, hsn.out, ← hq.out, if_pos hd.out.symm], hL0.weak (List.Sublist.cons _ (List.Sublist.refl _))⟩
     case measure => simp [intOf]; omega
    | false =>
     have hA := hL0.fc
     simp only [zF, Nat.reduceAdd] at hA
     go_wp2_with fail
     go_roundw
     case rel => exact ⟨i + 1, by omega, by first | rfl | go_num, q, by rw [htk.out, hsn.out, ← hq.out, if_neg (by rw [← hd.out]; exact Bool.false_ne_true)], hL0.weak (List.Sublist.cons _ (List.Sublist.refl _))⟩
     case measure => simp [intOf]; omega
  ·obtain rfl : i = n := by omega
   have k2 : decide ((i : Int) < (i : Int)) = false := decide_eq_false (by omega)
   have hqq : q = amg gtQ qs := by rw [hq, List.take_of_length_le (by omega)]
   clear hq
   replace hqq := Lib.hid hqq
   replace hle := Lib.hid hle
   have hA := hL0.fc
   simp only [zF, Nat.reduceAdd] at hA
   obtain ⟨x6, hput3, hP⟩ := GL.named (hL0.put 1 (w.heap.size + 1) _ rfl [.int .u64 ((zl q.num : Nat) : Int), .string (zh q.num), .bool (zs q.num), .int .u64 ((lo (fe q) : Nat) : Int), .string (hs (fe q))] rfl)
   simp only [setAll] at hput3
   simp only [List.set_cons_zero, List.set_cons_succ] at hP
   have hB3 := hP.fc
   simp only [zF, Nat.reduceAdd] at hB3
   replace hL0 := hP
   go_wp2_with fail
   exact bodyPost_ret (v := fracV q) (by simp [results, Tryz.results168, go_sem, hB3]) rfl ⟨by rw [hqq.out], hL0.bl⟩
end Go.Proofs.YthffglapmkkohaaGreatDoor
namespace Go.Proofs.YthffglapmkkohaaGreatDoor
open Go.RowKit
attribute [local irreducible] lo hs sm s64 c64 d64 b64 mh ml pd pc qd qc val hiB str cmpI srD lz nb zl zh zs fe
theorem GL.join {w x y : World} {L M : List (Nat × List Value)} (h : GL w x L) (g : GL x y M) : GL w y (M ++ L) := by
 have h2 := h.call g.bl
 refine ⟨h2.bl, fun p hp => ?_, ?_⟩
 ·rcases List.mem_append.1 hp with hp | hp
  ·exact ⟨Nat.le_trans h.bl.size (g.all p hp).1, (g.all p hp).2⟩
  ·exact h2.all p hp
 ·rw [List.map_append, List.nodup_append]
  refine ⟨g.nd, h.nd, fun a ha b hb => ?_⟩
  obtain ⟨p, hp, rfl⟩ := List.mem_map.1 ha
  obtain ⟨q, hq, rfl⟩ := List.mem_map.1 hb
  have h3 := (g.all p hp).1
  have h4 := (h.all q hq).2.lt
  omega
theorem zero_cells : ([.int .u64 ((zl ((0 : Rat)).num : Nat) : Int), .string (zh ((0 : Rat)).num), .bool (zs ((0 : Rat)).num), .int .u64 ((lo (fe (0 : Rat)) : Nat) : Int), .string (hs (fe (0 : Rat)))] : List Value) = ([.int .u64 0, .string ⟨#[]⟩, .bool false, .int .u64 0, .string ⟨#[]⟩] : List Value) := by
 rw [fe_zero, (show (0 : Rat).num = 0 from rfl), (z0).1, (z0).2.1, (z0).2.2, lo_small Bs_pos, hs_small Bs_pos]; rfl
/-- The sum, from the left. -/
def qsum (l : List Rat) : Rat := l.foldl (· + ·) 0
theorem qsum_snoc (l : List Rat) (a : Rat) : qsum (l ++ [a]) = qsum l + a := by unfold qsum; rw [List.foldl_append]; rfl
theorem qsum_sz {k : Nat} : ∀ (l : List Rat) (m : Nat) (s : Rat), Sz s m → (∀ q ∈ l, Sz q k) → Sz (l.foldl (· + ·) s) (m + l.length * (k + 1)) := by
 intro l
 induction l with
 | nil => intro m s hs _; simpa using hs
 | cons a l ih =>
  intro m s hs hl
  have h := ih (m + k + 1) (s + a) (hs.add (hl a (by simp))) (fun q hq => hl q (by simp [hq]))
  rw [List.foldl_cons, List.length_cons, Nat.succ_mul]
  exact h.mono (by omega)
theorem total_add (w0 : World) (t : Nat) (q a r : Rat) (HA : RT 14 #[fracV q, fracV a] (fracV r)) (w : World) (hL0 : GL w0 w [(t, [.int .u64 ((zl q.num : Nat) : Int), .string (zh q.num), .bool (zs q.num), .int .u64 ((lo (fe q) : Nat) : Int), .string (hs (fe q))])]) :
  Calls Tryz.prog 149 #[.pointer (some ⟨t, 0, none⟩), fracV a] w fun xe w' => xe = .returned (.tuple #[]) ∧ GL w0 w' [(t, [.int .u64 ((zl r.num : Nat) : Int), .string (zh r.num), .bool (zs r.num), .int .u64 ((lo (fe r) : Nat) : Int), .string (hs (fe r))])] := by
 replace HA := Lib.hid HA
 obtain ⟨x1, hweq, hL0⟩ := GL.named (hL0.new rfl [.int .u64 ((zl a.num : Nat) : Int), .string (zh a.num), .bool (zs a.num), .int .u64 ((lo (fe a) : Nat) : Int), .string (hs (fe a))] 36)
 go_enter Tryz.func149, Tryz.ntmps149
 go_upto_region 1 with fail
 clear hweq
 obtain ⟨α, iα, F, hF1, hF2⟩ := cls x1
 have hq0 := cls_box hF1 hL0 _ _ mZ
 simp only [zC, Nat.reduceAdd] at hq0
 have hq1 := cls_box hF1 hL0 _ _ (mK mZ)
 simp only [zC, Nat.reduceAdd] at hq1
 refine region_qs 9 (C := fun w' => ∃ x, w' = F x) (by kernel_rfl) (by kernel_rfl) (cls_drew hF2) ?_
 simp only [zT]
 repeat (go_big_quiet_step (first | fail | (go_at_call 14; with_reducible exact cls_call hF1 hF2 HA.out _)))
 refine wpQuiet_nil ?_
 rintro wq ⟨xq, rfl⟩
 replace hL0 := hL0.call (hF1 xq)
 clear  hq0 hq1 hF2
 generalize F xq = x2 at hL0 ⊢
 clear hF1 xq iα F α
 have hA := hL0.fc
 simp only [zF, Nat.reduceAdd] at hA
 obtain ⟨x3, hput1, hP⟩ := GL.named (hL0.put 1 (t) _ rfl [.int .u64 ((zl r.num : Nat) : Int), .string (zh r.num), .bool (zs r.num), .int .u64 ((lo (fe r) : Nat) : Int), .string (hs (fe r))] rfl)
 simp only [setAll] at hput1
 simp only [List.set_cons_zero, List.set_cons_succ] at hP
 have hB1 := hP.fc
 simp only [zF, Nat.reduceAdd] at hB1
 replace hL0 := hP
 go_wp2_with fail
 go_end0
 exact ⟨rfl, hL0.weak (List.Sublist.cons _ (List.Sublist.refl _))⟩
theorem each_add (w0 : World) (t : Nat) (ao : Option Addr) (n c : Nat) (qs : List Rat) (q : Rat) (hq0 : q = 0) (hn : (0 < n → ∃ g, ao = some ⟨g, 0, none⟩ ∧ FS w0 g qs) ∧ qs.length = n ∧ n ≤ 1000000)
  (HA : ∀ (q a : Rat) (i : Nat), a ∈ qs → q = qsum (qs.take i) → ∀ w, GL w0 w [(t, [.int .u64 ((zl q.num : Nat) : Int), .string (zh q.num), .bool (zs q.num), .int .u64 ((lo (fe q) : Nat) : Int), .string (hs (fe q))])] → Calls Tryz.prog 149 #[.pointer (some ⟨t, 0, none⟩), fracV a] w fun xe w' => xe = .returned (.tuple #[]) ∧ GL w0 w' [(t, [.int .u64 ((zl (q + a).num : Nat) : Int), .string (zh (q + a).num), .bool (zs (q + a).num), .int .u64 ((lo (fe (q + a)) : Nat) : Int), .string (hs (fe (q + a)))])])
  (w : World) (hL0 : GL w0 w [(t, [.int .u64 ((zl q.num : Nat) : Int), .string (zh q.num), .bool (zs q.num), .int .u64 ((lo (fe q) : Nat) : Int), .string (hs (fe q))])]) :
  Calls Tryz.prog 148 #[.slice ao n c, .func (.func 149) #[.pointer (some ⟨t, 0, none⟩)] #[]] w fun xe w' => xe = .returned (.tuple #[]) ∧ GL w0 w' [(t, [.int .u64 ((zl (qsum qs).num : Nat) : Int), .string (zh (qsum qs).num), .bool (zs (qsum qs).num), .int .u64 ((lo (fe (qsum qs)) : Nat) : Int), .string (hs (fe (qsum qs)))])] := by
 replace HA := Lib.hid HA
 have hle := hn.2.2
 have hcell := Lib.hid hn.1
 have hlen := hn.2.1
 clear hn
 go_enter Tryz.func148, Tryz.ntmps148
 have hA := hL0.fc
 simp only [zF, Nat.reduceAdd] at hA
 go_wp2_with fail
 clear hA
 go_loopw [8] (fun z wr => ∃ (i : Nat) (zi : Int) (q : Rat), i ≤ n ∧ z = .int .i64 zi ∧ zi = (i : Int) ∧ q = qsum (qs.take i) ∧ GL w0 wr [(t, [.int .u64 ((zl q.num : Nat) : Int), .string (zh q.num), .bool (zs q.num), .int .u64 ((lo (fe q) : Nat) : Int), .string (hs (fe q))])]) (fun z _ => n - (intOf z).toNat)
 case atStart => exact ⟨0, _, _, Nat.zero_le _, rfl, rfl, by rw [hq0]; rfl, hL0⟩
 case round =>
  clear hL0 hq0 q
  obtain ⟨i, zi, q, hi, rfl, hzi, hq, hL0⟩ := hrel
  rcases Nat.lt_or_ge i n with hin | hin
  ·obtain ⟨g, rfl, hfs⟩ := hcell.out (by omega)
   subst hzi
   have hf := (hfs.below hL0.bl).cell i (by omega)
   have k1 : (i : Int) < (n : Int) := by omega
   have k0 : (0 : Int) ≤ (i : Int) := Int.natCast_nonneg _
   obtain ⟨a, ha⟩ : ∃ a, a = qs[i]'(by omega) := ⟨_, rfl⟩
   rw [← ha] at hf
   have hmem : a ∈ qs := by rw [ha]; exact List.getElem_mem _
   have htk : qs.take (i + 1) = qs.take i ++ [a] := by rw [List.take_succ_eq_append_getElem (by omega), ha]
   clear ha
   obtain ⟨f0, f1, f2, f3, f4⟩ := hf
   have HA1 := Lib.hid (HA.out q a i hmem hq)
   replace htk := Lib.hid htk
   replace hq := Lib.hid hq
   clear hmem
   obtain ⟨x1, hweq, hL0⟩ := GL.named (hL0.new rfl [.int .u64 ((zl a.num : Nat) : Int), .string (zh a.num), .bool (zs a.num), .int .u64 ((lo (fe a) : Nat) : Int), .string (hs (fe a))] 36)
   have hN0 := cells_of _ 0 [] rfl (hL0.get _ _ mZ)
   simp only [zF, Nat.reduceAdd] at hN0
   go_wp2_with fail
   clear hN0
   with_reducible refine Calls.mono (HA1.out _ (hL0.weak (List.Sublist.cons _ (List.Sublist.refl _)))) ?_
   rintro e x9 ⟨rfl, hG⟩
   clear hL0 hweq f0 f1 f2 f3 f4
   go_wp2_with fail
   go_roundw
   case rel => exact ⟨i + 1, _, _, by omega, by first | rfl | go_num, by omega, by rw [htk.out, qsum_snoc, ← hq.out], hG⟩
   case measure => simp [intOf]; omega
  ·obtain rfl : i = n := by omega
   subst hzi
   have k1 : ¬ (i : Int) < (i : Int) := by omega
   have hqq := hq.trans (congrArg qsum (List.take_of_length_le (Nat.le_of_eq hlen)))
   subst hqq
   clear hq
   go_wp2_with fail
   go_end0
   exact ⟨rfl, hL0⟩
theorem sum_w (ao : Option Addr) (n c : Nat) (qs : List Rat) (hn0 : n ≤ 1000000)
  (HE : ∀ (w0 : World) (t : Nat), (0 < n → ∃ g, ao = some ⟨g, 0, none⟩ ∧ FS w0 g qs) ∧ qs.length = n ∧ n ≤ 1000000 → ∀ w, GL w0 w [(t, [.int .u64 ((zl ((0 : Rat)).num : Nat) : Int), .string (zh ((0 : Rat)).num), .bool (zs ((0 : Rat)).num), .int .u64 ((lo (fe (0 : Rat)) : Nat) : Int), .string (hs (fe (0 : Rat)))])] → Calls Tryz.prog 148 #[.slice ao n c, .func (.func 149) #[.pointer (some ⟨t, 0, none⟩)] #[]] w fun xe w' => xe = .returned (.tuple #[]) ∧ GL w0 w' [(t, [.int .u64 ((zl (qsum qs).num : Nat) : Int), .string (zh (qsum qs).num), .bool (zs (qsum qs).num), .int .u64 ((lo (fe (qsum qs)) : Nat) : Int), .string (hs (fe (qsum qs)))])])
  (w : World) (hn : (0 < n → ∃ g, ao = some ⟨g, 0, none⟩ ∧ FS w g qs) ∧ qs.length = n ∧ n ≤ 1000000) :
  Calls Tryz.prog 72 #[.slice ao n c] w fun xe w' => xe = .returned (fracV (qsum qs)) ∧ Below w.heap.size w w' := by
 have hL0 : GL w w [] := GL.start w
 generalize qsum qs = s at *
 replace HE := Lib.hid HE
 have hn2 := Lib.hid hn.2
 have hcell := Lib.hid hn.1
 clear hn
 obtain ⟨x1, hweq, hL0⟩ := GL.named (hL0.new rfl [.int .u64 0, .string ⟨#[]⟩, .bool false, .int .u64 0, .string ⟨#[]⟩] 36)
 have hG : GL x1 x1 [] := GL.start x1
 replace hG := hG.new rfl [.int .u64 0, .string ⟨#[]⟩, .bool false, .int .u64 0, .string ⟨#[]⟩] 177
 generalize hweq2 : x1.alloc (.cells #[.int .u64 0, .string ⟨#[]⟩, .bool false, .int .u64 0, .string ⟨#[]⟩] 177) = x2 at hG
 go_enter Tryz.func72, Tryz.ntmps72
 go_wp2_with fail
 rw [← zero_cells] at hG
 have hc2 : 0 < n → ∃ g, ao = some ⟨g, 0, none⟩ ∧ FS x1 g qs := fun h => by obtain ⟨g, h1, h2⟩ := hcell.out h; exact ⟨g, h1, h2.below hL0.bl⟩
 with_reducible refine Calls.mono (HE.out x1 x1.heap.size ⟨hc2, hn2.out⟩ x2 hG) ?_
 rintro e x3 ⟨rfl, hE⟩
 replace hL0 := hL0.join hE
 simp only [List.cons_append, List.nil_append] at hL0
 clear hE hG hweq hweq2 hc2 hcell hn2 HE
 generalize x1.heap.size = t at *
 have hA := hL0.fc
 simp only [zF, Nat.reduceAdd] at hA
 obtain ⟨x2, hput1, hP⟩ := GL.named (hL0.put 1 (w.heap.size) _ rfl [.int .u64 ((zl s.num : Nat) : Int), .string (zh s.num), .bool (zs s.num), .int .u64 ((lo (fe s) : Nat) : Int), .string (hs (fe s))] rfl)
 simp only [setAll] at hput1
 simp only [List.set_cons_zero, List.set_cons_succ] at hP
 have hB1 := hP.fc
 simp only [zF, Nat.reduceAdd] at hB1
 replace hL0 := hP
 go_wp2_with fail
 exact bodyPost_ret (v := fracV s) (by simp [results, Tryz.results72, go_sem, hB1]) rfl ⟨rfl, hL0.bl⟩
theorem slq_parts' {w : World} {ao : Option Addr} {n c : Nat} {qs : List Rat} (h : SlQ w (.slice ao n c) qs) (hl : qs.length ≤ 1000000) : (0 < n → ∃ g, ao = some ⟨g, 0, none⟩ ∧ FS w g qs) ∧ qs.length = n ∧ n ≤ 1000000 := by
 rcases h with ⟨ao, c, h1, rfl⟩ | ⟨g, c, h1, h2⟩
 ·simp only [Value.slice.injEq] at h1
  obtain ⟨-, rfl, -⟩ := h1
  exact ⟨fun h => absurd h (by omega), rfl, by omega⟩
 ·simp only [Value.slice.injEq] at h1
  obtain ⟨rfl, rfl, -⟩ := h1
  exact ⟨fun _ => ⟨g, rfl, h2⟩, rfl, hl⟩
theorem sumF (ao : Option Addr) (n c : Nat) (qs : List Rat) (k : Nat) (hk : k ≤ 10) (hl : qs.length ≤ 1000) (hs : ∀ q ∈ qs, Sz q k) (w : World) (h : SlQ w (.slice ao n c) qs) :
  Calls Tryz.prog 72 #[.slice ao n c] w fun xe w' => xe = .returned (fracV (qsum qs)) ∧ Below w.heap.size w w' := by
 have hp := slq_parts' h (by omega)
 refine sum_w ao n c qs hp.2.2 (fun w0 t hn w hG => each_add w0 t ao n c qs 0 rfl hn (fun q a i ha hq w hG => total_add w0 t q a (q + a) (fun w => addF q a 20000 ?_ ((hs a ha).mono (by omega)) (by omega) w) w hG) w hG) w hp
 rw [hq]
 have h0 : Sz 0 1 := ⟨digs_length_iff.2 (by unfold Bs; decide), digs_length_iff.2 (by unfold Bs; decide)⟩
 have hz := qsum_sz (qs.take i) 1 0 h0 (fun q hq => hs q (List.mem_of_mem_take hq))
 refine hz.mono ?_
 rw [List.length_take]
 have h1 : min i qs.length * (k + 1) ≤ 1000 * 11 := Nat.mul_le_mul (by omega) (by omega)
 omega
end Go.Proofs.YthffglapmkkohaaGreatDoor
namespace Go.Proofs.YthffglapmkkohaaGreatDoor
open Go.RowKit
attribute [local irreducible] lo hs sm s64 c64 d64 b64 mh ml pd pc qd qc val hiB str cmpI srD lz nb zl zh zs
/-- A fraction's text. -/
def qtxt (q : Rat) : ByteArray := if q.den = 1 then ztxt q.num else ztxt q.num ++ (ByteArray.mk #[47]) ++ txt q.den
theorem ztxt_small {z : Int} {k : Nat} (hk : 0 < k) (h : dI z ≤ k) : (ztxt z).size ≤ 20 * k + 1 := by
 have h1 := txt_small (n := z.natAbs) hk h
 unfold ztxt
 split
 ·rw [ByteArray.size_append]
  have : (ByteArray.mk #[45]).size = 1 := rfl
  omega
 ·omega
theorem textF (q : Rat) (k : Nat) (hq : Sz q k) (hk : k ≤ 100000) (w : World) (htab : Tab w) : Calls Tryz.prog 127 #[fracV q] w fun x w' => x = .returned (.string (qtxt q)) ∧ Below w.heap.size w w' := by
 have hT := fun w h => textI q.num (Nat.le_trans hq.1 (by omega)) w h
 unfold qtxt
 by_cases h : q.den = 1
 ·rw [if_pos h, show fracV q = frV q.num 0 by unfold fracV; rw [fe_one h]]
  exact ftext_whole q.num _ (fun w => by have := whole_raw q.num 0 w; rwa [decide_eq_true rfl] at this) hT w htab
 ·rw [if_neg h, show fracV q = frV q.num q.den by unfold fracV; rw [fe_ne h]]
  have s1 := ztxt_small (k := 100000) (by omega) (Nat.le_trans hq.1 hk)
  have s2 := txt_small (n := q.den) (k := 100000) (by omega) (Nat.le_trans hq.2 hk)
  exact ftext_part q.num q.den _ _ (fun w => by have := whole_raw q.num q.den w; rwa [decide_eq_false q.den_nz] at this) hT (fun w h => text_any q.den (Nat.le_trans hq.2 (by omega)) w h) (by omega) (by omega) w htab
theorem greaterF (p q : Rat) (k : Nat) (hp : Sz p k) (hq : Sz q k) (hk : k ≤ 100000000) (w : World) : Calls Tryz.prog 167 #[fracV p, fracV q] w fun x w' => x = .returned (.bool (gtQ p q)) ∧ Below w.heap.size w w' := by
 have h := cmpQ_gt p q
 cases hb : gtQ p q with
 | true => rw [hb] at h; exact gtr_true p.num q.num _ (fe p) (fe q) (cmpF p q k hp hq hk) h w
 | false => rw [hb] at h; exact gtr_false p.num q.num _ (fe p) (fe q) (cmpF p q k hp hq hk) h w
end Go.Proofs.YthffglapmkkohaaGreatDoor
namespace Go.Proofs.YthffglapmkkohaaGreatDoor
open Go.RowKit
attribute [local irreducible] lo hs sm s64 c64 d64 b64 mh ml pd pc qd qc val hiB str cmpI srD lz nb zl zh zs
theorem szc (q : Rat) (h1 : q.num.natAbs < 18446744073709551616) (h2 : q.den < 18446744073709551616) : Sz q 1 :=
 ⟨digs_length_iff.2 (by rw [Nat.pow_one]; exact h1), digs_length_iff.2 (by rw [Nat.pow_one]; exact h2)⟩
theorem frV_q0 : fracV 0 = .agg #[.int .u64 0, .string ⟨#[]⟩, .bool false, .int .u64 0, .string ⟨#[]⟩] := frV_00
theorem fmax_w (ao : Option Addr) (n c : Nat) (x : Int) (e : Nat) (K : World → Prop) (hK : Keeps K) (HA : RK K 168 #[.agg #[.func (.func 167) #[] #[]], .slice ao n c] (frV x e)) (w : World) (kK : K w) :
  Calls Tryz.prog 129 #[.slice ao n c] w fun xe w' => xe = .returned (frV x e) ∧ Below w.heap.size w w' := by
 have hL0 : GL w w [] := GL.start w
 replace hK := Lib.hid hK
 replace HA := Lib.hid HA
 obtain ⟨x1, hweq, hL0⟩ := GL.named (hL0.new rfl [.int .u64 0, .string ⟨#[]⟩, .bool false, .int .u64 0, .string ⟨#[]⟩] 36)
 go_enter Tryz.func129, Tryz.ntmps129
 go_wp2_with fail
 with_reducible refine Calls.mono (HA.out _ (hK.out.at hL0.bl kK)) ?_
 rintro e x2 ⟨rfl, hb⟩
 replace hL0 := hL0.call hb
 clear hb hweq
 have hA := hL0.fc
 simp only [zF, Nat.reduceAdd] at hA
 obtain ⟨x3, hput1, hP⟩ := GL.named (hL0.put 0 (w.heap.size) _ rfl [.int .u64 ((zl x : Nat) : Int), .string (zh x), .bool (zs x), .int .u64 ((lo e : Nat) : Int), .string (hs e)] rfl)
 simp only [setAll] at hput1
 simp only [List.set_cons_zero, List.set_cons_succ] at hP
 have hB1 := hP.fc
 simp only [zF, Nat.reduceAdd] at hB1
 replace hL0 := hP
 go_wp2_with fail
 exact bodyPost_ret (v := frV x e) (by simp [results, Tryz.results129, go_sem, hB1]) rfl ⟨rfl, hL0.bl⟩
theorem slq_parts {w : World} {ao : Option Addr} {n c : Nat} {qs : List Rat} (h : SlQ w (.slice ao n c) qs) (hl : qs.length ≤ 1000000) : (0 < n → ∃ g, ao = some ⟨g, 0, none⟩ ∧ FS w g qs) ∧ qs.length = n ∧ n ≤ 1000000 := by
 rcases h with ⟨a, c', h1, h2⟩ | ⟨g, c', h1, h2⟩
 ·simp only [Value.slice.injEq] at h1
  obtain ⟨-, rfl, -⟩ := h1
  subst h2
  exact ⟨fun h => absurd h (Nat.lt_irrefl 0), rfl, by omega⟩
 ·simp only [Value.slice.injEq] at h1
  obtain ⟨rfl, rfl, -⟩ := h1
  exact ⟨fun _ => ⟨g, rfl, h2⟩, rfl, hl⟩
theorem maxF (ao : Option Addr) (n c : Nat) (qs : List Rat) (k : Nat) (hk : k ≤ 100000000) (hl : qs.length ≤ 1000000) (hs : ∀ q ∈ qs, Sz q k) (w : World) (h : SlQ w (.slice ao n c) qs) :
  Calls Tryz.prog 129 #[.slice ao n c] w fun xe w' => xe = .returned (fracV (amg gtQ qs)) ∧ Below w.heap.size w w' :=
 fmax_w ao n c (amg gtQ qs).num (fe (amg gtQ qs)) _ (SlQ.keeps (.slice ao n c) qs) (fun w h => among_max ao n c qs (fun p q hp hq w => greaterF p q k (hs p hp) (hs q hq) hk w) w h (slq_parts h hl)) w h
/-- The variable of package bytealg that strings.Cut looks at. -/
def MaxL (w : World) : Prop := ∃ m, w.cell? ⟨2, 0, none⟩ = some (.int .i64 m)
theorem MaxL.keeps : Keeps MaxL := fun w w' hb ⟨m, h⟩ => ⟨m, by
 have hl := World.block_lt_of_cell? w _ h
 exact (hb.cell (p := ⟨2, 0, none⟩) hl).trans h⟩
end Go.Proofs.YthffglapmkkohaaGreatDoor
namespace Go.Proofs.YthffglapmkkohaaGreatDoor
/-- Every operation waits for earlier ones alone, and what comes behind it waits for it or is apart from it. -/
def fastFrom (md : Region.Mode) (ops : Array Oper) : Nat → List Oper → Bool
 | _, [] => true
 | k, o :: l => (o.after.all fun e => !Region.binds md e || decide (e.on < k)) &&
   (l.all fun oj => (oj.after.any fun e => Region.binds md e && e.on == k) || o.apart ops oj) && fastFrom md ops (k + 1) l
def fastB (md : Region.Mode) (l : List Oper) : Bool := Region.noSelect l.toArray && fastFrom md l.toArray 0 l
def preL (s n : Nat) : Array Bool := ((List.range s).map fun i => decide (i < n)).toArray
theorem preL_get (s n i : Nat) (d : Bool) : (preL s n).getD i d = if i < s then decide (i < n) else d := by
 unfold preL
 by_cases h : i < s
 ·simp [h]
 ·simp [h]
theorem preL_set (s n : Nat) : (preL s n).setIfInBounds n true = preL s (n + 1) := by
 apply Array.ext
 ·simp [preL]
 ·intro i h1 h2
  simp only [preL, List.setIfInBounds_toArray, List.getElem_toArray]
  by_cases e : n = i
  ·subst e; simp
  ·rw [List.getElem_set_ne e]
   simp only [List.getElem_map, List.getElem_range]
   by_cases h : i < n
   ·rw [decide_eq_true h, decide_eq_true (by omega)]
   ·rw [decide_eq_false h, decide_eq_false (by omega)]
theorem preL_zero (s : Nat) : preL s 0 = Array.replicate s false := by
 apply Array.ext
 ·simp [preL]
 ·intro i h1 h2; simp [preL]
theorem lexFrom_of_fast {md : Region.Mode} {ops : Array Oper} : ∀ (l : List Oper) (k : Nat), (∀ j, l[j]? = ops[k + j]?) → k + l.length = ops.size → fastFrom md ops k l = true → Region.lexFrom md ops l.length k (preL ops.size k) = true
 | [], k, hl, hs, _ => by
  have : Region.ready md ops (preL ops.size k) = [] := by
   apply List.eq_nil_iff_forall_not_mem.2
   intro j hj
   obtain ⟨h1, o, ho, -⟩ := mem_ready.1 hj
   have hj' : j < ops.size := (Array.getElem?_eq_some_iff.1 ho).1
   rw [preL_get, if_pos hj', decide_eq_true (by simp at hs; omega)] at h1
   cases h1
  simp [Region.lexFrom, this]
 | o :: l, k, hl, hs, h => by
  have h0 : ops[k]? = some o := by simpa using (hl 0).symm
  have hk : k < ops.size := (Array.getElem?_eq_some_iff.1 h0).1
  simp only [fastFrom, Bool.and_eq_true] at h
  obtain ⟨⟨hw, hf⟩, hr⟩ := h
  simp only [List.length_cons, Region.lexFrom, Bool.and_eq_true]
  refine ⟨⟨List.contains_iff_mem.2 (mem_ready.2 ⟨by rw [preL_get, if_pos hk, decide_eq_false (by omega)], o, h0, fun e he hb => ?_⟩), ?_⟩, ?_⟩
  ·have h1 := (Array.all_eq_true_iff_forall_mem.1 hw) e he
   simp only [hb, Bool.not_true, Bool.false_or, decide_eq_true_eq] at h1
   rw [preL_get, if_pos (by omega), decide_eq_true h1]
  ·simp only [Region.free, h0, List.all_eq_true, List.mem_range]
   intro j hj
   by_cases e : j = k
   ·simp [e]
   ·by_cases hjk : j < k
    ·rw [preL_get, if_pos hj, decide_eq_true hjk]; simp
    ·have h2 : l[j - k - 1]? = ops[j]? := by
      have := hl (j - k)
      rw [show k + (j - k) = j by omega] at this
      rw [← this, show j - k = (j - k - 1) + 1 by omega, List.getElem?_cons_succ]
      rfl
     rw [Array.getElem?_eq_getElem hj] at h2
     have h3 := (List.all_eq_true.1 hf) ops[j] (List.mem_of_getElem? h2)
     rw [Array.getElem?_eq_getElem hj]
     simp only [Bool.or_eq_true] at h3 ⊢
     exact .inr h3
  ·rw [preL_set]
   exact lexFrom_of_fast l (k + 1) (fun j => by have := hl (j + 1); simpa [Nat.add_assoc, Nat.add_comm 1 j] using this) (by simp at hs; omega) hr
theorem lexB_of_fast {md : Region.Mode} {l : List Oper} (h : fastB md l = true) : Region.lexB md l.toArray = true := by
 simp only [fastB, Bool.and_eq_true] at h
 simp only [Region.lexB, Bool.and_eq_true]
 refine ⟨h.1, ?_⟩
 have := lexFrom_of_fast (md := md) (ops := l.toArray) l 0 (fun j => by simp) (by simp) h.2
 rw [preL_zero] at this
 simpa using this
end Go.Proofs.YthffglapmkkohaaGreatDoor
namespace Go.Proofs.YthffglapmkkohaaGreatDoor
open Go.RowKit
attribute [local irreducible] lo hs sm s64 c64 d64 b64 mh ml pd pc qd qc val hiB str cmpI srD lz zl zh zs dval
/-- A fraction of small data. -/
def qmade (n : Int) (d : Nat) : Rat := mkRat n (if d < 1 then 1 else d)
theorem qmade_parts (n : Int) (d : Nat) : (qmade n d).num.natAbs ≤ n.natAbs ∧ (qmade n d).den ≤ (if d < 1 then 1 else d) := by
 unfold qmade
 obtain ⟨h1, h2⟩ := canc (z := n) (d := if d < 1 then 1 else d) (by split <;> omega)
 rw [h1, h2, Int.natAbs_tdiv]
 exact ⟨Nat.div_le_self _ _, Nat.div_le_self _ _⟩
theorem qmade_sz (n : Int) (d : Nat) (h1 : -9223372036854775808 ≤ n) (h2 : n < 9223372036854775808) (h3 : d < 4294967296) : Sz (qmade n d) 1 := by
 obtain ⟨e1, e2⟩ := qmade_parts n d
 exact szc _ (by omega) (by split at e2 <;> omega)
end Go.Proofs.YthffglapmkkohaaGreatDoor
namespace Go.Proofs.YthffglapmkkohaaGreatDoor
open Go.RowKit
attribute [local irreducible] lo hs sm s64 c64 d64 b64 mh ml pd pc qd qc val hiB str cmpI srD lz nb zl zh zs dval
/-- A fraction's cells; those of a list. -/
def frC (q : Rat) : List Value := [.int .u64 ((zl q.num : Nat) : Int), .string (zh q.num), .bool (zs q.num), .int .u64 ((lo (fe q) : Nat) : Int), .string (hs (fe q))]
def frCs (l : List Rat) : List Value := l.flatMap frC
theorem frC_length (q : Rat) : (frC q).length = 5 := rfl
theorem frCs_length : ∀ l : List Rat, (frCs l).length = l.length * 5
 | [] => rfl
 | q :: l => by unfold frCs; rw [List.flatMap_cons, List.length_append, frC_length, List.length_cons]; have := frCs_length l; unfold frCs at this; omega
theorem frCs_append (l m : List Rat) : frCs (l ++ m) = frCs l ++ frCs m := by unfold frCs; rw [List.flatMap_append]
theorem frCs_snoc (l : List Rat) (q : Rat) : frCs (l ++ [q]) = frCs l ++ frC q := by rw [frCs_append]; simp [frCs]
theorem frCs_get : ∀ (l : List Rat) (i j : Nat) (h : i < l.length), j < 5 → (frCs l)[i * 5 + j]? = (frC l[i])[j]?
 | q :: l, 0, j, h, hj => by
  unfold frCs
  rw [List.flatMap_cons, Nat.zero_mul, Nat.zero_add, List.getElem?_append_left (by rw [frC_length]; exact hj)]; rfl
 | q :: l, i + 1, j, h, hj => by
  have hi : i < l.length := by simpa using h
  have ih := frCs_get l i j hi hj
  unfold frCs at ih ⊢
  rw [List.flatMap_cons, List.getElem?_append_right (by rw [frC_length]; omega), frC_length, show (i + 1) * 5 + j - 5 = i * 5 + j by omega, ih]
  rfl
theorem frC_one : ∀ (q : Rat), ∀ u ∈ frC q, u.oneCell' = true := by
 intro q u hu
 unfold frC at hu
 simp only [List.mem_cons, List.not_mem_nil, or_false] at hu
 rcases hu with rfl | rfl | rfl | rfl | rfl <;> rfl
theorem add0 (g j : Nat) : (⟨g, 0, none⟩ : Addr).add j = ⟨g, j, none⟩ := by
 unfold Addr.add
 by_cases h : j = 0
 ·subst h; simp
 ·simp [h]
theorem own_cells {w : World} {B n : Nat} {v : Value} {l : List Rat} {g : Nat} {c : Nat} (h : w.ownsRow B 36 5 v n (frCs l)) (hv : v = .slice (some ⟨g, 0, none⟩) n c) (j : Nat) (u : Value) (hu : (frCs l)[j]? = some u) : w.cell? ⟨g, j, none⟩ = some u := by
 have := World.ownsRow.cells h (g := g) (by rw [hv]; rfl) j u hu
 rw [add0] at this
 exact this
theorem own_fs {w : World} {B n g c : Nat} {v : Value} {l : List Rat} (h : w.ownsRow B 36 5 v n (frCs l)) (hv : v = .slice (some ⟨g, 0, none⟩) n c) : FS w g l := by
 have hc := own_cells h hv
 refine ⟨fun i hi => ?_, (h.lt g (by rw [hv]; rfl)).2⟩
 have e := fun j hj => frCs_get l i j hi hj
 exact ⟨hc _ _ (by have := e 0 (by omega); rw [Nat.add_zero] at this; exact this), hc _ _ (e 1 (by omega)), hc _ _ (e 2 (by omega)), hc _ _ (e 3 (by omega)), hc _ _ (e 4 (by omega))⟩
theorem own_slq {w : World} {B n : Nat} {v : Value} {l : List Rat} (h : w.ownsRow B 36 5 v n (frCs l)) (hn : n = l.length) : SlQ w v l := by
 rcases h.2 with ⟨h1, h2⟩ | ⟨g, cap, cur, h1, h2, h3, h4, h5, h6, h7⟩
 ·exact .inl ⟨none, 0, h1, List.eq_nil_of_length_eq_zero (by omega)⟩
 ·exact .inr ⟨g, cap, by rw [h1, hn], own_fs h h1⟩
theorem own_below {w w' : World} {B n : Nat} {v : Value} {l : List Rat} (h : w.ownsRow B 36 5 v n (frCs l)) (hb : Below w.heap.size w w') : w'.ownsRow B 36 5 v n (frCs l) := by
 refine ⟨h.1, ?_⟩
 rcases h.2 with h1 | ⟨g, cap, cur, h1, h2, h3, h4⟩
 ·exact .inl h1
 ·refine .inr ⟨g, cap, cur, h1, h2, ?_, h4⟩
  have hg := (h.lt g (by rw [h1]; rfl)).2
  rw [hb.block g hg]; exact h3
end Go.Proofs.YthffglapmkkohaaGreatDoor
namespace Go.Proofs.YthffglapmkkohaaGreatDoor
open Go.RowKit
def tabV (n : Nat) (f : Nat → Rat) : List Rat := (List.range n).map f
def gv (l : List Rat) (i : Nat) : Rat := l.getD i 0
theorem tabV_len (n : Nat) (f : Nat → Rat) : (tabV n f).length = n := by unfold tabV; rw [List.length_map, List.length_range]
theorem tabV_get {n : Nat} {f : Nat → Rat} {i : Nat} (h : i < (tabV n f).length) : (tabV n f)[i]'h = f i := by simp only [tabV, List.getElem_map, List.getElem_range]
theorem gv_get {l : List Rat} {i : Nat} (h : i < l.length) : gv l i = l[i]'h := by unfold gv; rw [List.getD_eq_getElem?_getD, List.getElem?_eq_getElem h]; rfl
theorem gv_tab {n : Nat} {f : Nat → Rat} {i : Nat} (h : i < n) : gv (tabV n f) i = f i := by rw [gv_get (by rw [tabV_len]; exact h), tabV_get]
theorem tab_ext {n : Nat} {f g : Nat → Rat} (h : ∀ i, i < n → f i = g i) : tabV n f = tabV n g := by
 unfold tabV
 exact List.map_congr_left fun i hi => h i (List.mem_range.1 hi)
theorem tab_mem {n : Nat} {f : Nat → Rat} {q : Rat} (h : q ∈ tabV n f) : ∃ i, i < n ∧ q = f i := by
 obtain ⟨i, hi, e⟩ := List.mem_map.1 h
 exact ⟨i, List.mem_range.1 hi, e.symm⟩
theorem tabV_succ (n : Nat) (f : Nat → Rat) : tabV (n + 1) f = tabV n f ++ [f n] := by unfold tabV; rw [List.range_succ, List.map_append]; rfl
theorem tabV_zero (f : Nat → Rat) : tabV 0 f = [] := rfl
theorem tab_all {n : Nat} {f : Nat → Rat} {P : Rat → Prop} (h : ∀ i, i < n → P (f i)) : ∀ q ∈ tabV n f, P q := fun q hq => by
 obtain ⟨i, hi, rfl⟩ := tab_mem hq; exact h i hi
/-- A finite sum. -/
def bsV : Nat → (Nat → Rat) → Rat
 | 0, _ => 0
 | n + 1, f => bsV n f + f n
theorem qsum_tab (n : Nat) (f : Nat → Rat) : qsum (tabV n f) = bsV n f := by
 induction n with
 | zero => rfl
 | succ n ih => rw [tabV_succ, qsum_snoc, ih]; rfl
theorem bs_congr {n : Nat} {f g : Nat → Rat} (h : ∀ i, i < n → f i = g i) : bsV n f = bsV n g := by
 induction n with
 | zero => rfl
 | succ n ih => show bsV n f + f n = bsV n g + g n; rw [ih fun i hi => h i (by omega), h n (by omega)]
theorem bs_add (n : Nat) (f g : Nat → Rat) : bsV n (fun i => f i + g i) = bsV n f + bsV n g := by
 induction n with
 | zero => show (0 : Rat) = 0 + 0; grind
 | succ n ih => show bsV n (fun i => f i + g i) + (f n + g n) = bsV n f + f n + (bsV n g + g n); rw [ih]; grind
theorem bs_mul (n : Nat) (c : Rat) (f : Nat → Rat) : bsV n (fun i => c * f i) = c * bsV n f := by
 induction n with
 | zero => show (0 : Rat) = c * 0; grind
 | succ n ih => show bsV n (fun i => c * f i) + c * f n = c * (bsV n f + f n); rw [ih]; grind
theorem bs_zero (n : Nat) : bsV n (fun _ => 0) = 0 := by
 induction n with
 | zero => rfl
 | succ n ih => show bsV n (fun _ => 0) + 0 = 0; rw [ih]; grind
/-- The maximum norm. -/
def mxV (l : List Rat) : Rat := amg gtQ (l.map absQ)
theorem mx_nil : mxV [] = 0 := rfl
theorem gv_mem {l : List Rat} {i : Nat} (h : i < l.length) : gv l i ∈ l := by rw [gv_get h]; exact List.getElem_mem h
/-- Sizes. -/
theorem bs_sz {n : Nat} {f : Nat → Rat} {k : Nat} (hf : ∀ i, i < n → Sz (f i) k) : Sz (bsV n f) (n * (k + 1) + 1) := by
 rw [← qsum_tab]
 have h := qsum_sz (k := k) (tabV n f) 1 0 (szc 0 (by decide) (by decide)) (tab_all hf)
 rw [tabV_len] at h
 exact h.mono (by omega)
theorem absQ_szV {q : Rat} {k : Nat} (h : Sz q k) : Sz (absQ q) k := by
 unfold absQ; split
 ·exact h.neg
 ·exact h
end Go.Proofs.YthffglapmkkohaaGreatDoor
namespace Go.Proofs.YthffglapmkkohaaGreatDoor
open Go.RowKit
section
variable {P : Program} {ops : Array Oper} {C : World → Prop}
/-- What an operation does: its value has the property in the world that it leaves. -/
def tyUpon (P : Program) (w : World) (T : Value → World → Prop) : Result Next → Prop
 | .ok (.value u) w' => Below w.heap.size w w' ∧ T u w'
 | .ok .skip w' => Below w.heap.size w w' ∧ T undef w'
 | .ok (.enter f args) w' => w' = w ∧ Calls P f args w (fun e w'' => ∃ u, e = .returned u ∧ T u w'' ∧ Below w.heap.size w w'')
 | _ => False
def TyAt (P : Program) (ops : Array Oper) (o : Oper) (a : Act) (w : World) (T : Value → World → Prop) : Prop :=
 if Region.wanted o (yielded ops a.tmps) then tyUpon P w T ((execOp a.eval o).run P w) else T undef w
theorem tyAt_none {o : Oper} {a : Act} {w : World} {T : Value → World → Prop} (hg : o.guard = none) (h : tyUpon P w T ((execOp a.eval o).run P w)) : TyAt P ops o a w T := by
 unfold TyAt
 rw [if_pos (by unfold Region.wanted; rw [hg])]
 exact h
/-- A call whose contract gives the property. -/
theorem ty_call {o : Oper} {a : Act} {w : World} {T : Value → World → Prop} {f : FuncId} {args : Array Value} (hr : (execOp a.eval o).run P w = .ok (.enter f args) w) (h : Calls P f args w fun e w'' => ∃ u, e = .returned u ∧ T u w'' ∧ Below w.heap.size w w'') : tyUpon P w T ((execOp a.eval o).run P w) := by
 rw [hr]; exact ⟨rfl, h⟩
/-- The frame with the values of the operations that have come up. -/
def putsIf : List Oper → Nat → (Nat → Bool) → (Nat → Value) → Act → Act
 | [], _, _, _, a => a
 | o :: l, k, b, v, a => putsIf l (k + 1) b v (if b k then a.put o.dst (v k) else a)
def putsV : List Oper → Nat → (Nat → Value) → Act → Act
 | [], _, _, a => a
 | o :: l, k, v, a => putsV l (k + 1) v (a.put o.dst (v k))
theorem putsIf_all {v : Nat → Value} {b : Nat → Bool} : ∀ (l : List Oper) (k : Nat) (a : Act), (∀ i, k ≤ i → i < k + l.length → b i = true) → putsIf l k b v a = putsV l k v a
 | [], _, _, _ => rfl
 | o :: l, k, a, h => by
  rw [putsIf, putsV, if_pos (h k (Nat.le_refl k) (by rw [List.length_cons]; omega))]
  exact putsIf_all l (k + 1) _ fun i h1 h2 => h i (by omega) (by rw [List.length_cons]; omega)
theorem putsIf_none {v : Nat → Value} {b : Nat → Bool} : ∀ (l : List Oper) (k : Nat) (a : Act), (∀ i, k ≤ i → i < k + l.length → b i = false) → putsIf l k b v a = a
 | [], _, _, _ => rfl
 | o :: l, k, a, h => by
  rw [putsIf, if_neg (by rw [h k (Nat.le_refl k) (by rw [List.length_cons]; omega)]; exact Bool.false_ne_true)]
  exact putsIf_none l (k + 1) _ fun i h1 h2 => h i (by omega) (by rw [List.length_cons]; omega)
theorem putsIf_congr {v v' : Nat → Value} {b b' : Nat → Bool} : ∀ (l : List Oper) (k : Nat) (a : Act), (∀ i, k ≤ i → i < k + l.length → b i = b' i ∧ (b i = true → v i = v' i)) → putsIf l k b v a = putsIf l k b' v' a
 | [], _, _, _ => rfl
 | o :: l, k, a, h => by
  obtain ⟨h1, h2⟩ := h k (Nat.le_refl k) (by rw [List.length_cons]; omega)
  rw [putsIf, putsIf]
  have e : (if b k = true then a.put o.dst (v k) else a) = (if b' k = true then a.put o.dst (v' k) else a) := by
   rw [← h1]
   by_cases hb : b k = true
   ·rw [if_pos hb, if_pos hb, h2 hb]
   ·rw [if_neg hb, if_neg hb]
  rw [e]
  exact putsIf_congr l (k + 1) _ fun i h1 h2 => h i (by omega) (by rw [List.length_cons]; omega)
/-- No two of them write one slot. -/
def apartD (d : Option Tmp) (l : List Oper) : Bool := l.all fun o => match d, o.dst with
 | some x, some y => !(x == y)
 | _, _ => true
def nodupD : List Oper → Bool
 | [] => true
 | o :: l => apartD o.dst l && nodupD l
theorem apartD_spec {d : Option Tmp} {l : List Oper} (h : apartD d l = true) {o : Oper} (ho : o ∈ l) {x : Tmp} (hx : d = some x) : o.dst ≠ some x := by
 intro e
 have := (List.all_eq_true.1 h) o ho
 subst hx
 simp only [e] at this
 simp at this
theorem put_late {v : Nat → Value} {b : Nat → Bool} {d : Option Tmp} {u : Value} : ∀ (l : List Oper) (k : Nat) (a : Act), apartD d l = true → putsIf l k b v (a.put d u) = (putsIf l k b v a).put d u
 | [], _, _, _ => rfl
 | o :: l, k, a, h => by
  have h0 := h
  simp only [apartD, List.all_cons, Bool.and_eq_true] at h
  rw [putsIf, putsIf]
  by_cases hb : b k = true
  ·rw [if_pos hb, if_pos hb]
   have : (a.put d u).put o.dst (v k) = (a.put o.dst (v k)).put d u := by
    cases d with
    | none => rfl
    | some x =>
     cases ho : o.dst with
     | none => rfl
     | some y =>
      have hne : y ≠ x := fun e => apartD_spec h0 List.mem_cons_self rfl (by rw [ho, e])
      exact Act.put_comm a u (v k) (fun d hd e => hne (Option.some.inj (e.trans hd.symm)))
   rw [this]
   exact put_late l (k + 1) _ h.2
  ·rw [if_neg hb, if_neg hb]; exact put_late l (k + 1) _ h.2
theorem put_at {v v' : Nat → Value} {b b' : Nat → Bool} {j : Nat} {u : Value} (hb : b j = false) (hb' : b' j = true) (hv : v' j = u) (hbb : ∀ i, i ≠ j → b' i = b i ∧ v' i = v i) :
  ∀ (l : List Oper) (k : Nat) (a : Act) (o : Oper), nodupD l = true → k ≤ j → l[j - k]? = some o → (putsIf l k b v a).put o.dst u = putsIf l k b' v' a
 | [], _, _, _, _, _, h => by simp at h
 | o1 :: l, k, a, o, hn, hk, h => by
  simp only [nodupD, Bool.and_eq_true] at hn
  rw [putsIf, putsIf]
  by_cases e : j = k
  ·subst e
   simp only [Nat.sub_self, List.getElem?_cons_zero, Option.some.injEq] at h
   subst h
   rw [if_neg (by rw [hb]; exact Bool.false_ne_true), if_pos hb', hv, ← put_late l (j + 1) a hn.1]
   exact putsIf_congr l (j + 1) _ fun i h1 h2 => ⟨(hbb i (by omega)).1.symm, fun _ => (hbb i (by omega)).2.symm⟩
  ·have hk' : k + 1 ≤ j := by omega
   rw [show j - k = (j - (k + 1)) + 1 by omega, List.getElem?_cons_succ] at h
   obtain ⟨h1, h2⟩ := hbb k (fun e' => e e'.symm)
   rw [h1, h2]
   exact put_at hb hb' hv hbb l (k + 1) _ o hn.2 hk' h
theorem put_get (a : Act) (d : Option Tmp) (u : Value) (t : Nat) : (a.put d u).tmps[t]? = if d = some t then (if t < a.tmps.size then some u else none) else a.tmps[t]? := by
 cases d with
 | none => simp [Act.put]
 | some x =>
  simp only [Act.put, Array.getElem?_setIfInBounds, Option.some.injEq]
  by_cases h : x = t
  ·subst h; simp
  ·simp [h]
theorem get_puts {v : Nat → Value} {b : Nat → Bool} {t : Nat} : ∀ (l : List Oper) (k : Nat) (a a' : Act), a.tmps[t]? = a'.tmps[t]? → (∀ i o, l[i]? = some o → o.dst = some t → b (k + i) = true) → (putsIf l k b v a).tmps[t]? = (putsV l k v a').tmps[t]?
 | [], _, _, _, h, _ => h
 | o :: l, k, a, a', h, hd => by
  rw [putsIf, putsV]
  refine get_puts l (k + 1) _ _ ?_ fun i o' ho' hd' => by have := hd (i + 1) o' (by simpa using ho') hd'; rwa [show k + (i + 1) = k + 1 + i by omega] at this
  have hsz : t < a.tmps.size ↔ t < a'.tmps.size := by
   constructor <;> intro h1
   ·rw [Array.getElem?_eq_getElem h1] at h; exact (Array.getElem?_eq_some_iff.1 h.symm).1
   ·rw [Array.getElem?_eq_getElem h1] at h; exact (Array.getElem?_eq_some_iff.1 h).1
  by_cases e : o.dst = some t
  ·have hb := hd 0 o (by simp) e
   rw [Nat.add_zero] at hb
   rw [if_pos hb, put_get, put_get, if_pos e, if_pos e]
   by_cases h2 : t < a.tmps.size
   ·rw [if_pos h2, if_pos (hsz.1 h2)]
   ·rw [if_neg h2, if_neg fun h3 => h2 (hsz.2 h3)]
  ·by_cases hb : b k = true
   ·rw [if_pos hb, put_get, put_get, if_neg e, if_neg e]; exact h
   ·rw [if_neg hb, put_get, if_neg e]; exact h
theorem wanted_same {a a' : Act} {o : Oper} (h : ∀ t ∈ o.looksAt ops, a.tmps[t]? = a'.tmps[t]?) : Region.wanted o (yielded ops a.tmps) = Region.wanted o (yielded ops a'.tmps) := by
 unfold Region.wanted
 cases hg : o.guard with
 | none => rfl
 | some gw =>
  obtain ⟨gg, want⟩ := gw
  have hy : yielded ops a.tmps gg = yielded ops a'.tmps gg := by
   unfold yielded
   cases ht : (ops[gg]?).bind (·.dst) with
   | none => rfl
   | some t =>
    have := h t (List.mem_append_right _ (by simp [hg, ht]))
    simp [this]
  simp only [hy]
theorem exec_same {a a' : Act} {o : Oper} (hs : ∀ cs b, o.op ≠ .select cs b) (h : ∀ t ∈ o.looksAt ops, a.tmps[t]? = a'.tmps[t]?) : execOp a.eval o = execOp a'.eval o :=
 execOp_congr o hs fun x hx => by
  cases x with
  | tmp t =>
   have ht : t ∈ o.looksAt ops := List.mem_append_left _ (List.mem_filterMap.2 ⟨_, by simpa using hx, rfl⟩)
   simp only [Act.eval, Array.getD_eq_getD_getElem?, h t ht]
  | _ => rfl
/-- Each of the first n waits for earlier ones alone, and for each of them that writes a slot that it looks at. -/
def depB (ops : Array Oper) (n : Nat) : Bool :=
 (List.range n).all fun j => (predsOf .any ops j).all (fun i => decide (i < j)) && match ops[j]? with
  | some o => (o.looksAt ops).all fun t => (List.range n).all fun i => match (ops[i]?).bind (·.dst) with
    | some d => !(d == t) || (predsOf .any ops j).contains i
    | none => true
  | none => true
theorem depB_pred {n j i : Nat} (h : depB ops n = true) (hj : j < n) (hi : i ∈ predsOf .any ops j) : i < j := by
 simp only [depB, List.all_eq_true, List.mem_range, Bool.and_eq_true, decide_eq_true_eq] at h
 exact (h j hj).1 i hi
theorem depB_looks {n j i : Nat} (h : depB ops n = true) (hj : j < n) (hi : i < n) {o o' : Oper} (ho : ops[j]? = some o) (ho' : ops[i]? = some o') {t : Tmp} (ht : t ∈ o.looksAt ops) (hd : o'.dst = some t) : i ∈ predsOf .any ops j := by
 simp only [depB, List.all_eq_true, List.mem_range, Bool.and_eq_true, decide_eq_true_eq] at h
 have h1 := (h j hj).2
 rw [ho] at h1
 simp only [List.all_eq_true, List.mem_range] at h1
 have h2 := h1 t ht i hi
 rw [ho'] at h2
 simp only [Option.bind_some, hd, beq_self_eq_true, Bool.not_true, Bool.false_or] at h2
 exact List.contains_iff_mem.1 h2
/-- A property that later worlds keep. -/
def Stays (T : Value → World → Prop) : Prop := ∀ v w w', Below w.heap.size w w' → T v w → T v w'
/-- How many of the first n have not come up. -/
def left (n : Nat) (listed : Array Bool) : Nat := (List.range n).countP fun i => !listed.getD i false
theorem left_zero {n : Nat} {listed : Array Bool} (h : left n listed = 0) : doneN n listed = true := by
 refine doneN_iff.2 fun i hi => ?_
 have := (List.countP_eq_zero.1 h) i (List.mem_range.2 hi)
 simpa using this
theorem left_some {n m : Nat} {listed : Array Bool} (h : left n listed = m + 1) : doneN n listed = false := by
 refine Bool.eq_false_iff.2 fun hd => ?_
 have : left n listed = 0 := List.countP_eq_zero.2 fun i hi => by simp [doneN_iff.1 hd i (List.mem_range.1 hi)]
 omega
theorem countP_drop {p q : Nat → Bool} {j : Nat} (hpq : ∀ i, i ≠ j → q i = p i) (hp : p j = true) (hq : q j = false) : ∀ (r : List Nat), r.Nodup → j ∈ r → r.countP p = r.countP q + 1
 | [], _, h => by cases h
 | x :: r, hn, h => by
  rw [List.nodup_cons] at hn
  rcases List.mem_cons.1 h with rfl | h
  ·rw [List.countP_cons_of_pos hp, List.countP_cons_of_neg (by rw [hq]; exact Bool.false_ne_true)]
   congr 1
   refine List.countP_congr fun i hi => ?_
   rw [hpq i (fun e => hn.1 (e ▸ hi))]
  ·have hx : x ≠ j := fun e => hn.1 (e ▸ h)
   have ih := countP_drop hpq hp hq r hn.2 h
   by_cases hpx : p x = true
   ·rw [List.countP_cons_of_pos hpx, List.countP_cons_of_pos (by rw [hpq x hx]; exact hpx), ih]
   ·rw [List.countP_cons_of_neg hpx, List.countP_cons_of_neg (by rw [hpq x hx]; exact hpx), ih]
theorem left_set {n j m : Nat} {listed : Array Bool} (hs : listed.size = ops.size) (hj : j < n) (hjs : j < ops.size) (hu : listed.getD j false = false) (h : left n listed = m + 1) : left n (listed.setIfInBounds j true) = m := by
 have := countP_drop (p := fun i => !listed.getD i false) (q := fun i => !(listed.setIfInBounds j true).getD i false) (j := j) (fun i hi => by simp only [getD_set_ne false (fun e => hi e.symm)]) (by simp [hu]) (by simp [hs, hjs]) (List.range n) List.nodup_range (List.mem_range.2 hj)
 unfold left at h ⊢
 omega
theorem ready_some {n m : Nat} {listed : Array Bool} (hs : listed.size = ops.size) (hn : n ≤ ops.size) (hD : depB ops n = true) (h : left n listed = m + 1) : Region.ready .any ops listed ≠ [] := by
  have hnd := left_some h
  have ex : ∃ i, i < n ∧ listed.getD i false = false := Classical.byContradiction fun hc => by
    have : doneN n listed = true := doneN_iff.2 fun i hi => by
      cases hv : listed.getD i false with
      | true => rfl
      | false => exact absurd ⟨i, hi, hv⟩ hc
    rw [this] at hnd; cases hnd
  have key : ∀ k i, i ≤ k → i < n → listed.getD i false = false → ∃ i, i ∈ Region.ready .any ops listed := by
    intro k
    induction k with
    | zero =>
      intro i hi h1 h2
      obtain rfl : i = 0 := by omega
      have ho : 0 < ops.size := by omega
      refine ⟨0, mem_ready.2 ⟨by have h3 : 0 < listed.size := by omega
                                 simpa [h3] using h2, ops[0], Array.getElem?_eq_getElem ho, fun e he hb => ?_⟩⟩
      have : e.on ∈ predsOf .any ops 0 := by
        unfold predsOf; rw [Array.getElem?_eq_getElem ho]
        exact List.mem_map.2 ⟨e, List.mem_filter.2 ⟨by simpa using he, hb⟩, rfl⟩
      have := depB_pred hD h1 this
      omega
    | succ k ih =>
      intro i hi h1 h2
      have ho : i < ops.size := by omega
      by_cases hall : ∀ p ∈ predsOf .any ops i, listed.getD p false = true
      · refine ⟨i, mem_ready.2 ⟨by have h3 : i < listed.size := by omega
                                   simpa [h3] using h2, ops[i], Array.getElem?_eq_getElem ho, fun e he hb => hall _ ?_⟩⟩
        unfold predsOf; rw [Array.getElem?_eq_getElem ho]
        exact List.mem_map.2 ⟨e, List.mem_filter.2 ⟨by simpa using he, hb⟩, rfl⟩
      · have : ∃ p, p ∈ predsOf .any ops i ∧ listed.getD p false = false := Classical.byContradiction fun hc => hall fun p hp => by
          cases hv : listed.getD p false with
          | true => rfl
          | false => exact absurd ⟨p, hp, hv⟩ hc
        obtain ⟨p, hp, hv⟩ := this
        have := depB_pred hD h1 hp
        exact ih p (by omega) (by omega) hv
  obtain ⟨i, h1, h2⟩ := ex
  obtain ⟨i, hi⟩ := key i i (Nat.le_refl _) h1 h2
  exact List.ne_nil_of_mem hi
theorem preds_of_ready {j : Nat} {listed : Array Bool} (hj : j ∈ Region.ready .any ops listed) : ∀ p ∈ predsOf .any ops j, listed.getD p false = true := by
 obtain ⟨-, o, ho, hall⟩ := mem_ready.1 hj
 intro p hp
 unfold predsOf at hp
 simp only [ho, List.mem_map, List.mem_filter] at hp
 obtain ⟨e, ⟨he, hb⟩, rfl⟩ := hp
 exact hall e (by simpa using he) hb
theorem wpAny_ty {n s : Nat} {l : List Oper} {T : Nat → Value → World → Prop} {w0 : World} {a0 : Act} {Q : Exit → Act → World → Prop} (hT : ∀ i, Stays (T i)) (hsel : Region.noSelect l.toArray = true) (hn : n ≤ l.length)
  (hB : barB .any l.toArray n = true) (hN : nodupD (l.take n) = true) (hD : depB l.toArray n = true)
  (hops : ∀ j o, j < n → l[j]? = some o → ∀ v w, Below w0.heap.size w0 w → (∀ p ∈ predsOf .any l.toArray j, T p (v p) w) → TyAt P l.toArray o (putsV (l.take n) 0 v a0) w (T j))
  (hend : ∀ v w, Below w0.heap.size w0 w → (∀ i, i < n → T i (v i) w) → wpAny P .any l.toArray Q s (canonL l.length n) (putsV (l.take n) 0 v a0) w) :
  ∀ (m : Nat) (listed : Array Bool) (v : Nat → Value) (w : World), left n listed = m → closedL .any l.toArray listed → sufL n l.toArray listed → Below w0.heap.size w0 w →
   (∀ i, i < n → listed.getD i false = true → T i (v i) w) → wpAny P .any l.toArray Q (s + m) listed (putsIf (l.take n) 0 (fun i => listed.getD i false) v a0) w := by
 intro m
 have hlen : (l.take n).length = n := by rw [List.length_take]; omega
 induction m with
 | zero =>
  intro listed v w hl hc hu hb ht
  have hd := left_zero hl
  rw [putsIf_all (l.take n) 0 a0 fun i _ h2 => doneN_iff.1 hd i (by omega)]
  have e := canon_of hu hd
  rw [show l.toArray.size = l.length by simp] at e
  rw [e]
  exact hend v w hb fun i hi => ht i hi (doneN_iff.1 hd i hi)
 | succ m ih =>
  intro listed v w hl hc hu hb ht
  have hnd := left_some hl
  refine ⟨fun h0 => absurd h0 (ready_some hu.1 (by simpa using hn) hD hl), fun j hj => ?_⟩
  have hjn := bar hB hc hj hnd
  obtain ⟨hju, o, ho, -⟩ := mem_ready.1 hj
  have hpre := preds_of_ready hj
  have hol : l[j]? = some o := by simpa using ho
  have hjs : j < l.toArray.size := (Array.getElem?_eq_some_iff.1 ho).1
  have hty := hops j o hjn hol v w hb fun p hp => ht p (by have := depB_pred hD hjn hp; omega) (hpre p hp)
  have hag : ∀ t ∈ o.looksAt l.toArray, (putsIf (l.take n) 0 (fun i => listed.getD i false) v a0).tmps[t]? = (putsV (l.take n) 0 v a0).tmps[t]? := fun t ht' =>
   get_puts (l.take n) 0 a0 a0 rfl fun i o' ho' hd' => by
    have hin : i < n := by rw [← hlen]; exact (List.getElem?_eq_some_iff.1 ho').1
    have ho2 : l.toArray[i]? = some o' := by rw [List.getElem?_take, if_pos hin] at ho'; simpa using ho'
    rw [Nat.zero_add]
    exact hpre i (depB_looks hD hjn hin ho ho2 ht' hd')
  have step : ∀ u w', Below w.heap.size w w' → T j u w' → wpAny P .any l.toArray Q (s + m) (listed.setIfInBounds j true) ((putsIf (l.take n) 0 (fun i => listed.getD i false) v a0).put o.dst u) w' := by
   intro u w' hw' hu'
   have e := put_at (v := v) (v' := fun i => if i = j then u else v i) (b := fun i => listed.getD i false) (b' := fun i => (listed.setIfInBounds j true).getD i false) (j := j) (u := u) (unl hju) (by simp [hu.1]; simpa using hjs) (by simp)
    (fun i hi => ⟨getD_set_ne false fun e => hi e.symm, by simp [hi]⟩) (l.take n) 0 a0 o hN (Nat.zero_le _) (by rw [Nat.sub_zero, List.getElem?_take, if_pos hjn]; exact hol)
   rw [e]
   refine ih _ _ w' (left_set (ops := l.toArray) hu.1 hjn hjs (unl hju) hl) (hc.set hj) ⟨by simpa using hu.1, fun k hk hks => by rw [getD_set_ne true (by omega)]; exact hu.2 k hk hks⟩ (hb.trans (hw'.mono hb.size)) fun i hi hli => ?_
   by_cases e : i = j
   ·subst e; simpa using hu'
   ·rw [getD_set_ne false fun e' => e e'.symm] at hli
    simp only [if_neg e]
    exact hT i _ _ _ hw' (ht i hi hli)
  unfold wpOp
  simp only [ho]
  unfold TyAt at hty
  rw [← wanted_same hag] at hty
  by_cases hw : Region.wanted o (yielded l.toArray (putsIf (l.take n) 0 (fun i => listed.getD i false) v a0).tmps) = true
  ·simp only [hw, if_true] at hty ⊢
   refine .inl ?_
   unfold Oper.wp
   rw [exec_same (fun cs b => Region.noSelect_spec hsel j o cs b ho) hag]
   generalize (execOp (putsV (l.take n) 0 v a0).eval o).run P w = r at *
   cases r with
   | ok nx w' =>
    cases nx <;> simp only [tyUpon] at hty <;> simp only [Oper.upon]
    case value u => exact step u w' hty.1 hty.2
    case skip => exact step undef w' hty.1 hty.2
    case enter f args =>
     obtain ⟨rfl, hcall⟩ := hty
     exact hcall.mono fun e w'' ⟨u, he, h1, h2⟩ => by subst he; exact step u w'' h2 h1
   | halt x w' => simp only [tyUpon] at hty
  ·simp only [hw] at hty ⊢
   exact step undef w (Below.refl _ _) hty
def tyB (n : Nat) (l : List Oper) : Bool :=
 Region.noSelect l.toArray && decide (n ≤ l.length) && barB .any l.toArray n && nodupD (l.take n) && depB l.toArray n && seqB .any l.toArray (l.length - n) n (canonL l.length n)
/-- **A region whose first n operations each give a value of a property; then the others, in their order.** -/
theorem region_ty (n : Nat) (T : Nat → Value → World → Prop) {id : Nat} {Q : Exit → Act → World → Prop} {a : Act} {w : World} {l : List Oper} (hm : P.follows .mixedOrders = true) (hB : tyB n l = true) (hT : ∀ i, Stays (T i))
  (hops : ∀ j o, j < n → l[j]? = some o → ∀ v w1, Below w.drew.heap.size w.drew w1 → (∀ p ∈ predsOf .any l.toArray j, T p (v p) w1) → TyAt P l.toArray o (putsV (l.take n) 0 v a) w1 (T j))
  (hend : ∀ v w1, Below w.drew.heap.size w.drew w1 → (∀ i, i < n → T i (v i) w1) → wpList P l.toArray Q (l.drop n) (putsV (l.take n) 0 v a) w1) : (Code.region id l.toArray true).wp P Q a w := by
 simp only [tyB, Bool.and_eq_true, decide_eq_true_eq] at hB
 obtain ⟨⟨⟨⟨⟨hs, hn⟩, hb⟩, hN⟩, hD⟩, hq⟩ := hB
 refine wp_region_any hm ?_
 have hrep : ∀ i, (Array.replicate l.length false).getD i false = false := fun i => by
  rcases Nat.lt_or_ge i l.length with h' | h' <;> simp [h']
 have h0 : closedL .any l.toArray (Array.replicate l.length false) := fun j o _ hl => by rw [hrep] at hl; cases hl
 have hleft : left n (Array.replicate l.length false) = n := by
  unfold left
  rw [List.countP_eq_length.2 fun i _ => by rw [hrep]; rfl, List.length_range]
 have h2 := wpAny_ty (P := P) (s := l.length - n) (Q := Q) (a0 := a) hT hs hn hb hN hD hops (fun v w1 h1 h2 => by
   have h3 := wpAny_of_seq (md := .any) (P := P) (Q' := Q) (l.drop n) n (canonL l.length n) (putsV (l.take n) 0 v a) w1 (fun j hj => by simp [List.getElem?_drop]) (by rw [List.length_drop]; exact hq) (hend v w1 h1 h2)
   rw [List.length_drop] at h3
   exact h3) n (Array.replicate l.length false) (fun _ => undef) w.drew hleft h0 ⟨by simp, fun j _ hj => by simp at hj; simp [hj]⟩ (Below.refl _ _) (fun i _ hl => by rw [hrep] at hl; cases hl)
 rw [putsIf_none (l.take n) 0 a fun i _ _ => hrep i, Nat.sub_add_cancel hn] at h2
 simpa using h2
theorem stays_nil : ∀ i : Nat, Stays (([] : List (Value → World → Prop)).getD i (fun _ _ => True)) := fun i => by simp [Stays]
theorem stays_cons {T : Value → World → Prop} {L : List (Value → World → Prop)} (h : Stays T) (hL : ∀ i : Nat, Stays (L.getD i (fun _ _ => True))) : ∀ i : Nat, Stays ((T :: L).getD i (fun _ _ => True))
 | 0 => h
 | i + 1 => by simpa using hL i
theorem stays_eq (c : Value) : Stays (fun u _ => u = c) := fun _ _ _ _ h => h
/-- The operations, one obligation each. -/
def hopsR (P : Program) (ops : Array Oper) (T : Nat → Value → World → Prop) (w0 : World) (F : (Nat → Value) → Act) : List Oper → Nat → Prop
 | [], _ => True
 | o :: l, k => (∀ v w1, Below w0.heap.size w0 w1 → (∀ p ∈ predsOf .any ops k, T p (v p) w1) → TyAt P ops o (F v) w1 (T k)) ∧ hopsR P ops T w0 F l (k + 1)
theorem hops_of {T : Nat → Value → World → Prop} {w0 : World} {F : (Nat → Value) → Act} : ∀ (l : List Oper) (k : Nat), hopsR P ops T w0 F l k → ∀ j o, l[j]? = some o → ∀ v w1, Below w0.heap.size w0 w1 → (∀ p ∈ predsOf .any ops (k + j), T p (v p) w1) → TyAt P ops o (F v) w1 (T (k + j))
 | [], _, _, j, o, h => by simp at h
 | o' :: l, k, hh, 0, o, h => by
  simp only [List.getElem?_cons_zero, Option.some.injEq] at h
  subst h; exact hh.1
 | o' :: l, k, hh, j + 1, o, h => by
  have := hops_of l (k + 1) hh.2 j o (by simpa using h)
  rwa [show k + 1 + j = k + (j + 1) by omega] at this
/-- region_ty, with its properties as a list. -/
theorem region_tl (n : Nat) (L : List (Value → World → Prop)) {id : Nat} {Q : Exit → Act → World → Prop} {a : Act} {w : World} {l : List Oper} (hm : P.follows .mixedOrders = true) (hB : tyB n l = true) (hT : ∀ i, Stays (L.getD i (fun _ _ => True)))
  (hops : hopsR P l.toArray (fun i => L.getD i (fun _ _ => True)) w.drew (fun v => putsV (l.take n) 0 v a) (l.take n) 0)
  (hend : ∀ v w1, Below w.drew.heap.size w.drew w1 → (∀ i, i < n → L.getD i (fun _ _ => True) (v i) w1) → wpList P l.toArray Q (l.drop n) (putsV (l.take n) 0 v a) w1) : (Code.region id l.toArray true).wp P Q a w :=
 region_ty n (fun i => L.getD i (fun _ _ => True)) hm hB hT (fun j o hj ho v w1 hb hp => by
  have := hops_of (l.take n) 0 hops j o (by rw [List.getElem?_take, if_pos hj]; exact ho) v w1 hb (by rw [Nat.zero_add]; exact hp)
  rwa [Nat.zero_add] at this) hend
end
end Go.Proofs.YthffglapmkkohaaGreatDoor
namespace Go.Proofs.YthffglapmkkohaaGreatDoor
open Go.RowKit
attribute [local irreducible] lo hs sm s64 c64 d64 b64 mh ml pd pc qd qc val hiB str cmpI srD lz nb zl zh zs fe
def setCells (c : List Value) : Nat → List Value → List Value
 | _, [] => c
 | i, v :: vs => setCells (c.set i v) (i + 1) vs
theorem setAll_hdn {k : Nat} : ∀ (c : List Value) (o : Nat) (W : World) (c0 : List Value), o + c.length ≤ c0.length → Hd W k c0 → Hd (setAll W k o c) k (setCells c0 o c)
 | [], _, _, _, _, h => h
 | v :: vs, o, W, c0, hl, h => setAll_hdn vs (o + 1) _ (c0.set o v) (by rw [List.length_set]; rw [List.length_cons] at hl; omega) (hd_set h o v (by rw [List.length_cons] at hl; omega))
theorem GL.putn {w0 W : World} {L : List (Nat × List Value)} (h : GL w0 W L) (i k : Nat) (c0 : List Value) (hi : L[i]? = some (k, c0)) (o : Nat) (c : List Value) (hc : o + c.length ≤ c0.length) :
  GL w0 (setAll W k o c) (L.set i (k, setCells c0 o c)) := by
 have hu := setAll_upd k c o W
 obtain ⟨hil, he⟩ := List.getElem?_eq_some_iff.1 hi
 have hm : (k, c0) ∈ L := he ▸ List.getElem_mem hil
 have hk := h.all _ hm
 have hd := setAll_hdn c o W c0 hc hk.2
 have hmap : (L.set i (k, setCells c0 o c)).map (·.1) = L.map (·.1) := by
  rw [List.map_set]
  apply List.ext_getElem?
  intro j
  by_cases e : i = j
  ·subst e
   rw [List.getElem?_set_self (by simpa using hil), List.getElem?_map, hi]; rfl
  ·rw [List.getElem?_set_ne e]
 refine ⟨h.bl.trans (hu.below hk.1), fun p hp => ?_, by rw [hmap]; exact h.nd⟩
 obtain ⟨j, hj, hpj⟩ := List.getElem_of_mem hp
 by_cases e : i = j
 ·subst e
  rw [List.getElem_set_self] at hpj
  subst hpj
  exact ⟨hk.1, hd⟩
 ·rw [List.getElem_set_ne e] at hpj
  rw [List.length_set] at hj
  have hp' : p ∈ L := hpj ▸ List.getElem_mem hj
  have hne : p.1 ≠ k := fun e2 => by
   have h1 : (L.map (·.1))[i]? = some k := by rw [List.getElem?_map, hi]; rfl
   have h2 : (L.map (·.1))[j]? = some k := by rw [List.getElem?_map, List.getElem?_eq_getElem hj, hpj]; simp [e2]
   exact e ((List.getElem?_inj (by simpa using hil) h.nd).1 (h1.trans h2.symm))
  exact ⟨(h.all p hp').1, hu.hd hne (h.all p hp').2⟩
theorem setCells_app : ∀ (c p r : List Value) (o : Nat), setCells (p ++ r) (p.length + o) c = p ++ setCells r o c
 | [], _, _, _ => rfl
 | v :: c, p, r, o => by
  show setCells ((p ++ r).set (p.length + o) v) (p.length + o + 1) c = p ++ setCells (r.set o v) (o + 1) c
  rw [List.set_append_right _ _ (Nat.le_add_right _ _), Nat.add_sub_cancel_left, Nat.add_assoc, setCells_app c p (r.set o v) (o + 1)]
theorem setF_frC : ∀ (L : List Rat) (i : Nat) (q : Rat), i < L.length → setCells (frCs L) (i * 5) (frC q) = frCs (L.set i q)
 | x :: L, 0, q, _ => by
  show setCells (frC x ++ frCs L) 0 (frC q) = frC q ++ frCs L
  rfl
 | x :: L, i + 1, q, h => by
  have ih := setF_frC L i q (by simpa using h)
  have e := setCells_app (frC q) (frC x) (frCs L) (i * 5)
  rw [frC_length] at e
  show setCells (frC x ++ frCs L) ((i + 1) * 5) (frC q) = frC x ++ frCs (L.set i q)
  rw [show (i + 1) * 5 = 5 + i * 5 by omega, e, ih]
theorem frCs_at : ∀ (L : List Rat) (i j : Nat) (h : i < L.length), j < 5 → (frCs L)[i * 5 + j]? = (frC (L[i]'h))[j]?
 | x :: L, 0, j, _, hj => by
  show (frC x ++ frCs L)[0 * 5 + j]? = _
  rw [Nat.zero_mul, Nat.zero_add, List.getElem?_append_left (by rw [frC_length]; exact hj)]; rfl
 | x :: L, i + 1, j, h, hj => by
  have ih := frCs_at L i j (by simpa using h) hj
  show (frC x ++ frCs L)[(i + 1) * 5 + j]? = _
  rw [List.getElem?_append_right (by rw [frC_length]; omega), frC_length, show (i + 1) * 5 + j - 5 = i * 5 + j by omega, ih]; rfl
theorem hd_fs {w : World} {g : Nat} {L : List Rat} (h : Hd w g (frCs L)) : FS w g L := by
 refine ⟨fun i hi => ?_, h.lt⟩
 have key : ∀ (j : Nat) (v : Value), j < 5 → (frC (L[i]'hi))[j]? = some v → w.cell? ⟨g, i * 5 + j, none⟩ = some v := fun j v hj hv => by
  rw [← frCs_at L i j hi hj] at hv
  obtain ⟨h1, h2⟩ := List.getElem?_eq_some_iff.1 hv
  rw [h.cell _ h1, h2]
 exact ⟨key 0 _ (by decide) rfl, key 1 _ (by decide) rfl, key 2 _ (by decide) rfl, key 3 _ (by decide) rfl, key 4 _ (by decide) rfl⟩
/-- A store into a row of fractions. -/
theorem GL.putF {w0 W : World} {L : List (Nat × List Value)} (h : GL w0 W L) (i k : Nat) (l : List Rat) (hi : L[i]? = some (k, frCs l)) (o : Nat) (q : Rat) (ho : o < l.length) :
  GL w0 (((((W.setCell ⟨k, o * 5, none⟩ (.int .u64 ((zl q.num : Nat) : Int))).setCell ⟨k, o * 5 + 1, none⟩ (.string (zh q.num))).setCell ⟨k, o * 5 + 2, none⟩ (.bool (zs q.num))).setCell ⟨k, o * 5 + 3, none⟩ (.int .u64 ((lo (fe q) : Nat) : Int))).setCell ⟨k, o * 5 + 4, none⟩ (.string (hs (fe q)))) (L.set i (k, frCs (l.set o q))) := by
 have hp := h.putn i k (frCs l) hi (o * 5) (frC q) (by rw [frCs_length, frC_length]; omega)
 rw [setF_frC l o q ho] at hp
 exact hp
theorem infoFr : (Tryz.prog.info? 36).map (fun i => (i.zero, i.size, i.bytes)) = some (some (.agg #[.int .u64 0, .string ⟨#[]⟩, .bool false, .int .u64 0, .string ⟨#[]⟩]), 5, 56) := by kernel_rfl
theorem frC_zero : frC 0 = [.int .u64 0, .string ⟨#[]⟩, .bool false, .int .u64 0, .string ⟨#[]⟩] := by
 have h := frV_q0
 simpa [fracV, frC] using h
theorem made_zerosF : ∀ (n : Nat), madeCells (Value.cells (.agg #[.int .u64 0, .string ⟨#[]⟩, .bool false, .int .u64 0, .string ⟨#[]⟩])) (n * 5) = (frCs (List.replicate n 0)).toArray := by
 intro n
 apply Array.ext_getElem?
 intro i
 have hc : Value.cells (.agg #[.int .u64 0, .string ⟨#[]⟩, .bool false, .int .u64 0, .string ⟨#[]⟩]) = #[.int .u64 0, .string ⟨#[]⟩, .bool false, .int .u64 0, .string ⟨#[]⟩] := rfl
 have e2 : (frCs (List.replicate n 0)).toArray[i]? = (frCs (List.replicate n 0))[i]? := by simp
 rcases Nat.lt_or_ge i (n * 5) with h | h
 ·have hl : i / 5 < (List.replicate n (0 : Rat)).length := by rw [List.length_replicate]; omega
  have e := frCs_at (List.replicate n 0) (i / 5) (i % 5) hl (Nat.mod_lt _ (by decide))
  rw [show i / 5 * 5 + i % 5 = i by omega, List.getElem_replicate, frC_zero] at e
  rw [e2, e, hc]
  simp only [madeCells, Array.getElem?_map, Array.getElem?_range, h, if_true, Option.map_some]
  have h5 := Nat.mod_lt i (show 0 < 5 by decide)
  have hi5 : i % 5 = 0 ∨ i % 5 = 1 ∨ i % 5 = 2 ∨ i % 5 = 3 ∨ i % 5 = 4 := by omega
  show some (_ : Value) = _
  rcases hi5 with h | h | h | h | h <;> (show some (#[_, _, _, _, _][i % 5]!) = _) <;> rw [h] <;> rfl
 ·rw [Array.getElem?_eq_none (by rw [size_madeCells]; exact h), e2, List.getElem?_eq_none (by rw [frCs_length, List.length_replicate]; exact h)]
theorem add0H (g j : Nat) : (⟨g, 0, none⟩ : Addr).add j = ⟨g, j, none⟩ := by
 unfold Addr.add
 by_cases h : j = 0
 ·subst h; simp
 ·simp [h]
theorem hd_newsH {w : World} {k : Nat} {c : List Value} (h : Hd w k c) : ∀ (j : Nat) (u : Value), c[j]? = some u → w.cell? ((⟨k, 0, none⟩ : Addr).add j) = some u := by
 intro j u hu
 obtain ⟨hj, he⟩ := List.getElem?_eq_some_iff.1 hu
 rw [add0H, h.cell j hj, he]
theorem gl_grown {w0 W W' : World} {L : List (Nat × List Value)} (h : GL w0 W L) {row : Option Nat} (hg : W.grownBy W' row) (hr : ∀ j, row = some j → w0.heap.size ≤ j ∧ ∀ p ∈ L, p.1 ≠ j) : GL w0 W' L := by
 refine ⟨h.bl.grown hg h.bl.size (fun j hj => (hr j hj).1), fun p hp => ⟨(h.all p hp).1, ?_⟩, h.nd⟩
 have hd := (h.all p hp).2
 have hbl := hg.block p.1 hd.lt (fun e => (hr p.1 e.symm).2 p hp rfl)
 refine ⟨fun i hi => (World.cell?_of_block (a := ⟨p.1, i, none⟩) hbl).trans (hd.cell i hi), fun i => ?_, Nat.lt_of_lt_of_le hd.lt hg.size, ?_⟩
 ·have := hd.frz i
  unfold World.frozen? at this ⊢
  simp only at this ⊢
  rw [hbl]; exact this
 ·obtain ⟨arr, t, h1, h2⟩ := hd.row
  exact ⟨arr, t, by rw [hbl]; exact h1, h2⟩
abbrev PV8 (l : List Rat) : Value → World → Prop := fun v w => SlQ w v l
theorem stays_slq8 (l : List Rat) : Stays (PV8 l) := fun _ _ _ hb h => h.below hb
theorem slq_pos {w : World} {ao : Option Addr} {n c : Nat} {l : List Rat} (h : SlQ w (.slice ao n c) l) (h0 : 0 < l.length) : ∃ g, ao = some ⟨g, 0, none⟩ ∧ n = l.length ∧ FS w g l := by
 rcases h with ⟨a, c2, e, rfl⟩ | ⟨g, c2, e, hf⟩
 ·exact absurd h0 (Nat.lt_irrefl _)
 ·simp only [Value.slice.injEq] at e
  obtain ⟨rfl, rfl, -⟩ := e
  exact ⟨g, rfl, rfl, hf⟩
theorem makeV (w : World) (c : Int) (n : Nat) (hc : c = n) (h : n ≤ 1000000) :
  (Instr.makeSlice 28 (.int .i64 c) (.int .i64 c)).run Tryz.prog w = .ok (.slice (some ⟨w.heap.size, 0, none⟩) n n) (w.alloc (.cells (frCs (List.replicate n 0)).toArray 36)) := by
 subst hc
 obtain ⟨i, hi, hz, h1, h2⟩ := info_parts infoFr
 have := run_make (P := Tryz.prog) w 28 36 i _ Tryz.underlying28 hi hz .i64 .i64 (n : Int) (n : Int) (by omega) (Int.le_refl _) (by rw [h2]; omega) (by omega)
 rw [this, h1]
 simp only [Int.toNat_natCast]
 rw [made_zerosF]
/-- A vector that is being filled: the first k elements are f's. -/
def rowV (f : Nat → Rat) (n k : Nat) : List Rat := tabV k f ++ List.replicate (n - k) 0
theorem rowV_len (f : Nat → Rat) (n k : Nat) (h : k ≤ n) : (rowV f n k).length = n := by unfold rowV; simp [tabV_len]; omega
theorem rowV_zero (f : Nat → Rat) (n : Nat) : rowV f n 0 = List.replicate n 0 := by unfold rowV; simp [tabV_zero]
theorem rowV_end (f : Nat → Rat) (n : Nat) : rowV f n n = tabV n f := by unfold rowV; simp
theorem rowV_step (f : Nat → Rat) (n k : Nat) (h : k < n) : (rowV f n k).set k (f k) = rowV f n (k + 1) := by
 unfold rowV
 obtain ⟨m, hm⟩ : ∃ m, n - k = m + 1 := ⟨n - k - 1, by omega⟩
 rw [hm, show n - (k + 1) = m by omega, List.set_append_right _ _ (by rw [tabV_len]; omega), tabV_succ, tabV_len]
 simp [List.replicate_succ]
theorem rep_tab (n : Nat) : List.replicate n (0 : Rat) = tabV n fun _ => 0 := by
 apply List.ext_getElem (by rw [tabV_len, List.length_replicate])
 intro i h1 h2
 rw [tabV_get, List.getElem_replicate]
/-- A vector that a call has made. -/
def NV (B : Nat) (l : List Rat) (v : Value) (w : World) : Prop := ∃ g, v = .slice (some ⟨g, 0, none⟩) l.length l.length ∧ B ≤ g ∧ Hd w g (frCs l)
theorem NV.below {B : Nat} {l : List Rat} {v : Value} {w w' : World} (h : NV B l v w) (hb : Below w.heap.size w w') : NV B l v w' := by
 obtain ⟨g, h1, h2, h3⟩ := h
 exact ⟨g, h1, h2, h3.below hb⟩
theorem NV.slq {B : Nat} {l : List Rat} {v : Value} {w : World} (h : NV B l v w) : SlQ w v l := by
 obtain ⟨g, h1, h2, h3⟩ := h
 exact .inr ⟨g, _, h1, hd_fs h3⟩
theorem NV.mono {B C : Nat} {l : List Rat} {v : Value} {w : World} (h : NV B l v w) (hc : C ≤ B) : NV C l v w := by
 obtain ⟨g, h1, h2, h3⟩ := h
 exact ⟨g, h1, Nat.le_trans hc h2, h3⟩
/-- A slice of vectors. -/
def VLs (w : World) (v : Value) (L : List (List Rat)) : Prop := ∃ ao c g, v = .slice ao L.length c ∧ (0 < L.length → ao = some ⟨g, 0, none⟩ ∧ g < w.heap.size) ∧ ∀ i (h : i < L.length), ∃ u, w.cell? ⟨g, i, none⟩ = some u ∧ SlQ w u (L[i]'h)
theorem VLs.below {w w' : World} {v : Value} {L : List (List Rat)} (h : VLs w v L) (hb : Below w.heap.size w w') : VLs w' v L := by
 obtain ⟨ao, c, g, h1, h2, h3⟩ := h
 refine ⟨ao, c, g, h1, fun h => ⟨(h2 h).1, Nat.lt_of_lt_of_le (h2 h).2 hb.size⟩, fun i hi => ?_⟩
 obtain ⟨u, h4, h5⟩ := h3 i hi
 exact ⟨u, (hb.cell (p := ⟨g, i, none⟩) (h2 (by omega)).2).trans h4, h5.below hb⟩
theorem VLs.keeps (v : Value) (L : List (List Rat)) : Keeps (fun w => VLs w v L) := fun _ _ hb h => h.below hb
theorem VLs.nil (w : World) (ao : Option Addr) (c : Nat) : VLs w (.slice ao 0 c) [] := ⟨ao, c, 0, rfl, fun h => absurd h (Nat.lt_irrefl _), fun i h => absurd h (Nat.not_lt_zero _)⟩
theorem slq_len {w : World} {v : Value} {l : List Rat} (h : SlQ w v l) : ∃ ao c, v = .slice ao l.length c ∧ (0 < l.length → ∃ g, ao = some ⟨g, 0, none⟩ ∧ FS w g l) := by
 rcases h with ⟨ao, c, h1, h2⟩ | ⟨g, c, h1, h2⟩
 ·subst h2; exact ⟨ao, c, h1, fun h => by simp at h⟩
 ·exact ⟨_, c, h1, fun _ => ⟨g, rfl, h2⟩⟩
end Go.Proofs.YthffglapmkkohaaGreatDoor
namespace Go.Proofs.YthffglapmkkohaaGreatDoor.Rx
open Go.RowKit
/-- The number that digits spell. -/
def tv : List Nat → Nat
 | [] => 0
 | d :: l => d + 10000 * tv l
theorem tv_nil : tv [] = 0 := rfl
/-- The digits of a number. -/
def td (n : Nat) : List Nat := if h : n = 0 then [] else n % 10000 :: td (n / 10000)
theorem td_zero : td 0 = [] := by rw [td, dif_pos rfl]
theorem td_pos {n : Nat} (h : n ≠ 0) : td n = n % 10000 :: td (n / 10000) := by rw [td, dif_neg h]
theorem td_lt (n : Nat) : ∀ d ∈ td n, d < 10000 := by
 induction n using Nat.strongRecOn with
 | _ n ih =>
  by_cases h : n = 0
  ·rw [h, td_zero]; intro d hd; cases hd
  ·rw [td_pos h]
   intro d hd
   rcases List.mem_cons.1 hd with rfl | hd
   ·omega
   ·exact ih (n / 10000) (by omega) d hd
theorem td_nil {n : Nat} : td n = [] ↔ n = 0 := by
 by_cases h : n = 0
 ·rw [h, td_zero]; simp
 ·rw [td_pos h]; simp [h]
theorem tv_append (l m : List Nat) : tv (l ++ m) = tv l + 10000 ^ l.length * tv m := by
 induction l with
 | nil => simp [tv]
 | cons d l ih => rw [List.cons_append, tv, ih, tv, List.length_cons, Nat.pow_succ, Nat.mul_add, Nat.mul_comm _ 10000, Nat.mul_assoc]; omega
theorem tv_lt {l : List Nat} (h : ∀ d ∈ l, d < 10000) : tv l < 10000 ^ l.length := by
 induction l with
 | nil => exact Nat.one_pos
 | cons d l ih =>
  have h1 := ih fun x hx => h x (List.mem_cons_of_mem _ hx)
  have h2 := h d List.mem_cons_self
  rw [tv, List.length_cons, Nat.pow_succ]
  omega
theorem tv_zeros (k : Nat) : tv (List.replicate k 0) = 0 := by
 induction k with
 | zero => rfl
 | succ k ih => rw [List.replicate_succ, tv, ih]
theorem td_length {n k : Nat} : (td n).length ≤ k ↔ n < 10000 ^ k := by
 induction k generalizing n with
 | zero =>
  rw [Nat.pow_zero]
  constructor
  ·intro h; have := td_nil.1 (List.eq_nil_of_length_eq_zero (l := td n) (by omega)); omega
  ·intro h; rw [show n = 0 by omega, td_zero]; exact Nat.le_refl _
 | succ k ih =>
  by_cases h : n = 0
  ·rw [h, td_zero]; exact ⟨fun _ => Nat.pow_pos (by omega), fun _ => Nat.zero_le _⟩
  ·rw [td_pos h, List.length_cons, Nat.pow_succ]
   have := ih (n := n / 10000)
   constructor
   ·intro h1; have := this.1 (by omega); omega
   ·intro h1; have := this.2 (by omega); omega
theorem tv_snoc (l : List Nat) (d : Nat) : tv (l ++ [d]) = tv l + 10000 ^ l.length * d := by rw [tv_append]; simp [tv]
theorem tv_take_getElem {l : List Nat} {k : Nat} (h : k < l.length) : tv (l.take (k + 1)) = tv (l.take k) + 10000 ^ k * l[k] := by
 rw [List.take_succ_eq_append_getElem h, tv_snoc, List.length_take, Nat.min_eq_left (Nat.le_of_lt h)]
/-- A digit, or 0 behind the last one. -/
def dg (l : List Nat) (i : Nat) : Nat := l.getD i 0
theorem dg_lt {l : List Nat} (h : ∀ d ∈ l, d < 10000) (i : Nat) : dg l i < 10000 := by
 unfold dg
 rcases Nat.lt_or_ge i l.length with hi | hi
 ·simp [hi]; exact h _ (List.getElem_mem hi)
 ·simp [hi]
theorem dg_in {l : List Nat} {i : Nat} (h : i < l.length) : dg l i = l[i] := by unfold dg; simp [h]
theorem dg_out {l : List Nat} {i : Nat} (h : l.length ≤ i) : dg l i = 0 := by unfold dg; simp [h]
theorem tv_take (l : List Nat) (k : Nat) : tv (l.take (k + 1)) = tv (l.take k) + 10000 ^ k * dg l k := by
 rcases Nat.lt_or_ge k l.length with h | h
 ·rw [tv_take_getElem h, dg_in h]
 ·rw [dg_out h, List.take_of_length_le (by omega), List.take_of_length_le h]; omega
/-- A slice of ints that can be read. -/
structure Sd (w : World) (a : Addr) (l : List Nat) : Prop where
 cell : ∀ (i : Nat) (h : i < l.length), w.cell? (a.add i) = some (.int .i64 ((l[i] : Nat) : Int))
 blk : a.block < w.heap.size
theorem addB (a : Addr) (i : Nat) : (a.add i).block = a.block := by unfold Addr.add; split <;> rfl
theorem Sd.below {w w' : World} {a : Addr} {l : List Nat} (h : Sd w a l) (hb : Below w.heap.size w w') : Sd w' a l :=
 ⟨fun i hi => (hb.cell (p := a.add i) (by rw [addB]; exact h.blk)).trans (h.cell i hi), Nat.lt_of_lt_of_le h.blk hb.size⟩
theorem Sd.left {w : World} {a : Addr} {l m : List Nat} (h : Sd w a (l ++ m)) : Sd w a l :=
 ⟨fun i hi => by rw [h.cell i (by rw [List.length_append]; omega), List.getElem_append_left hi], h.blk⟩
def Sl (w : World) (v : Value) (l : List Nat) : Prop := (∃ ao c, v = .slice ao 0 c ∧ l = [] ∧ (ao = none → c = 0)) ∨ ∃ a c, v = .slice (some a) l.length c ∧ l.length ≤ c ∧ Sd w a l
theorem Sl.below {w w' : World} {v : Value} {l : List Nat} (h : Sl w v l) (hb : Below w.heap.size w w') : Sl w' v l := by
 rcases h with h | ⟨a, c, h1, h2, h3⟩
 ·exact .inl h
 ·exact .inr ⟨a, c, h1, h2, h3.below hb⟩
theorem Sl.form {w : World} {v : Value} {l : List Nat} (h : Sl w v l) : ∃ ao c, v = .slice ao l.length c := by
 rcases h with ⟨ao, c, rfl, rfl, -⟩ | ⟨a, c, rfl, _⟩
 ·exact ⟨_, _, rfl⟩
 ·exact ⟨_, _, rfl⟩
theorem Sl.nil (w : World) : Sl w (.slice none 0 0) [] := .inl ⟨_, _, rfl, rfl, fun _ => rfl⟩
theorem Sl.drew {w : World} {v : Value} {l : List Nat} (h : Sl w v l) : Sl w.drew v l := by
 rcases h with h | ⟨a, c, h1, h2, h3⟩
 ·exact .inl h
 ·exact .inr ⟨a, c, h1, h2, h3.cell, h3.blk⟩
abbrev iv (d : Nat) : Value := .int .i64 (d : Int)
end Go.Proofs.YthffglapmkkohaaGreatDoor.Rx
namespace Go.Proofs.YthffglapmkkohaaGreatDoor.Rx
open Go.RowKit
attribute [local irreducible] tv dg
end Go.Proofs.YthffglapmkkohaaGreatDoor.Rx
namespace Go.Proofs.YthffglapmkkohaaGreatDoor.Rx
open Go.RowKit
attribute [local irreducible] tv dg
/-- What the digits so far spell, with what is left. -/
theorem td_step {n k : Nat} (hk : k < (td n).length) : n / 10000 ^ k ≠ 0 ∧ (td n)[k] = n / 10000 ^ k % 10000 := by
 induction k generalizing n with
 | zero =>
  have h0 : n ≠ 0 := fun e => by rw [e, td_zero] at hk; exact absurd hk (by simp)
  simp only [Nat.pow_zero, Nat.div_one]
  refine ⟨h0, ?_⟩
  simp only [td_pos h0, List.getElem_cons_zero]
 | succ k ih =>
  have h0 : n ≠ 0 := fun e => by rw [e, td_zero] at hk; exact absurd hk (by simp)
  have hk' : k < (td (n / 10000)).length := by rw [td_pos h0, List.length_cons] at hk; omega
  have := ih hk'
  rw [Nat.div_div_eq_div_mul, Nat.mul_comm, ← Nat.pow_succ] at this
  refine ⟨this.1, ?_⟩
  simp only [td_pos h0, List.getElem_cons_succ]
  exact this.2
theorem td_end {n k : Nat} (hk : (td n).length ≤ k) : n / 10000 ^ k = 0 := Nat.div_eq_of_lt (td_length.1 hk)
end Go.Proofs.YthffglapmkkohaaGreatDoor.Rx
namespace Go.Proofs.YthffglapmkkohaaGreatDoor.Rx
open Go.RowKit
attribute [local irreducible] tv dg
/-- What Add's rounds keep. -/
structure AddS (A B S : List Nat) (i c : Nat) : Prop where
 len : S.length = i
 lt : ∀ d ∈ S, d < 10000
 car : c ≤ 1
 eq : tv S + 10000 ^ i * c = tv (A.take i) + tv (B.take i)
theorem AddS.step {A B S : List Nat} {i c : Nat} (h : AddS A B S i c) (hA : ∀ d ∈ A, d < 10000) (hB : ∀ d ∈ B, d < 10000) :
  AddS A B (S ++ [(dg A i + dg B i + c) % 10000]) (i + 1) ((dg A i + dg B i + c) / 10000) := by
 have h1 := dg_lt hA i
 have h2 := dg_lt hB i
 have h3 := h.car
 refine ⟨by rw [List.length_append, h.len]; rfl, fun d hd => ?_, by omega, ?_⟩
 ·rcases List.mem_append.1 hd with hd | hd
  ·exact h.lt d hd
  ·rw [List.mem_singleton.1 hd]; omega
 ·rw [tv_snoc, h.len, tv_take, tv_take, Nat.pow_succ]
  have h4 := h.eq
  generalize dg A i = x at *
  generalize dg B i = y at *
  have h5 : (x + y + c) % 10000 + 10000 * ((x + y + c) / 10000) = x + y + c := by omega
  have h6 : 10000 ^ i * ((x + y + c) % 10000) + 10000 ^ i * 10000 * ((x + y + c) / 10000) = 10000 ^ i * x + 10000 ^ i * y + 10000 ^ i * c := by
   rw [Nat.mul_assoc, ← Nat.mul_add, h5, Nat.mul_add, Nat.mul_add]
  generalize 10000 ^ i * ((x + y + c) % 10000) = p at *
  generalize 10000 ^ i * 10000 * ((x + y + c) / 10000) = q at *
  omega
end Go.Proofs.YthffglapmkkohaaGreatDoor.Rx
namespace Go.Proofs.YthffglapmkkohaaGreatDoor.Rx
open Go.RowKit
attribute [local irreducible] tv dg
theorem add0 (g i : Nat) : (⟨g, 0, none⟩ : Addr).add i = ⟨g, i, none⟩ := by
 unfold Addr.add
 split <;> simp_all
/-- Block g holds just these ints. -/
def IB (w : World) (g : Nat) (l : List Nat) : Prop := w.heap[g]? = some (.cells (l.map iv).toArray 3 (0, 0))
section
variable {w w' : World} {g : Nat} {l : List Nat}
theorem IB.lt (h : IB w g l) : g < w.heap.size := (Array.getElem?_eq_some_iff.1 h).1
theorem IB.cell (h : IB w g l) (i : Nat) (hi : i < l.length) : w.cell? ⟨g, i, none⟩ = some (.int .i64 ((l[i] : Nat) : Int)) := by
 rw [cell_of_row w g i _ _ _ h]; simp [hi]
theorem IB.frozen (h : IB w g l) (i : Nat) : w.frozen? ⟨g, i, none⟩ = false := frozen_of_row w g i _ _ h
theorem IB.set (h : IB w g l) (i : Nat) (d : Nat) : IB (w.setCell ⟨g, i, none⟩ (.int .i64 (d : Int))) g (l.set i d) := by
 unfold IB at *
 rw [heap_setCell_same w g i _ _ _ h]
 congr 2
 rw [List.map_set]; simp
theorem IB.keep (h : IB w g l) (hk : w'.heap[g]? = w.heap[g]?) : IB w' g l := hk.trans h
theorem IB.below {B : Nat} (h : IB w g l) (hb : Below B w w') (hg : g < B) : IB w' g l := h.keep (hb.block g hg)
theorem IB.drewN (h : IB w g l) (n : Nat) : IB (w.drewN n) g l := h
end
/-- Zeros, as make lays them. -/
def zobjI (n : Nat) : Obj := .cells ((List.replicate n 0).map iv).toArray 3
theorem IB.zeros (w : World) (n : Nat) : IB (w.alloc (zobjI n)) w.heap.size (List.replicate n 0) := heap_alloc_new w _
theorem tv_set {l : List Nat} {j : Nat} (h : j < l.length) (d : Nat) : tv (l.set j d) + 10000 ^ j * l[j] = tv l + 10000 ^ j * d := by
 induction l generalizing j with
 | nil => exact absurd h (by simp)
 | cons x l ih =>
  cases j with
  | zero => simp only [List.set_cons_zero, List.getElem_cons_zero, tv, Nat.pow_zero, Nat.one_mul]; omega
  | succ j =>
   have hj : j < l.length := by simpa using h
   have := ih (j := j) hj
   simp only [List.set_cons_succ, List.getElem_cons_succ, tv, Nat.pow_succ]
   rw [Nat.mul_comm (10000 ^ j) 10000, Nat.mul_assoc, Nat.mul_assoc]
   generalize 10000 ^ j * l[j] = p at *
   generalize 10000 ^ j * d = q at *
   omega
/-- What Mul's inner rounds keep. -/
structure MulS (A B X : List Nat) (i k c : Nat) : Prop where
 len : X.length = A.length + B.length
 lt : ∀ d ∈ X, d < 10000
 car : c < 10000
 eq : tv X + 10000 ^ (i + k) * c = tv (A.take i) * tv B + 10000 ^ i * (dg A i * tv (B.take k))
theorem MulS.step {A B X : List Nat} {i k c : Nat} (h : MulS A B X i k c) (hA : ∀ d ∈ A, d < 10000) (hB : ∀ d ∈ B, d < 10000) (hj : i + k < X.length) {s : Nat} (hs : s = X[i + k] + dg A i * dg B k + c) :
  s < 100000000 ∧ MulS A B (X.set (i + k) (s % 10000)) i (k + 1) (s / 10000) := by
 have h1 := dg_lt hA i
 have h2 := dg_lt hB k
 have h3 := h.car
 have hx := h.lt _ (List.getElem_mem hj)
 have hp : dg A i * dg B k ≤ 9999 * 9999 := Nat.mul_le_mul (by omega) (by omega)
 have hs1 : s < 100000000 := by omega
 refine ⟨hs1, by rw [List.length_set]; exact h.len, fun d hd => ?_, by omega, ?_⟩
 ·rcases List.mem_or_eq_of_mem_set hd with hd | hd
  ·exact h.lt d hd
  ·omega
 ·have e1 := tv_set hj (s % 10000)
  have e2 := h.eq
  rw [tv_take, ← Nat.add_assoc, Nat.pow_succ]
  have e3 : s % 10000 + 10000 * (s / 10000) = X[i + k] + dg A i * dg B k + c := by omega
  have e4 : 10000 ^ (i + k) * (s % 10000) + 10000 ^ (i + k) * 10000 * (s / 10000) = 10000 ^ (i + k) * X[i + k] + 10000 ^ (i + k) * (dg A i * dg B k) + 10000 ^ (i + k) * c := by
   rw [Nat.mul_assoc, ← Nat.mul_add, e3, Nat.mul_add, Nat.mul_add]
  have e5 : 10000 ^ i * (dg A i * (tv (B.take k) + 10000 ^ k * dg B k)) = 10000 ^ i * (dg A i * tv (B.take k)) + 10000 ^ (i + k) * (dg A i * dg B k) := by
   rw [Nat.mul_add, Nat.mul_add, Nat.pow_add, Nat.mul_left_comm (dg A i), Nat.mul_assoc (10000 ^ i)]
  rw [e5]
  generalize 10000 ^ (i + k) * (s % 10000) = p1 at *
  generalize 10000 ^ (i + k) * 10000 * (s / 10000) = p2 at *
  generalize 10000 ^ (i + k) * X[i + k] = p3 at *
  generalize 10000 ^ (i + k) * (dg A i * dg B k) = p4 at *
  generalize 10000 ^ (i + k) * c = p5 at *
  generalize 10000 ^ i * (dg A i * tv (B.take k)) = p6 at *
  generalize tv (A.take i) * tv B = p7 at *
  generalize tv (X.set (i + k) (s % 10000)) = p8 at *
  generalize tv X = p9 at *
  omega
/-- Behind b's digits one carry may be left, and no more. -/
theorem MulS.carry {A B X : List Nat} {i k c : Nat} (h : MulS A B X i k c) (hA : ∀ d ∈ A, d < 10000) (hB : ∀ d ∈ B, d < 10000) (hi : i < A.length) (hk : B.length + 1 ≤ k) : c = 0 := by
 rcases Nat.eq_zero_or_pos c with h0 | h0
 ·exact h0
 ·have e := h.eq
  have e2 : tv (A.take i) * tv B + 10000 ^ i * (dg A i * tv (B.take k)) = tv (A.take (i + 1)) * tv B := by
   rw [List.take_of_length_le (l := B) (by omega), tv_take, Nat.add_mul, Nat.mul_assoc]
  have e3 : tv (A.take (i + 1)) < 10000 ^ (i + 1) := by
   have := tv_lt (l := A.take (i + 1)) fun d hd => hA d (List.mem_of_mem_take hd)
   rwa [List.length_take, Nat.min_eq_left (by omega)] at this
  have e4 := tv_lt hB
  have e5 : tv (A.take (i + 1)) * tv B < 10000 ^ (i + 1) * 10000 ^ B.length := Nat.lt_of_le_of_lt (Nat.mul_le_mul_left _ (Nat.le_of_lt e4)) (Nat.mul_lt_mul_of_pos_right e3 (Nat.pow_pos (by omega)))
  rw [← Nat.pow_add] at e5
  have e6 : 10000 ^ (i + 1 + B.length) ≤ 10000 ^ (i + k) := Nat.pow_le_pow_right (by omega) (by omega)
  have e7 : 10000 ^ (i + k) ≤ 10000 ^ (i + k) * c := Nat.le_mul_of_pos_right _ h0
  omega
theorem MulS.done {A B X : List Nat} {i k : Nat} (h : MulS A B X i k 0) (hk : B.length ≤ k) : MulS A B X (i + 1) 0 0 := by
 refine ⟨h.len, h.lt, by omega, ?_⟩
 have e := h.eq
 rw [List.take_of_length_le hk] at e
 rw [List.take_zero, tv_take, Nat.add_mul, Nat.mul_assoc]
 rw [Nat.mul_zero, Nat.add_zero] at e ⊢
 rw [e]
 have : tv [] = 0 := by unfold tv; rfl
 rw [this, Nat.mul_zero, Nat.mul_zero, Nat.add_zero]
theorem MulS.start (A B : List Nat) : MulS A B (List.replicate (A.length + B.length) 0) 0 0 0 := by
 refine ⟨List.length_replicate, fun d hd => by rw [(List.mem_replicate.1 hd).2]; omega, by omega, ?_⟩
 have : tv [] = 0 := by unfold tv; rfl
 rw [tv_zeros, List.take_zero, List.take_zero, this]
 simp
end Go.Proofs.YthffglapmkkohaaGreatDoor.Rx
namespace Go.Proofs.YthffglapmkkohaaGreatDoor.Rx
open Go.RowKit
attribute [local irreducible] tv dg
/-- A slice that holds a number's digits. -/
abbrev Rn (w : World) (v : Value) (n : Nat) : Prop := Sl w v (td n)
end Go.Proofs.YthffglapmkkohaaGreatDoor.Rx
namespace Go.Proofs.YthffglapmkkohaaGreatDoor.Rx
open Go.RowKit
attribute [local irreducible] tv dg cmpI
end Go.Proofs.YthffglapmkkohaaGreatDoor.Rx
namespace Go.Proofs.YthffglapmkkohaaGreatDoor.Rx
open Go.RowKit
attribute [local irreducible] tv dg cmpI
/-- What Sub's rounds keep. -/
structure SubS (A B S : List Nat) (i c : Nat) : Prop where
 len : S.length = i
 lt : ∀ d ∈ S, d < 10000
 car : c ≤ 1
 eq : tv (A.take i) + 10000 ^ i * c = tv S + tv (B.take i)
theorem SubS.step {A B S : List Nat} {i c d c' : Nat} (h : SubS A B S i c) (hd : d < 10000) (hc : c' ≤ 1) (he : d + dg B i + c = dg A i + 10000 * c') : SubS A B (S ++ [d]) (i + 1) c' := by
 refine ⟨by rw [List.length_append, h.len]; rfl, fun x hx => ?_, hc, ?_⟩
 ·rcases List.mem_append.1 hx with hx | hx
  ·exact h.lt x hx
  ·rw [List.mem_singleton.1 hx]; exact hd
 ·rw [tv_snoc, h.len, tv_take, tv_take, Nat.pow_succ]
  have h4 := h.eq
  have h6 : 10000 ^ i * d + 10000 ^ i * dg B i + 10000 ^ i * c = 10000 ^ i * dg A i + 10000 ^ i * 10000 * c' := by
   rw [Nat.mul_assoc, ← Nat.mul_add, ← Nat.mul_add, ← Nat.mul_add, he]
  generalize 10000 ^ i * d = p1 at *
  generalize 10000 ^ i * dg B i = p2 at *
  generalize 10000 ^ i * c = p3 at *
  generalize 10000 ^ i * dg A i = p4 at *
  generalize 10000 ^ i * 10000 * c' = p5 at *
  omega
theorem SubS.done {A B S : List Nat} {c : Nat} (h : SubS A B S A.length c) (hB : B.length ≤ A.length) (hle : tv B ≤ tv A) : tv S = tv A - tv B := by
 have e := h.eq
 rw [List.take_of_length_le (Nat.le_refl _), List.take_of_length_le hB] at e
 have h1 := tv_lt h.lt
 rw [h.len] at h1
 have hc := h.car
 rcases Nat.eq_zero_or_pos c with h0 | h0
 ·rw [h0, Nat.mul_zero] at e; omega
 ·rw [show c = 1 by omega, Nat.mul_one] at e; omega
end Go.Proofs.YthffglapmkkohaaGreatDoor.Rx
namespace Go.Proofs.YthffglapmkkohaaGreatDoor.Rx
open Go.RowKit
open Go.Lib (decDigits)
attribute [local irreducible] tv dg cmpI
/-- What Text has written behind digit i. -/
def TS (n i : Nat) (T : List UInt8) : Prop := (i < (td n).length ∧ decDigits n = decDigits (n / 10000 ^ i) ++ T) ∨ (i = (td n).length ∧ T = decDigits n)
theorem TS.start {n : Nat} (h : 0 < (td n).length) : TS n 0 [] := .inl ⟨h, by simp⟩
theorem TS.step {n i : Nat} {T : List UInt8} (h : TS n i T) (hl : i < (td n).length) (hi : i + 1 < (td n).length) : TS n (i + 1) (pad 4 ((td n)[i]'hl) ++ T) := by
 rcases h with ⟨h1, h2⟩ | ⟨h1, h2⟩
 ·refine .inl ⟨hi, ?_⟩
  have hd := (td_step h1).2
  have hq := (td_step hi).1
  have e : n / 10000 ^ i = n / 10000 ^ (i + 1) * 10 ^ 4 + (td n)[i] := by
   rw [hd, Nat.pow_succ, ← Nat.div_div_eq_div_mul]
   show _ = _ * 10000 + _
   omega
  have hlt : (td n)[i] < 10 ^ 4 := td_lt n _ (List.getElem_mem _)
  have := dec_mul_add 4 (n / 10000 ^ (i + 1)) ((td n)[i]) (by omega) hlt
  rw [h2, e, this, List.append_assoc]
 ·omega
theorem TS.last {n i : Nat} {T : List UInt8} (h : TS n i T) (hl : i < (td n).length) (hi : i + 1 = (td n).length) : 0 < (td n)[i]'hl ∧ TS n (i + 1) (decDigits ((td n)[i]'hl) ++ T) := by
 rcases h with ⟨h1, h2⟩ | ⟨h1, h2⟩
 ·have hd := td_step h1
  have h0 : n / 10000 ^ (i + 1) = 0 := td_end (by omega)
  have e : n / 10000 ^ i = (td n)[i] := by
   rw [hd.2]
   rw [Nat.pow_succ, ← Nat.div_div_eq_div_mul] at h0
   omega
  refine ⟨by rw [← e]; omega, .inr ⟨hi, ?_⟩⟩
  rw [h2, e]
 ·omega
theorem TS.len {n i : Nat} {T : List UInt8} (h : TS n i T) : T.length ≤ (decDigits n).length := by
 rcases h with ⟨h1, h2⟩ | ⟨h1, h2⟩
 ·rw [h2, List.length_append]; omega
 ·rw [h2]; exact Nat.le_refl _
end Go.Proofs.YthffglapmkkohaaGreatDoor.Rx
namespace Go.Proofs.YthffglapmkkohaaGreatDoor.Rx
open Go.RowKit
attribute [local irreducible] lo hs tv dg cmpI txt
end Go.Proofs.YthffglapmkkohaaGreatDoor.Rx
namespace Go.Proofs.YthffglapmkkohaaGreatDoor.Rx
open Go.RowKit
attribute [local irreducible] tv dg cmpI txt
/-- What is appended, chunk by chunk. -/
structure PS (l : List UInt8) (S : List Nat) (t e : Nat) : Prop where
 len : S.length = t
 lt : ∀ d ∈ S, d < 10000
 pos : e = l.length - 4 * t
 eq : tv S + 10000 ^ t * dval (l.take e) = dval l
theorem PS.step {l : List UInt8} {S : List Nat} {t e : Nat} (h : PS l S t e) (hd : ∀ c ∈ l, isDig c) (he : 0 < e) :
  dval ((l.drop (e - 4)).take (e - (e - 4))) < 10000 ∧ PS l (S ++ [dval ((l.drop (e - 4)).take (e - (e - 4)))]) (t + 1) (e - 4) := by
 have hle : e ≤ l.length := by have := h.pos; omega
 have hch : ((l.drop (e - 4)).take (e - (e - 4))).length = e - (e - 4) := by rw [List.length_take, List.length_drop]; omega
 have hlt : dval ((l.drop (e - 4)).take (e - (e - 4))) < 10000 := by
  have h1 := dval_lt (l := (l.drop (e - 4)).take (e - (e - 4))) fun c hc => hd c (List.mem_of_mem_drop (List.mem_of_mem_take hc))
  rw [hch] at h1
  exact Nat.lt_of_lt_of_le h1 (Nat.le_trans (Nat.pow_le_pow_right (by omega) (show e - (e - 4) ≤ 4 by omega)) (by decide))
 refine ⟨hlt, by rw [List.length_append, h.len]; rfl, fun d hx => ?_, by have := h.pos; omega, ?_⟩
 ·rcases List.mem_append.1 hx with hx | hx
  ·exact h.lt d hx
  ·rw [List.mem_singleton.1 hx]; exact hlt
 ·have e1 : l.take e = l.take (e - 4) ++ (l.drop (e - 4)).take (e - (e - 4)) := by
   have := List.take_add (l := l) (i := e - 4) (j := e - (e - 4))
   rw [show e - 4 + (e - (e - 4)) = e by omega] at this
   exact this
  have e2 := h.eq
  rw [e1, dval_append, hch] at e2
  rw [tv_snoc, h.len, Nat.pow_succ]
  generalize dval ((l.drop (e - 4)).take (e - (e - 4))) = d at *
  rcases Nat.lt_or_ge e 4 with h4 | h4
  ·have h0 : dval (l.take (e - 4)) = 0 := by rw [show e - 4 = 0 by omega, List.take_zero, dval_nil]
   rw [h0, Nat.zero_mul, Nat.zero_add] at e2
   rw [h0, Nat.mul_zero]; omega
  ·rw [show e - (e - 4) = 4 by omega] at e2
   rw [Nat.mul_add, Nat.mul_comm (dval _) (10 ^ 4), ← Nat.mul_assoc, show (10 : Nat) ^ 4 = 10000 by rfl] at e2
   omega
theorem PS.start (l : List UInt8) : PS l [] 0 l.length := ⟨rfl, (fun d hd => by cases hd), by omega, by rw [tv_nil, List.take_length]; simp⟩
end Go.Proofs.YthffglapmkkohaaGreatDoor.Rx
namespace Go.Proofs.YthffglapmkkohaaGreatDoor
open Go.RowKit Go.Proofs.YthffglapmkkohaaGreatDoor.Rx
attribute [local irreducible] lo hs sm s64 c64 d64 b64 mh ml pd pc qd qc val hiB str cmpI srD lz nb dval
theorem sl_upd {w w' : World} {k : Nat} {c : List Value} {v : Value} {l : List Nat} (h : Sl w v l) (hu : Upd k w w') (hd : Hd w k c) (hc : ∀ v ∈ c, ∀ n, v ≠ .int .i64 n) : Sl w' v l := by
 rcases h with h | ⟨a, c1, h1, h2, h3⟩
 ·exact .inl h
 ·refine .inr ⟨a, c1, h1, h2, fun i hi => ?_, by rw [hu.size]; exact h3.blk⟩
  have hx := h3.cell i hi
  exact (World.cell?_of_block (w := w) (hu.block _ (hd.no_int hc hx))).trans hx
end Go.Proofs.YthffglapmkkohaaGreatDoor
namespace Go.Proofs.YthffglapmkkohaaGreatDoor
open Go.RowKit Go.Proofs.YthffglapmkkohaaGreatDoor.Rx
/-- A struct of the reference that stands for an integer. -/
def RZ (w : World) (v : Value) (z : Int) : Prop := ∃ u, v = .agg #[.bool (decide (z < 0)), u] ∧ Rn w u z.natAbs
theorem RZ.below {w w' : World} {v : Value} {z : Int} (h : RZ w v z) (hb : Below w.heap.size w w') : RZ w' v z := by
 obtain ⟨u, h1, h2⟩ := h
 exact ⟨u, h1, Sl.below h2 hb⟩
theorem RZ.of {w : World} {b : Bool} {u : Value} {n : Nat} {z : Int} (h : Rn w u n) (hb : b = decide (z < 0)) (hn : n = z.natAbs) : RZ w (.agg #[.bool b, u]) z := ⟨u, by rw [hb], by rw [← hn]; exact h⟩
end Go.Proofs.YthffglapmkkohaaGreatDoor
namespace Go.Proofs.YthffglapmkkohaaGreatDoor
open Go.RowKit Go.Proofs.YthffglapmkkohaaGreatDoor.Rx
/-- The slices of digits that a call has got hold of. -/
def SS (W : World) (S : List (Value × Nat)) : Prop := ∀ p ∈ S, Rn W p.1 p.2
theorem SS.nil (W : World) : SS W [] := fun p hp => by cases hp
theorem SS.call {W W' : World} {S : List (Value × Nat)} (h : SS W S) (hb : Below W.heap.size W W') : SS W' S := fun p hp => Sl.below (h p hp) hb
theorem SS.new {W : World} {S : List (Value × Nat)} (h : SS W S) (o : Obj) : SS (W.alloc o) S := h.call ((Below.refl _ _).alloc (Nat.le_refl _) o)
theorem SS.cons {W : World} {S : List (Value × Nat)} (h : SS W S) {v : Value} {n : Nat} (hv : Rn W v n) : SS W ((v, n) :: S) := fun p hp => by
 rcases List.mem_cons.1 hp with rfl | hp
 ·exact hv
 ·exact h p hp
theorem SS.put {W W' : World} {S : List (Value × Nat)} (h : SS W S) {k : Nat} {c : List Value} (hu : Upd k W W') (hd : Hd W k c) (hc : ∀ v ∈ c, ∀ n, v ≠ .int .i64 n) : SS W' S := fun p hp => sl_upd (h p hp) hu hd hc
theorem SS.drew {W : World} {S : List (Value × Nat)} (h : SS W S) : SS W.drew S := fun p hp => Sl.drew (h p hp)
theorem SS.get {W : World} {S : List (Value × Nat)} (h : SS W S) {v : Value} {n : Nat} (hm : (v, n) ∈ S) : Rn W v n := h _ hm
theorem tyAt_yes {P : Program} {ops : Array Oper} {o : Oper} {a : Act} {w : World} {T : Value → World → Prop} (hg : Region.wanted o (yielded ops a.tmps) = true) (h : tyUpon P w T ((execOp a.eval o).run P w)) : TyAt P ops o a w T := by
 unfold TyAt
 rw [if_pos hg]; exact h
/-- The boxes with one that a typed region has made. -/
theorem GL.tnew {w0 x W : World} {L M : List (Nat × List Value)} {c : List Value} {k : Nat} (h : GL w0 W (M ++ L)) (hx : GL w0 x L) (hd : Hd W k c) (hB : x.heap.size ≤ k) (hM : ∀ p ∈ M, p.1 ≠ k) : GL w0 W ((k, c) :: (M ++ L)) := by
 refine ⟨h.bl, fun p hp => ?_, ?_⟩
 ·rcases List.mem_cons.1 hp with rfl | hp
  ·exact ⟨Nat.le_trans hx.bl.size hB, hd⟩
  ·exact h.all p hp
 ·rw [List.map_cons, List.nodup_cons]
  refine ⟨fun hm => ?_, h.nd⟩
  obtain ⟨q, hq, he⟩ := List.mem_map.1 hm
  rcases List.mem_append.1 hq with hq | hq
  ·exact hM q hq he
  ·have := (hx.all q hq).2.lt
   simp only at he
   omega
/-- A typed region's properties, in short. -/
abbrev EV (v : Value) : Value → World → Prop := fun u _ => u = v
theorem LC {l : List Nat} {a : Nat} (h : l.contains a = true) : a ∈ l := List.contains_iff_mem.1 h
theorem GL.named2 {w0 W : World} {L : List (Nat × List Value)} {S : List (Value × Nat)} (h : GL w0 W L) (g : SS W S) : ∃ x, W = x ∧ GL w0 x L ∧ SS x S := ⟨W, rfl, h, g⟩
end Go.Proofs.YthffglapmkkohaaGreatDoor
namespace Go.Proofs.YthffglapmkkohaaGreatDoor
open Go.RowKit
attribute [local irreducible] lo hs sm s64 c64 d64 b64 mh ml pd pc qd qc val hiB str cmpI srD lz nb zl zh zs fe
theorem keepsC {w w' : World} {a : Addr} {v : Value} (hb : Below w.heap.size w w') (h : w.cell? a = some v) : w'.cell? a = some v := (hb.cell (World.block_lt_of_cell? w _ h)).trans h
theorem vdot1_w (i na nb ca cb ga gb b1 b2 : Nat) (x y r : Rat) (HC : ∀ w, Calls Tryz.prog 15 #[fracV x, fracV y] w fun xe w' => xe = .returned (fracV r) ∧ Below w.heap.size w w') (hi : i < na) (hj : i < nb) (w : World) (c0 : w.cell? ⟨b1, 0, none⟩ = some (.slice (some ⟨ga, 0, none⟩) na ca)) (c1 : w.cell? ⟨b2, 0, none⟩ = some (.slice (some ⟨gb, 0, none⟩) nb cb)) (c2 : w.cell? ⟨ga, i * 5, none⟩ = some (.int .u64 ((zl x.num : Nat) : Int))) (c3 : w.cell? ⟨ga, i * 5 + 1, none⟩ = some (.string (zh x.num))) (c4 : w.cell? ⟨ga, i * 5 + 2, none⟩ = some (.bool (zs x.num))) (c5 : w.cell? ⟨ga, i * 5 + 3, none⟩ = some (.int .u64 ((lo (fe x) : Nat) : Int))) (c6 : w.cell? ⟨ga, i * 5 + 4, none⟩ = some (.string (hs (fe x)))) (c7 : w.cell? ⟨gb, i * 5, none⟩ = some (.int .u64 ((zl y.num : Nat) : Int))) (c8 : w.cell? ⟨gb, i * 5 + 1, none⟩ = some (.string (zh y.num))) (c9 : w.cell? ⟨gb, i * 5 + 2, none⟩ = some (.bool (zs y.num))) (c10 : w.cell? ⟨gb, i * 5 + 3, none⟩ = some (.int .u64 ((lo (fe y) : Nat) : Int))) (c11 : w.cell? ⟨gb, i * 5 + 4, none⟩ = some (.string (hs (fe y)))) :
  Calls Tryz.prog 151 #[.int .i64 (i : Int), .pointer (some ⟨b1, 0, none⟩), .pointer (some ⟨b2, 0, none⟩)] w fun xe w' => xe = .returned (fracV r) ∧ Below w.heap.size w w' := by
 replace HC := Lib.hid HC
 have k0 : (0 : Int) ≤ (i : Int) := Int.natCast_nonneg _
 have k1 : (i : Int) < (na : Int) := by omega
 have k2 : (i : Int) < (nb : Int) := by omega
 clear hi hj
 have hL0 : GL w w [] := GL.start w
 have hb0 : Below w.heap.size w (w.alloc (.cells #[.int .u64 0, .string ⟨#[]⟩, .bool false, .int .u64 0, .string ⟨#[]⟩] 36)) := (Below.refl _ _).alloc (Nat.le_refl _) _
 replace c0 := keepsC hb0 c0
 replace c1 := keepsC hb0 c1
 replace c2 := keepsC hb0 c2
 replace c3 := keepsC hb0 c3
 replace c4 := keepsC hb0 c4
 replace c5 := keepsC hb0 c5
 replace c6 := keepsC hb0 c6
 replace c7 := keepsC hb0 c7
 replace c8 := keepsC hb0 c8
 replace c9 := keepsC hb0 c9
 replace c10 := keepsC hb0 c10
 replace c11 := keepsC hb0 c11
 replace hL0 := hL0.new rfl [.int .u64 0, .string ⟨#[]⟩, .bool false, .int .u64 0, .string ⟨#[]⟩] 36
 generalize hweq : w.alloc (.cells #[.int .u64 0, .string ⟨#[]⟩, .bool false, .int .u64 0, .string ⟨#[]⟩] 36) = x1 at hL0 c0 c1 c2 c3 c4 c5 c6 c7 c8 c9 c10 c11
 clear hb0
 replace c0 := Lib.hid c0
 replace c1 := Lib.hid c1
 replace c2 := Lib.hid c2
 replace c3 := Lib.hid c3
 replace c4 := Lib.hid c4
 replace c5 := Lib.hid c5
 replace c6 := Lib.hid c6
 replace c7 := Lib.hid c7
 replace c8 := Lib.hid c8
 replace c9 := Lib.hid c9
 replace c10 := Lib.hid c10
 replace c11 := Lib.hid c11
 go_enter Tryz.func151, Tryz.ntmps151
 go_upto_region 1 with fail
 clear hweq
 obtain ⟨α, iα, F, hF1, hF2⟩ := cls x1
 have hq0 : ∀ yz, (F yz).cell? ⟨b1, 0, none⟩ = some (.slice (some ⟨ga, 0, none⟩) na ca) := fun yz => keepsC (hF1 yz) c0.out
 have hq1 : ∀ yz, (F yz).cell? ⟨b2, 0, none⟩ = some (.slice (some ⟨gb, 0, none⟩) nb cb) := fun yz => keepsC (hF1 yz) c1.out
 have hq2 : ∀ yz, (F yz).cell? ⟨ga, i * 5, none⟩ = some (.int .u64 ((zl x.num : Nat) : Int)) := fun yz => keepsC (hF1 yz) c2.out
 have hq3 : ∀ yz, (F yz).cell? ⟨ga, i * 5 + 1, none⟩ = some (.string (zh x.num)) := fun yz => keepsC (hF1 yz) c3.out
 have hq4 : ∀ yz, (F yz).cell? ⟨ga, i * 5 + 2, none⟩ = some (.bool (zs x.num)) := fun yz => keepsC (hF1 yz) c4.out
 have hq5 : ∀ yz, (F yz).cell? ⟨ga, i * 5 + 3, none⟩ = some (.int .u64 ((lo (fe x) : Nat) : Int)) := fun yz => keepsC (hF1 yz) c5.out
 have hq6 : ∀ yz, (F yz).cell? ⟨ga, i * 5 + 4, none⟩ = some (.string (hs (fe x))) := fun yz => keepsC (hF1 yz) c6.out
 have hq7 : ∀ yz, (F yz).cell? ⟨gb, i * 5, none⟩ = some (.int .u64 ((zl y.num : Nat) : Int)) := fun yz => keepsC (hF1 yz) c7.out
 have hq8 : ∀ yz, (F yz).cell? ⟨gb, i * 5 + 1, none⟩ = some (.string (zh y.num)) := fun yz => keepsC (hF1 yz) c8.out
 have hq9 : ∀ yz, (F yz).cell? ⟨gb, i * 5 + 2, none⟩ = some (.bool (zs y.num)) := fun yz => keepsC (hF1 yz) c9.out
 have hq10 : ∀ yz, (F yz).cell? ⟨gb, i * 5 + 3, none⟩ = some (.int .u64 ((lo (fe y) : Nat) : Int)) := fun yz => keepsC (hF1 yz) c10.out
 have hq11 : ∀ yz, (F yz).cell? ⟨gb, i * 5 + 4, none⟩ = some (.string (hs (fe y))) := fun yz => keepsC (hF1 yz) c11.out
 refine region_qs 9 (C := fun w' => ∃ x, w' = F x) (by kernel_rfl) (by kernel_rfl) (cls_drew hF2) ?_
 simp only [zT]
 repeat (go_big_quiet_step (first | fail | (go_at_call 15; with_reducible exact cls_call hF1 hF2 HC.out _)))
 refine wpQuiet_nil ?_
 rintro wq ⟨xq, rfl⟩
 replace hL0 := hL0.call (hF1 xq)
 clear hq0 hq1 hq2 hq3 hq4 hq5 hq6 hq7 hq8 hq9 hq10 hq11 hF2
 generalize F xq = x2 at hL0 ⊢
 clear hF1 xq iα F α
 have hA := hL0.fc
 simp only [zF, Nat.reduceAdd] at hA
 have hPt := hL0.put 0 (w.heap.size) _ rfl [.int .u64 ((zl r.num : Nat) : Int), .string (zh r.num), .bool (zs r.num), .int .u64 ((lo (fe r) : Nat) : Int), .string (hs (fe r))] rfl
 simp only [setAll, List.set_cons_zero, List.set_cons_succ] at hPt
 generalize hput1 : (((((x2.setCell ⟨w.heap.size, 0, none⟩ (.int .u64 ((zl r.num : Nat) : Int))).setCell ⟨w.heap.size, 1, none⟩ (.string (zh r.num))).setCell ⟨w.heap.size, 2, none⟩ (.bool (zs r.num))).setCell ⟨w.heap.size, 3, none⟩ (.int .u64 ((lo (fe r) : Nat) : Int))).setCell ⟨w.heap.size, 4, none⟩ (.string (hs (fe r)))) = x9 at hPt
 have hB1 := hPt.fc
 simp only [zF, Nat.reduceAdd] at hB1
 go_wp2_with fail
 exact bodyPost_ret (v := fracV r) (by simp [results, Tryz.results151, go_sem, hB1]) rfl ⟨rfl, hPt.bl⟩
theorem vaxpy1_w (i na nb ca cb ga gb b1 b2 b3 : Nat) (c x y p r : Rat) (HM : ∀ w, Calls Tryz.prog 15 #[fracV c, fracV x] w fun xe w' => xe = .returned (fracV p) ∧ Below w.heap.size w w') (HC : ∀ w, Calls Tryz.prog 14 #[fracV p, fracV y] w fun xe w' => xe = .returned (fracV r) ∧ Below w.heap.size w w') (hi : i < na) (hj : i < nb) (w : World) (c0 : w.cell? ⟨b1, 0, none⟩ = some (.int .u64 ((zl c.num : Nat) : Int))) (c1 : w.cell? ⟨b1, 1, none⟩ = some (.string (zh c.num))) (c2 : w.cell? ⟨b1, 2, none⟩ = some (.bool (zs c.num))) (c3 : w.cell? ⟨b1, 3, none⟩ = some (.int .u64 ((lo (fe c) : Nat) : Int))) (c4 : w.cell? ⟨b1, 4, none⟩ = some (.string (hs (fe c)))) (c5 : w.cell? ⟨b2, 0, none⟩ = some (.slice (some ⟨ga, 0, none⟩) na ca)) (c6 : w.cell? ⟨b3, 0, none⟩ = some (.slice (some ⟨gb, 0, none⟩) nb cb)) (c7 : w.cell? ⟨ga, i * 5, none⟩ = some (.int .u64 ((zl x.num : Nat) : Int))) (c8 : w.cell? ⟨ga, i * 5 + 1, none⟩ = some (.string (zh x.num))) (c9 : w.cell? ⟨ga, i * 5 + 2, none⟩ = some (.bool (zs x.num))) (c10 : w.cell? ⟨ga, i * 5 + 3, none⟩ = some (.int .u64 ((lo (fe x) : Nat) : Int))) (c11 : w.cell? ⟨ga, i * 5 + 4, none⟩ = some (.string (hs (fe x)))) (c12 : w.cell? ⟨gb, i * 5, none⟩ = some (.int .u64 ((zl y.num : Nat) : Int))) (c13 : w.cell? ⟨gb, i * 5 + 1, none⟩ = some (.string (zh y.num))) (c14 : w.cell? ⟨gb, i * 5 + 2, none⟩ = some (.bool (zs y.num))) (c15 : w.cell? ⟨gb, i * 5 + 3, none⟩ = some (.int .u64 ((lo (fe y) : Nat) : Int))) (c16 : w.cell? ⟨gb, i * 5 + 4, none⟩ = some (.string (hs (fe y)))) :
  Calls Tryz.prog 115 #[.int .i64 (i : Int), .pointer (some ⟨b1, 0, none⟩), .pointer (some ⟨b2, 0, none⟩), .pointer (some ⟨b3, 0, none⟩)] w fun xe w' => xe = .returned (fracV r) ∧ Below w.heap.size w w' := by
 replace HM := Lib.hid HM
 replace HC := Lib.hid HC
 have k0 : (0 : Int) ≤ (i : Int) := Int.natCast_nonneg _
 have k1 : (i : Int) < (na : Int) := by omega
 have k2 : (i : Int) < (nb : Int) := by omega
 clear hi hj
 have hL0 : GL w w [] := GL.start w
 have hb0 : Below w.heap.size w (w.alloc (.cells #[.int .u64 0, .string ⟨#[]⟩, .bool false, .int .u64 0, .string ⟨#[]⟩] 36)) := (Below.refl _ _).alloc (Nat.le_refl _) _
 replace c0 := keepsC hb0 c0
 replace c1 := keepsC hb0 c1
 replace c2 := keepsC hb0 c2
 replace c3 := keepsC hb0 c3
 replace c4 := keepsC hb0 c4
 replace c5 := keepsC hb0 c5
 replace c6 := keepsC hb0 c6
 replace c7 := keepsC hb0 c7
 replace c8 := keepsC hb0 c8
 replace c9 := keepsC hb0 c9
 replace c10 := keepsC hb0 c10
 replace c11 := keepsC hb0 c11
 replace c12 := keepsC hb0 c12
 replace c13 := keepsC hb0 c13
 replace c14 := keepsC hb0 c14
 replace c15 := keepsC hb0 c15
 replace c16 := keepsC hb0 c16
 replace hL0 := hL0.new rfl [.int .u64 0, .string ⟨#[]⟩, .bool false, .int .u64 0, .string ⟨#[]⟩] 36
 generalize hweq : w.alloc (.cells #[.int .u64 0, .string ⟨#[]⟩, .bool false, .int .u64 0, .string ⟨#[]⟩] 36) = x1 at hL0 c0 c1 c2 c3 c4 c5 c6 c7 c8 c9 c10 c11 c12 c13 c14 c15 c16
 clear hb0
 replace c0 := Lib.hid c0
 replace c1 := Lib.hid c1
 replace c2 := Lib.hid c2
 replace c3 := Lib.hid c3
 replace c4 := Lib.hid c4
 replace c5 := Lib.hid c5
 replace c6 := Lib.hid c6
 replace c7 := Lib.hid c7
 replace c8 := Lib.hid c8
 replace c9 := Lib.hid c9
 replace c10 := Lib.hid c10
 replace c11 := Lib.hid c11
 replace c12 := Lib.hid c12
 replace c13 := Lib.hid c13
 replace c14 := Lib.hid c14
 replace c15 := Lib.hid c15
 replace c16 := Lib.hid c16
 go_enter Tryz.func115, Tryz.ntmps115
 go_upto_region 1 with fail
 clear hweq
 obtain ⟨α, iα, F, hF1, hF2⟩ := cls x1
 have hq0 : ∀ yz, (F yz).cell? ⟨b1, 0, none⟩ = some (.int .u64 ((zl c.num : Nat) : Int)) := fun yz => keepsC (hF1 yz) c0.out
 have hq1 : ∀ yz, (F yz).cell? ⟨b1, 1, none⟩ = some (.string (zh c.num)) := fun yz => keepsC (hF1 yz) c1.out
 have hq2 : ∀ yz, (F yz).cell? ⟨b1, 2, none⟩ = some (.bool (zs c.num)) := fun yz => keepsC (hF1 yz) c2.out
 have hq3 : ∀ yz, (F yz).cell? ⟨b1, 3, none⟩ = some (.int .u64 ((lo (fe c) : Nat) : Int)) := fun yz => keepsC (hF1 yz) c3.out
 have hq4 : ∀ yz, (F yz).cell? ⟨b1, 4, none⟩ = some (.string (hs (fe c))) := fun yz => keepsC (hF1 yz) c4.out
 have hq5 : ∀ yz, (F yz).cell? ⟨b2, 0, none⟩ = some (.slice (some ⟨ga, 0, none⟩) na ca) := fun yz => keepsC (hF1 yz) c5.out
 have hq6 : ∀ yz, (F yz).cell? ⟨b3, 0, none⟩ = some (.slice (some ⟨gb, 0, none⟩) nb cb) := fun yz => keepsC (hF1 yz) c6.out
 have hq7 : ∀ yz, (F yz).cell? ⟨ga, i * 5, none⟩ = some (.int .u64 ((zl x.num : Nat) : Int)) := fun yz => keepsC (hF1 yz) c7.out
 have hq8 : ∀ yz, (F yz).cell? ⟨ga, i * 5 + 1, none⟩ = some (.string (zh x.num)) := fun yz => keepsC (hF1 yz) c8.out
 have hq9 : ∀ yz, (F yz).cell? ⟨ga, i * 5 + 2, none⟩ = some (.bool (zs x.num)) := fun yz => keepsC (hF1 yz) c9.out
 have hq10 : ∀ yz, (F yz).cell? ⟨ga, i * 5 + 3, none⟩ = some (.int .u64 ((lo (fe x) : Nat) : Int)) := fun yz => keepsC (hF1 yz) c10.out
 have hq11 : ∀ yz, (F yz).cell? ⟨ga, i * 5 + 4, none⟩ = some (.string (hs (fe x))) := fun yz => keepsC (hF1 yz) c11.out
 have hq12 : ∀ yz, (F yz).cell? ⟨gb, i * 5, none⟩ = some (.int .u64 ((zl y.num : Nat) : Int)) := fun yz => keepsC (hF1 yz) c12.out
 have hq13 : ∀ yz, (F yz).cell? ⟨gb, i * 5 + 1, none⟩ = some (.string (zh y.num)) := fun yz => keepsC (hF1 yz) c13.out
 have hq14 : ∀ yz, (F yz).cell? ⟨gb, i * 5 + 2, none⟩ = some (.bool (zs y.num)) := fun yz => keepsC (hF1 yz) c14.out
 have hq15 : ∀ yz, (F yz).cell? ⟨gb, i * 5 + 3, none⟩ = some (.int .u64 ((lo (fe y) : Nat) : Int)) := fun yz => keepsC (hF1 yz) c15.out
 have hq16 : ∀ yz, (F yz).cell? ⟨gb, i * 5 + 4, none⟩ = some (.string (hs (fe y))) := fun yz => keepsC (hF1 yz) c16.out
 refine region_qs 11 (C := fun w' => ∃ x, w' = F x) (by kernel_rfl) (by kernel_rfl) (cls_drew hF2) ?_
 simp only [zT]
 repeat (go_big_quiet_step (first | fail | (go_at_call 15; with_reducible exact cls_call hF1 hF2 HM.out _) | (go_at_call 14; with_reducible exact cls_call hF1 hF2 HC.out _)))
 refine wpQuiet_nil ?_
 rintro wq ⟨xq, rfl⟩
 replace hL0 := hL0.call (hF1 xq)
 clear hq0 hq1 hq2 hq3 hq4 hq5 hq6 hq7 hq8 hq9 hq10 hq11 hq12 hq13 hq14 hq15 hq16 hF2
 generalize F xq = x2 at hL0 ⊢
 clear hF1 xq iα F α
 have hA := hL0.fc
 simp only [zF, Nat.reduceAdd] at hA
 have hPt := hL0.put 0 (w.heap.size) _ rfl [.int .u64 ((zl r.num : Nat) : Int), .string (zh r.num), .bool (zs r.num), .int .u64 ((lo (fe r) : Nat) : Int), .string (hs (fe r))] rfl
 simp only [setAll, List.set_cons_zero, List.set_cons_succ] at hPt
 generalize hput1 : (((((x2.setCell ⟨w.heap.size, 0, none⟩ (.int .u64 ((zl r.num : Nat) : Int))).setCell ⟨w.heap.size, 1, none⟩ (.string (zh r.num))).setCell ⟨w.heap.size, 2, none⟩ (.bool (zs r.num))).setCell ⟨w.heap.size, 3, none⟩ (.int .u64 ((lo (fe r) : Nat) : Int))).setCell ⟨w.heap.size, 4, none⟩ (.string (hs (fe r)))) = x9 at hPt
 have hB1 := hPt.fc
 simp only [zF, Nat.reduceAdd] at hB1
 go_wp2_with fail
 exact bodyPost_ret (v := fracV r) (by simp [results, Tryz.results115, go_sem, hB1]) rfl ⟨rfl, hPt.bl⟩
theorem vmax1_w (i na ca ga b1 : Nat) (x r : Rat) (HC : ∀ w, Calls Tryz.prog 131 #[fracV x] w fun xe w' => xe = .returned (fracV r) ∧ Below w.heap.size w w') (hi : i < na) (w : World) (c0 : w.cell? ⟨b1, 0, none⟩ = some (.slice (some ⟨ga, 0, none⟩) na ca)) (c1 : w.cell? ⟨ga, i * 5, none⟩ = some (.int .u64 ((zl x.num : Nat) : Int))) (c2 : w.cell? ⟨ga, i * 5 + 1, none⟩ = some (.string (zh x.num))) (c3 : w.cell? ⟨ga, i * 5 + 2, none⟩ = some (.bool (zs x.num))) (c4 : w.cell? ⟨ga, i * 5 + 3, none⟩ = some (.int .u64 ((lo (fe x) : Nat) : Int))) (c5 : w.cell? ⟨ga, i * 5 + 4, none⟩ = some (.string (hs (fe x)))) :
  Calls Tryz.prog 130 #[.int .i64 (i : Int), .pointer (some ⟨b1, 0, none⟩)] w fun xe w' => xe = .returned (fracV r) ∧ Below w.heap.size w w' := by
 replace HC := Lib.hid HC
 have k0 : (0 : Int) ≤ (i : Int) := Int.natCast_nonneg _
 have k1 : (i : Int) < (na : Int) := by omega
 clear hi
 have hL0 : GL w w [] := GL.start w
 have hb0 : Below w.heap.size w (w.alloc (.cells #[.int .u64 0, .string ⟨#[]⟩, .bool false, .int .u64 0, .string ⟨#[]⟩] 36)) := (Below.refl _ _).alloc (Nat.le_refl _) _
 replace c0 := keepsC hb0 c0
 replace c1 := keepsC hb0 c1
 replace c2 := keepsC hb0 c2
 replace c3 := keepsC hb0 c3
 replace c4 := keepsC hb0 c4
 replace c5 := keepsC hb0 c5
 replace hL0 := hL0.new rfl [.int .u64 0, .string ⟨#[]⟩, .bool false, .int .u64 0, .string ⟨#[]⟩] 36
 generalize hweq : w.alloc (.cells #[.int .u64 0, .string ⟨#[]⟩, .bool false, .int .u64 0, .string ⟨#[]⟩] 36) = x1 at hL0 c0 c1 c2 c3 c4 c5
 clear hb0
 go_enter Tryz.func130, Tryz.ntmps130
 go_wp2_with fail
 with_reducible refine Calls.mono (HC.out _) ?_
 rintro e x2 ⟨rfl, hb⟩
 replace hL0 := hL0.call hb
 clear hb hweq c0 c1 c2 c3 c4 c5
 have hA := hL0.fc
 simp only [zF, Nat.reduceAdd] at hA
 have hPt := hL0.put 0 (w.heap.size) _ rfl [.int .u64 ((zl r.num : Nat) : Int), .string (zh r.num), .bool (zs r.num), .int .u64 ((lo (fe r) : Nat) : Int), .string (hs (fe r))] rfl
 simp only [setAll, List.set_cons_zero, List.set_cons_succ] at hPt
 generalize hput1 : (((((x2.setCell ⟨w.heap.size, 0, none⟩ (.int .u64 ((zl r.num : Nat) : Int))).setCell ⟨w.heap.size, 1, none⟩ (.string (zh r.num))).setCell ⟨w.heap.size, 2, none⟩ (.bool (zs r.num))).setCell ⟨w.heap.size, 3, none⟩ (.int .u64 ((lo (fe r) : Nat) : Int))).setCell ⟨w.heap.size, 4, none⟩ (.string (hs (fe r)))) = x9 at hPt
 have hB1 := hPt.fc
 simp only [zF, Nat.reduceAdd] at hB1
 go_wp2_with fail
 exact bodyPost_ret (v := fracV r) (by simp [results, Tryz.results130, go_sem, hB1]) rfl ⟨rfl, hPt.bl⟩
theorem vof1_w (i na ca ga b1 : Nat) (x : Int) (r : Rat) (HC : ∀ w, Calls Tryz.prog 12 #[.int .i64 x] w fun xe w' => xe = .returned (fracV r) ∧ Below w.heap.size w w') (hi : i < na) (w : World) (c0 : w.cell? ⟨b1, 0, none⟩ = some (.slice (some ⟨ga, 0, none⟩) na ca)) (c1 : w.cell? ⟨ga, i, none⟩ = some (.int .i64 x)) :
  Calls Tryz.prog 125 #[.int .i64 (i : Int), .pointer (some ⟨b1, 0, none⟩)] w fun xe w' => xe = .returned (fracV r) ∧ Below w.heap.size w w' := by
 replace HC := Lib.hid HC
 have k0 : (0 : Int) ≤ (i : Int) := Int.natCast_nonneg _
 have k1 : (i : Int) < (na : Int) := by omega
 clear hi
 have hL0 : GL w w [] := GL.start w
 have hb0 : Below w.heap.size w (w.alloc (.cells #[.int .u64 0, .string ⟨#[]⟩, .bool false, .int .u64 0, .string ⟨#[]⟩] 36)) := (Below.refl _ _).alloc (Nat.le_refl _) _
 replace c0 := keepsC hb0 c0
 replace c1 := keepsC hb0 c1
 replace hL0 := hL0.new rfl [.int .u64 0, .string ⟨#[]⟩, .bool false, .int .u64 0, .string ⟨#[]⟩] 36
 generalize hweq : w.alloc (.cells #[.int .u64 0, .string ⟨#[]⟩, .bool false, .int .u64 0, .string ⟨#[]⟩] 36) = x1 at hL0 c0 c1
 clear hb0
 go_enter Tryz.func125, Tryz.ntmps125
 go_wp2_with fail
 with_reducible refine Calls.mono (HC.out _) ?_
 rintro e x2 ⟨rfl, hb⟩
 replace hL0 := hL0.call hb
 clear hb hweq c0 c1
 have hA := hL0.fc
 simp only [zF, Nat.reduceAdd] at hA
 have hPt := hL0.put 0 (w.heap.size) _ rfl [.int .u64 ((zl r.num : Nat) : Int), .string (zh r.num), .bool (zs r.num), .int .u64 ((lo (fe r) : Nat) : Int), .string (hs (fe r))] rfl
 simp only [setAll, List.set_cons_zero, List.set_cons_succ] at hPt
 generalize hput1 : (((((x2.setCell ⟨w.heap.size, 0, none⟩ (.int .u64 ((zl r.num : Nat) : Int))).setCell ⟨w.heap.size, 1, none⟩ (.string (zh r.num))).setCell ⟨w.heap.size, 2, none⟩ (.bool (zs r.num))).setCell ⟨w.heap.size, 3, none⟩ (.int .u64 ((lo (fe r) : Nat) : Int))).setCell ⟨w.heap.size, 4, none⟩ (.string (hs (fe r)))) = x9 at hPt
 have hB1 := hPt.fc
 simp only [zF, Nat.reduceAdd] at hB1
 go_wp2_with fail
 exact bodyPost_ret (v := fracV r) (by simp [results, Tryz.results125, go_sem, hB1]) rfl ⟨rfl, hPt.bl⟩
theorem vacross1_w (i k nl cl gl na ca ga b1 b2 : Nat) (x : Rat) (hi : i < nl) (hj : k < na) (w : World) (c0 : w.cell? ⟨b1, 0, none⟩ = some (.slice (some ⟨gl, 0, none⟩) nl cl)) (c1 : w.cell? ⟨b2, 0, none⟩ = some (.int .i64 (k : Int))) (c2 : w.cell? ⟨gl, i, none⟩ = some (.slice (some ⟨ga, 0, none⟩) na ca)) (c3 : w.cell? ⟨ga, k * 5, none⟩ = some (.int .u64 ((zl x.num : Nat) : Int))) (c4 : w.cell? ⟨ga, k * 5 + 1, none⟩ = some (.string (zh x.num))) (c5 : w.cell? ⟨ga, k * 5 + 2, none⟩ = some (.bool (zs x.num))) (c6 : w.cell? ⟨ga, k * 5 + 3, none⟩ = some (.int .u64 ((lo (fe x) : Nat) : Int))) (c7 : w.cell? ⟨ga, k * 5 + 4, none⟩ = some (.string (hs (fe x)))) :
  Calls Tryz.prog 150 #[.int .i64 (i : Int), .pointer (some ⟨b1, 0, none⟩), .pointer (some ⟨b2, 0, none⟩)] w fun xe w' => xe = .returned (fracV x) ∧ Below w.heap.size w w' := by
 have k0 : (0 : Int) ≤ (i : Int) := Int.natCast_nonneg _
 have k1 : (i : Int) < (nl : Int) := by omega
 have k2 : (0 : Int) ≤ (k : Int) := Int.natCast_nonneg _
 have k3 : (k : Int) < (na : Int) := by omega
 clear hi hj
 have hL0 : GL w w [] := GL.start w
 have hb0 : Below w.heap.size w (w.alloc (.cells #[.int .u64 0, .string ⟨#[]⟩, .bool false, .int .u64 0, .string ⟨#[]⟩] 36)) := (Below.refl _ _).alloc (Nat.le_refl _) _
 replace c0 := keepsC hb0 c0
 replace c1 := keepsC hb0 c1
 replace c2 := keepsC hb0 c2
 replace c3 := keepsC hb0 c3
 replace c4 := keepsC hb0 c4
 replace c5 := keepsC hb0 c5
 replace c6 := keepsC hb0 c6
 replace c7 := keepsC hb0 c7
 replace hL0 := hL0.new rfl [.int .u64 0, .string ⟨#[]⟩, .bool false, .int .u64 0, .string ⟨#[]⟩] 36
 generalize hweq : w.alloc (.cells #[.int .u64 0, .string ⟨#[]⟩, .bool false, .int .u64 0, .string ⟨#[]⟩] 36) = x1 at hL0 c0 c1 c2 c3 c4 c5 c6 c7
 clear hb0
 replace c0 := Lib.hid c0
 replace c1 := Lib.hid c1
 replace c2 := Lib.hid c2
 replace c3 := Lib.hid c3
 replace c4 := Lib.hid c4
 replace c5 := Lib.hid c5
 replace c6 := Lib.hid c6
 replace c7 := Lib.hid c7
 go_enter Tryz.func150, Tryz.ntmps150
 go_upto_region 1 with fail
 clear hweq
 obtain ⟨α, iα, F, hF1, hF2⟩ := cls x1
 have hq0 : ∀ yz, (F yz).cell? ⟨b1, 0, none⟩ = some (.slice (some ⟨gl, 0, none⟩) nl cl) := fun yz => keepsC (hF1 yz) c0.out
 have hq1 : ∀ yz, (F yz).cell? ⟨b2, 0, none⟩ = some (.int .i64 (k : Int)) := fun yz => keepsC (hF1 yz) c1.out
 have hq2 : ∀ yz, (F yz).cell? ⟨gl, i, none⟩ = some (.slice (some ⟨ga, 0, none⟩) na ca) := fun yz => keepsC (hF1 yz) c2.out
 have hq3 : ∀ yz, (F yz).cell? ⟨ga, k * 5, none⟩ = some (.int .u64 ((zl x.num : Nat) : Int)) := fun yz => keepsC (hF1 yz) c3.out
 have hq4 : ∀ yz, (F yz).cell? ⟨ga, k * 5 + 1, none⟩ = some (.string (zh x.num)) := fun yz => keepsC (hF1 yz) c4.out
 have hq5 : ∀ yz, (F yz).cell? ⟨ga, k * 5 + 2, none⟩ = some (.bool (zs x.num)) := fun yz => keepsC (hF1 yz) c5.out
 have hq6 : ∀ yz, (F yz).cell? ⟨ga, k * 5 + 3, none⟩ = some (.int .u64 ((lo (fe x) : Nat) : Int)) := fun yz => keepsC (hF1 yz) c6.out
 have hq7 : ∀ yz, (F yz).cell? ⟨ga, k * 5 + 4, none⟩ = some (.string (hs (fe x))) := fun yz => keepsC (hF1 yz) c7.out
 refine region_qs 7 (C := fun w' => ∃ x, w' = F x) (by kernel_rfl) (by kernel_rfl) (cls_drew hF2) ?_
 simp only [zT]
 repeat (go_big_quiet_step (first | fail))
 refine wpQuiet_nil ?_
 rintro wq ⟨xq, rfl⟩
 replace hL0 := hL0.call (hF1 xq)
 clear hq0 hq1 hq2 hq3 hq4 hq5 hq6 hq7 hF2
 generalize F xq = x2 at hL0 ⊢
 clear hF1 xq iα F α
 have hA := hL0.fc
 simp only [zF, Nat.reduceAdd] at hA
 have hPt := hL0.put 0 (w.heap.size) _ rfl [.int .u64 ((zl x.num : Nat) : Int), .string (zh x.num), .bool (zs x.num), .int .u64 ((lo (fe x) : Nat) : Int), .string (hs (fe x))] rfl
 simp only [setAll, List.set_cons_zero, List.set_cons_succ] at hPt
 generalize hput1 : (((((x2.setCell ⟨w.heap.size, 0, none⟩ (.int .u64 ((zl x.num : Nat) : Int))).setCell ⟨w.heap.size, 1, none⟩ (.string (zh x.num))).setCell ⟨w.heap.size, 2, none⟩ (.bool (zs x.num))).setCell ⟨w.heap.size, 3, none⟩ (.int .u64 ((lo (fe x) : Nat) : Int))).setCell ⟨w.heap.size, 4, none⟩ (.string (hs (fe x)))) = x9 at hPt
 have hB1 := hPt.fc
 simp only [zF, Nat.reduceAdd] at hB1
 go_wp2_with fail
 exact bodyPost_ret (v := fracV x) (by simp [results, Tryz.results150, go_sem, hB1]) rfl ⟨rfl, hPt.bl⟩
theorem vpart1_w (i np cp gp p na ca ga b1 b2 : Nat) (x : Rat) (hi : i < np) (hj : p < na) (w : World) (c0 : w.cell? ⟨b1, 0, none⟩ = some (.slice (some ⟨ga, 0, none⟩) na ca)) (c1 : w.cell? ⟨b2, 0, none⟩ = some (.slice (some ⟨gp, 0, none⟩) np cp)) (c2 : w.cell? ⟨gp, i, none⟩ = some (.int .i64 (p : Int))) (c3 : w.cell? ⟨ga, p * 5, none⟩ = some (.int .u64 ((zl x.num : Nat) : Int))) (c4 : w.cell? ⟨ga, p * 5 + 1, none⟩ = some (.string (zh x.num))) (c5 : w.cell? ⟨ga, p * 5 + 2, none⟩ = some (.bool (zs x.num))) (c6 : w.cell? ⟨ga, p * 5 + 3, none⟩ = some (.int .u64 ((lo (fe x) : Nat) : Int))) (c7 : w.cell? ⟨ga, p * 5 + 4, none⟩ = some (.string (hs (fe x)))) :
  Calls Tryz.prog 80 #[.int .i64 (i : Int), .pointer (some ⟨b1, 0, none⟩), .pointer (some ⟨b2, 0, none⟩)] w fun xe w' => xe = .returned (fracV x) ∧ Below w.heap.size w w' := by
 have k0 : (0 : Int) ≤ (i : Int) := Int.natCast_nonneg _
 have k1 : (i : Int) < (np : Int) := by omega
 have k2 : (0 : Int) ≤ (p : Int) := Int.natCast_nonneg _
 have k3 : (p : Int) < (na : Int) := by omega
 clear hi hj
 have hL0 : GL w w [] := GL.start w
 have hb0 : Below w.heap.size w (w.alloc (.cells #[.int .u64 0, .string ⟨#[]⟩, .bool false, .int .u64 0, .string ⟨#[]⟩] 36)) := (Below.refl _ _).alloc (Nat.le_refl _) _
 replace c0 := keepsC hb0 c0
 replace c1 := keepsC hb0 c1
 replace c2 := keepsC hb0 c2
 replace c3 := keepsC hb0 c3
 replace c4 := keepsC hb0 c4
 replace c5 := keepsC hb0 c5
 replace c6 := keepsC hb0 c6
 replace c7 := keepsC hb0 c7
 replace hL0 := hL0.new rfl [.int .u64 0, .string ⟨#[]⟩, .bool false, .int .u64 0, .string ⟨#[]⟩] 36
 generalize hweq : w.alloc (.cells #[.int .u64 0, .string ⟨#[]⟩, .bool false, .int .u64 0, .string ⟨#[]⟩] 36) = x1 at hL0 c0 c1 c2 c3 c4 c5 c6 c7
 clear hb0
 replace c0 := Lib.hid c0
 replace c1 := Lib.hid c1
 replace c2 := Lib.hid c2
 replace c3 := Lib.hid c3
 replace c4 := Lib.hid c4
 replace c5 := Lib.hid c5
 replace c6 := Lib.hid c6
 replace c7 := Lib.hid c7
 go_enter Tryz.func80, Tryz.ntmps80
 go_upto_region 1 with fail
 clear hweq
 obtain ⟨α, iα, F, hF1, hF2⟩ := cls x1
 have hq0 : ∀ yz, (F yz).cell? ⟨b1, 0, none⟩ = some (.slice (some ⟨ga, 0, none⟩) na ca) := fun yz => keepsC (hF1 yz) c0.out
 have hq1 : ∀ yz, (F yz).cell? ⟨b2, 0, none⟩ = some (.slice (some ⟨gp, 0, none⟩) np cp) := fun yz => keepsC (hF1 yz) c1.out
 have hq2 : ∀ yz, (F yz).cell? ⟨gp, i, none⟩ = some (.int .i64 (p : Int)) := fun yz => keepsC (hF1 yz) c2.out
 have hq3 : ∀ yz, (F yz).cell? ⟨ga, p * 5, none⟩ = some (.int .u64 ((zl x.num : Nat) : Int)) := fun yz => keepsC (hF1 yz) c3.out
 have hq4 : ∀ yz, (F yz).cell? ⟨ga, p * 5 + 1, none⟩ = some (.string (zh x.num)) := fun yz => keepsC (hF1 yz) c4.out
 have hq5 : ∀ yz, (F yz).cell? ⟨ga, p * 5 + 2, none⟩ = some (.bool (zs x.num)) := fun yz => keepsC (hF1 yz) c5.out
 have hq6 : ∀ yz, (F yz).cell? ⟨ga, p * 5 + 3, none⟩ = some (.int .u64 ((lo (fe x) : Nat) : Int)) := fun yz => keepsC (hF1 yz) c6.out
 have hq7 : ∀ yz, (F yz).cell? ⟨ga, p * 5 + 4, none⟩ = some (.string (hs (fe x))) := fun yz => keepsC (hF1 yz) c7.out
 refine region_qs 7 (C := fun w' => ∃ x, w' = F x) (by kernel_rfl) (by kernel_rfl) (cls_drew hF2) ?_
 simp only [zT]
 repeat (go_big_quiet_step (first | fail))
 refine wpQuiet_nil ?_
 rintro wq ⟨xq, rfl⟩
 replace hL0 := hL0.call (hF1 xq)
 clear hq0 hq1 hq2 hq3 hq4 hq5 hq6 hq7 hF2
 generalize F xq = x2 at hL0 ⊢
 clear hF1 xq iα F α
 have hA := hL0.fc
 simp only [zF, Nat.reduceAdd] at hA
 have hPt := hL0.put 0 (w.heap.size) _ rfl [.int .u64 ((zl x.num : Nat) : Int), .string (zh x.num), .bool (zs x.num), .int .u64 ((lo (fe x) : Nat) : Int), .string (hs (fe x))] rfl
 simp only [setAll, List.set_cons_zero, List.set_cons_succ] at hPt
 generalize hput1 : (((((x2.setCell ⟨w.heap.size, 0, none⟩ (.int .u64 ((zl x.num : Nat) : Int))).setCell ⟨w.heap.size, 1, none⟩ (.string (zh x.num))).setCell ⟨w.heap.size, 2, none⟩ (.bool (zs x.num))).setCell ⟨w.heap.size, 3, none⟩ (.int .u64 ((lo (fe x) : Nat) : Int))).setCell ⟨w.heap.size, 4, none⟩ (.string (hs (fe x)))) = x9 at hPt
 have hB1 := hPt.fc
 simp only [zF, Nat.reduceAdd] at hB1
 go_wp2_with fail
 exact bodyPost_ret (v := fracV x) (by simp [results, Tryz.results80, go_sem, hB1]) rfl ⟨rfl, hPt.bl⟩
end Go.Proofs.YthffglapmkkohaaGreatDoor
namespace Go.Proofs.YthffglapmkkohaaGreatDoor
open Go.RowKit
attribute [local irreducible] lo hs sm s64 c64 d64 b64 mh ml pd pc qd qc val hiB str cmpI srD lz nb zl zh zs fe rowV
theorem veach_w (K : FuncId) (caps : Array Value) (eg : ∀ (args : Array Value) (w : World), (callFunc K args).run Tryz.prog w = .ok (.enter K args) w) (n : Nat) (f : Nat → Rat) (P : World → Prop) (hP : Keeps P)
  (HC : ∀ i, i < n → ∀ w, P w → Calls Tryz.prog K (#[.int .i64 (i : Int)] ++ caps) w fun xe w' => xe = .returned (fracV (f i)) ∧ Below w.heap.size w w')
  (hn : n ≤ 100000) (w : World) (kP : P w) :
  Calls Tryz.prog 79 #[.int .i64 (n : Int), .func (.func K) #[] caps] w fun xe w' => ∃ v, xe = .returned v ∧ NV w.heap.size (tabV n f) v w' ∧ Below w.heap.size w w' := by
 have hmk := fun W => makeV W (n : Int) n rfl (by omega)
 replace hP := Lib.hid hP
 replace HC := Lib.hid HC
 replace hn := Lib.hid hn
 have hL0 : GL w w [] := GL.start w
 obtain ⟨x1, hweq, hL0⟩ := GL.named (hL0.new rfl (frCs (List.replicate n 0)) 36)
 rw [← rowV_zero f n] at hL0
 replace kP := Lib.hid kP
 go_enter Tryz.func79, Tryz.ntmps79
 go_wp2_with fail
 clear hweq hmk
 obtain ⟨g, hg⟩ : ∃ g, g = w.heap.size := ⟨_, rfl⟩
 rw [← hg] at hL0 ⊢
 replace hg := Lib.hid hg
 go_loopg [10] n (fun gk iv wr => ∃ (k : Nat) (zi : Int), k + gk = n ∧ iv = .int .i64 zi ∧ zi = (k : Int) ∧ GL w wr [(g, frCs (rowV f n k))])
 case atStart => exact ⟨0, 0, Nat.zero_add n, by first | rfl | go_num, rfl, hL0⟩
 case round =>
  clear hL0
  obtain ⟨k, zi, hik, rfl, hzi, hL0⟩ := hrel
  rcases Nat.lt_or_ge k n with hin | hin
  ·subst hzi
   have k1 : (k : Int) < (n : Int) := by omega
   have k0 : (0 : Int) ≤ (k : Int) := Int.natCast_nonneg _
   have kb : (k : Int) ≤ 100000 := by have := hn.out; omega
   have HC1 := HC.out k hin
   obtain ⟨q, hq⟩ : ∃ q, q = f k := ⟨_, rfl⟩
   rw [← hq] at HC1
   replace hq := Lib.hid hq
   replace HC1 := Lib.hid HC1
   go_wp2_with fail
   with_reducible refine Calls.mono (HC1.out _ (hP.out.at hL0.bl kP.out)) ?_
   rintro e y1 ⟨rfl, hb⟩
   replace hL0 := hL0.call hb
   clear hb
   have zh := hL0.get _ _ mZ
   have hlen := rowV_len f n k (Nat.le_of_lt hin)
   obtain ⟨z0, z1, z2, z3, z4⟩ := (hd_fs zh).cell k (by omega)
   have zz := zh.frz
   clear zh
   have hPt := hL0.putF 0 g (rowV f n k) rfl k q (by omega)
   simp only [List.set_cons_zero, List.set_cons_succ] at hPt
   generalize hputr : (((((y1.setCell ⟨g, k * 5, none⟩ (.int .u64 ((zl q.num : Nat) : Int))).setCell ⟨g, k * 5 + 1, none⟩ (.string (zh q.num))).setCell ⟨g, k * 5 + 2, none⟩ (.bool (zs q.num))).setCell ⟨g, k * 5 + 3, none⟩ (.int .u64 ((lo (fe q) : Nat) : Int))).setCell ⟨g, k * 5 + 4, none⟩ (.string (hs (fe q)))) = y2 at hPt
   rw [hq.out, rowV_step f n k hin] at hPt
   clear hL0
   have hL0 := hPt
   clear hPt
   go_wp2_with fail
   go_roundg (n - (k + 1))
   case measure => omega
   case rel => exact ⟨k + 1, _, by omega, by first | rfl | go_num, by omega, hL0⟩
  ·obtain rfl : k = n := by omega
   subst hzi
   have k1 : ¬ (k : Int) < (k : Int) := by omega
   rw [rowV_end] at hL0
   have hNV : NV w.heap.size (tabV k f) (.slice (some ⟨g, 0, none⟩) k k) wr := ⟨g, by rw [tabV_len], Nat.le_of_eq hg.out.symm, hL0.get _ _ mZ⟩
   replace hNV := Lib.hid hNV
   go_wp2_with fail
   exact bodyPost_ret (v := .slice (some ⟨g, 0, none⟩) k k) (by simp [results, Tryz.results79, go_sem]) rfl ⟨_, rfl, hNV.out, hL0.bl⟩
end Go.Proofs.YthffglapmkkohaaGreatDoor
namespace Go.Proofs.YthffglapmkkohaaGreatDoor
open Go.RowKit
attribute [local irreducible] lo hs sm s64 c64 d64 b64 mh ml pd pc qd qc val hiB str cmpI srD lz nb zl zh zs fe rowV
theorem vfault_w (m c g : Nat) (ao : Option Addr) (ln : Nat → Nat) (hm : m ≤ 100000) (hln : ∀ i, i < m → ln i ≤ 2048) (w : World)
  (hx : 0 < m → ao = some ⟨g, 0, none⟩) (hc : ∀ i, i < m → ∃ a d, w.cell? ⟨g, i, none⟩ = some (.slice a (ln i) d)) :
  Calls Tryz.prog 74 #[.slice ao m c] w fun xe w' => ∃ e : Int, xe = .returned (.int .i64 e) ∧ ((e = 0 ∧ ∀ i, i < m → ln i = ln 0) ∨ (e = 1 ∧ ∃ i, i < m ∧ ln i ≠ ln 0)) ∧ Below w.heap.size w w' := by
 replace hm := Lib.hid hm
 replace hln := Lib.hid hln
 replace hx := Lib.hid hx
 replace hc := Lib.hid hc
 go_enter Tryz.func74, Tryz.ntmps74
 go_wp2_with fail
 go_loopg [9] m (fun gk iv wr => ∃ (k : Nat) (zi : Int), k + gk = m ∧ iv = .int .i64 zi ∧ zi = (k : Int) ∧ wr = w)
 case atStart => exact ⟨0, 0, Nat.zero_add m, by first | rfl | go_num, rfl, rfl⟩
 case round =>
  obtain ⟨k, zi, hik, rfl, hzi, hwr⟩ := hrel
  subst hwr
  have hmm := hm.out
  rcases Nat.lt_or_ge k m with hin | hin
  ·subst hzi
   have k1 : (k : Int) < (m : Int) := by omega
   have k0 : (0 : Int) ≤ (k : Int) := Int.natCast_nonneg _
   have kb : (k : Int) ≤ 100000 := by omega
   obtain ⟨a, d, hcell⟩ := hc.out k hin
   have hl := hln.out k hin
   have e0 := hx.out (by omega)
   subst e0
   have l1 : ¬ (2048 : Int) < (ln k : Int) := by omega
   have l2 : ¬ 2048 < ln k := by omega
   generalize ln k = lk at *
   go_wp2_with fail
   go_roundg (m - (k + 1))
   case measure => omega
   case rel => exact ⟨k + 1, _, by omega, by first | rfl | go_num, by omega, rfl⟩
  ·obtain rfl : k = m := by omega
   subst hzi
   have k1 : ¬ (k : Int) < (k : Int) := by omega
   go_wp2_with fail
   go_loopg [19] k (fun gk iv wr2 => ∃ (j : Nat) (zi : Int), j + gk = k ∧ iv = .int .i64 zi ∧ zi = (j : Int) ∧ (∀ i, i < j → ln i = ln 0) ∧ wr2 = wr)
   case atStart => exact ⟨0, 0, Nat.zero_add k, by first | rfl | go_num, rfl, fun i hi => by omega, rfl⟩
   case round =>
    obtain ⟨j, zi, hjk, rfl, hzi, hall, hwr⟩ := hrel
    subst hwr
    replace hall := Lib.hid hall
    rcases Nat.lt_or_ge j k with hjn | hjn
    ·subst hzi
     have k2 : (j : Int) < (k : Int) := by omega
     have k3 : (0 : Int) ≤ (j : Int) := Int.natCast_nonneg _
     have kb : (j : Int) ≤ 100000 := by omega
     have k4 : (0 : Int) < (k : Int) := by omega
     obtain ⟨a, d, hcell⟩ := hc.out j hjn
     obtain ⟨a2, d2, hcell2⟩ := hc.out 0 (by omega)
     have e0 := hx.out (by omega)
     subst e0
     by_cases heq : ln j = ln 0
     ·have hall2 : ∀ i, i < j + 1 → ln i = ln 0 := fun i hi => by
       rcases Nat.lt_or_ge i j with h | h
       ·exact hall.out i h
       ·rw [show i = j by omega]; exact heq
      replace hall2 := Lib.hid hall2
      rw [heq] at hcell
      clear heq
      generalize hl0 : ln 0 = l0 at hcell hcell2
      replace hl0 := Lib.hid hl0
      go_wp2_with fail
      go_roundg (k - (j + 1))
      case measure => omega
      case rel => exact ⟨j + 1, _, by omega, by first | rfl | go_num, by omega, hall2.out, rfl⟩
     ·have hex : ∃ i, i < k ∧ ln i ≠ ln 0 := ⟨j, hjn, heq⟩
      replace hex := Lib.hid hex
      have n1 : ¬ (ln j : Int) = (ln 0 : Int) := by omega
      have n2 : ((ln j : Int) == (ln 0 : Int)) = false := beq_eq_false_iff_ne.2 n1
      have n3 : (ln j == ln 0) = false := beq_eq_false_iff_ne.2 heq
      go_wp2_with fail
      exact bodyPost_ret (v := .int .i64 1) (by simp [results, Tryz.results74, go_sem]) rfl ⟨1, rfl, .inr ⟨rfl, hex.out⟩, Below.refl _ _⟩
    ·obtain rfl : j = k := by omega
     subst hzi
     have k2 : ¬ (j : Int) < (j : Int) := by omega
     go_wp2_with fail
     exact bodyPost_ret (v := .int .i64 0) (by simp [results, Tryz.results74, go_sem]) rfl ⟨0, rfl, .inl ⟨rfl, hall.out⟩, Below.refl _ _⟩
theorem vls_fault {L : List (List Rat)} (hm : L.length ≤ 100000) (hL : ∀ l ∈ L, l.length ≤ 2048) {v : Value} {w : World} (hv : VLs w v L) :
  Calls Tryz.prog 74 #[v] w fun xe w' => ∃ e : Int, xe = .returned (.int .i64 e) ∧ ((e = 0 ∧ ∀ l ∈ L, l.length = (L.getD 0 []).length) ∨ (e = 1 ∧ ∃ l ∈ L, l.length ≠ (L.getD 0 []).length)) ∧ Below w.heap.size w w' := by
 obtain ⟨ao, c, g, rfl, h2, h3⟩ := hv
 have hg : ∀ i (h : i < L.length), L.getD i [] = L[i] := fun i h => by rw [List.getD_eq_getElem?_getD, List.getElem?_eq_getElem h]; rfl
 refine (vfault_w L.length c g ao (fun i => (L.getD i []).length) hm (fun i hi => by rw [hg i hi]; exact hL _ (List.getElem_mem hi)) w (fun h => (h2 h).1) (fun i hi => ?_)).mono ?_
 ·obtain ⟨u, h4, h5⟩ := h3 i hi
  obtain ⟨a, d, rfl, -⟩ := slq_len h5
  exact ⟨a, d, by rw [h4, hg i hi]⟩
 ·rintro e w' ⟨ev, rfl, he, hb⟩
  refine ⟨ev, rfl, ?_, hb⟩
  rcases he with ⟨h, h'⟩ | ⟨h, i, hi, h'⟩
  ·refine .inl ⟨h, fun l hl => ?_⟩
   obtain ⟨i, hi, rfl⟩ := List.getElem_of_mem hl
   rw [← hg i hi]; exact h' i hi
  ·exact .inr ⟨h, L[i], List.getElem_mem hi, by rw [← hg i hi]; exact h'⟩
theorem vfault_ok {L : List (List Rat)} {n : Nat} (hm : L.length ≤ 100000) (hL : ∀ l ∈ L, l.length = n) (hn : n ≤ 2048) (v : Value) (w : World) (hv : VLs w v L) :
  Calls Tryz.prog 74 #[v] w fun xe w' => xe = .returned (.int .i64 0) ∧ Below w.heap.size w w' := by
 refine (vls_fault hm (fun l hl => by rw [hL l hl]; exact hn) hv).mono ?_
 rintro e w' ⟨ev, rfl, he, hb⟩
 rcases he with ⟨rfl, -⟩ | ⟨-, l, hl, h⟩
 ·exact ⟨rfl, hb⟩
 ·cases L with
  | nil => cases hl
  | cons a L => exact absurd ((hL l hl).trans (hL a mZ).symm) h
theorem vfault_arg {L : List (List Rat)} (hm : L.length ≤ 100000) (hL : ∀ l ∈ L, l.length ≤ 2048) (hne : ∃ l ∈ L, l.length ≠ (L.getD 0 []).length) (v : Value) (w : World) (hv : VLs w v L) :
  Calls Tryz.prog 74 #[v] w fun xe w' => xe = .returned (.int .i64 1) ∧ Below w.heap.size w w' := by
 refine (vls_fault hm hL hv).mono ?_
 rintro e w' ⟨ev, rfl, he, hb⟩
 rcases he with ⟨-, h⟩ | ⟨rfl, -⟩
 ·obtain ⟨l, hl, h'⟩ := hne
  exact absurd (h l hl) h'
 ·exact ⟨rfl, hb⟩
theorem vcombine_ok (K : FuncId) (caps : Array Value) (eg : ∀ (args : Array Value) (w : World), (callFunc K args).run Tryz.prog w = .ok (.enter K args) w) (n : Nat) (f : Nat → Rat) (P : World → Prop) (hP : Keeps P)
  (HC : ∀ i, i < n → ∀ w, P w → Calls Tryz.prog K (#[.int .i64 (i : Int)] ++ caps) w fun xe w' => xe = .returned (fracV (f i)) ∧ Below w.heap.size w w')
  (L : List (List Rat)) (h0 : 0 < L.length) (hm : L.length ≤ 100000) (hL : ∀ l ∈ L, l.length = n) (hn : n ≤ 2048) (v : Value) (w : World) (kP : P w) (hv : VLs w v L) :
  Calls Tryz.prog 70 #[.func (.func K) #[] caps, v] w fun xe w' => ∃ u, xe = .returned (.tuple #[u, .int .i64 0]) ∧ NV w.heap.size (tabV n f) u w' ∧ Below w.heap.size w w' := by
 have HF := Lib.hid (vfault_ok hm hL hn v w hv)
 have HE := Lib.hid (fun w kP => veach_w K caps eg n f P hP HC (by omega) w kP)
 clear eg HC
 obtain ⟨ao, c, g, rfl, h2, h3⟩ := hv
 obtain ⟨rfl, hg⟩ := h2 h0
 obtain ⟨u0, hc0, hs0⟩ := h3 0 h0
 obtain ⟨a0, d0, rfl, -⟩ := slq_len hs0
 rw [hL _ (List.getElem_mem h0)] at hc0
 clear h3 hs0 hL h2
 generalize L.length = m at *
 have m1 : ¬ (m : Int) = 0 := by omega
 have m2 : ((m : Int) == 0) = false := beq_eq_false_iff_ne.2 m1
 have m3 : ¬ m = 0 := by omega
 have m4 : (0 : Int) < (m : Int) := by omega
 replace hc0 := Lib.hid hc0
 replace hP := Lib.hid hP
 replace kP := Lib.hid kP
 go_enter Tryz.func70, Tryz.ntmps70
 go_wp2_with fail
 with_reducible refine Calls.mono HF.out ?_
 rintro e y1 ⟨rfl, hb⟩
 have hc1 := keepsC hb hc0.out
 have kP1 := Lib.hid (hP.out.at hb kP.out)
 replace hb := Lib.hid hb
 go_wp2_with fail
 with_reducible refine Calls.mono (HE.out y1 kP1.out) ?_
 rintro e y2 ⟨u, rfl, hnv, hb2⟩
 replace hnv := Lib.hid (hnv.mono hb.out.size)
 replace hb2 := Lib.hid (hb.out.trans (hb2.mono hb.out.size))
 clear hc1
 obtain ⟨gu, rfl, -, -⟩ := id hnv.out
 go_wp2_with fail
 exact bodyPost_ret (v := .tuple #[_, .int .i64 0]) (by simp [results, Tryz.results70, go_sem]) rfl ⟨_, rfl, hnv.out, hb2.out⟩
theorem vcombine_nil (fv : Value) (ao : Option Addr) (c : Nat) (w : World) :
  Calls Tryz.prog 70 #[fv, .slice ao 0 c] w fun xe w' => xe = .returned (.tuple #[.slice none 0 0, .int .i64 0]) ∧ Below w.heap.size w w' := by
 have HF := Lib.hid (vfault_ok (L := []) (n := 0) (by decide) (fun l hl => by cases hl) (by decide) (.slice ao 0 c) w (VLs.nil w ao c))
 go_enter Tryz.func70, Tryz.ntmps70
 go_wp2_with fail
 with_reducible refine Calls.mono HF.out ?_
 rintro e y1 ⟨rfl, hb⟩
 replace hb := Lib.hid hb
 go_wp2_with fail
 exact bodyPost_ret (v := .tuple #[.slice none 0 0, .int .i64 0]) (by simp [results, Tryz.results70, go_sem]) rfl ⟨rfl, hb.out⟩
theorem vcombine_arg (fv : Value) (L : List (List Rat)) (hm : L.length ≤ 100000) (hL : ∀ l ∈ L, l.length ≤ 2048) (hne : ∃ l ∈ L, l.length ≠ (L.getD 0 []).length) (v : Value) (w : World) (hv : VLs w v L) :
  Calls Tryz.prog 70 #[fv, v] w fun xe w' => xe = .returned (.tuple #[.slice none 0 0, .int .i64 1]) ∧ Below w.heap.size w w' := by
 have HF := Lib.hid (vfault_arg hm hL hne v w hv)
 clear hv hne hL hm
 go_enter Tryz.func70, Tryz.ntmps70
 go_wp2_with fail
 with_reducible refine Calls.mono HF.out ?_
 rintro e y1 ⟨rfl, hb⟩
 replace hb := Lib.hid hb
 go_wp2_with fail
 exact bodyPost_ret (v := .tuple #[.slice none 0 0, .int .i64 1]) (by simp [results, Tryz.results70, go_sem]) rfl ⟨rfl, hb.out⟩
end Go.Proofs.YthffglapmkkohaaGreatDoor
namespace Go.Proofs.YthffglapmkkohaaGreatDoor
open Go.RowKit
attribute [local irreducible] lo hs sm s64 c64 d64 b64 mh ml pd pc qd qc val hiB str cmpI srD lz nb zl zh zs fe rowV tabV gv bsV mxV
theorem fsc {w : World} {g : Nat} {l : List Rat} (h : FS w g l) (i : Nat) (hi : i < l.length) : w.cell? ⟨g, i * 5, none⟩ = some (.int .u64 ((zl (gv l i).num : Nat) : Int)) ∧ w.cell? ⟨g, i * 5 + 1, none⟩ = some (.string (zh (gv l i).num)) ∧ w.cell? ⟨g, i * 5 + 2, none⟩ = some (.bool (zs (gv l i).num)) ∧
  w.cell? ⟨g, i * 5 + 3, none⟩ = some (.int .u64 ((lo (fe (gv l i)) : Nat) : Int)) ∧ w.cell? ⟨g, i * 5 + 4, none⟩ = some (.string (hs (fe (gv l i)))) := by
 rw [gv_get hi]; exact h.cell i hi
theorem slq_form' {w : World} {v : Value} {l : List Rat} (h : SlQ w v l) : ∃ ao c, v = .slice ao l.length c := by
 obtain ⟨ao, c, e, _⟩ := slq_len h
 exact ⟨ao, c, e⟩
theorem slq_at {w : World} {ao : Option Addr} {n c : Nat} {l : List Rat} (h : SlQ w (.slice ao n c) l) (i : Nat) (hi : i < l.length) : ∃ g, ao = some ⟨g, 0, none⟩ ∧ n = l.length ∧ FS w g l := slq_pos h (by omega)
theorem vls_two {w : World} {g c : Nat} {u v : Value} {x y : List Rat} (h : Hd w g [u, v]) (hu : SlQ w u x) (hv : SlQ w v y) : VLs w (.slice (some ⟨g, 0, none⟩) 2 c) [x, y] := by
 refine ⟨_, c, g, rfl, fun _ => ⟨rfl, h.lt⟩, fun i hi => ?_⟩
 rcases (by simp at hi; omega : i = 0 ∨ i = 1) with rfl | rfl
 ·exact ⟨u, h.cell 0 (by simp), hu⟩
 ·exact ⟨v, h.cell 1 (by simp), hv⟩
theorem qsk (l : List Rat) {k : Nat} (h : ∀ q ∈ l, Sz q k) (i : Nat) (hi : i < l.length) : Sz (gv l i) k := h _ (gv_mem hi)
theorem endot : ∀ (args : Array Value) (w : World), (callFunc 151 args).run Tryz.prog w = .ok (.enter 151 args) w := enters_of Tryz.func151 (by kernel_rfl) rfl
theorem enaxpy : ∀ (args : Array Value) (w : World), (callFunc 115 args).run Tryz.prog w = .ok (.enter 115 args) w := enters_of Tryz.func115 (by kernel_rfl) rfl
theorem enmax : ∀ (args : Array Value) (w : World), (callFunc 130 args).run Tryz.prog w = .ok (.enter 130 args) w := enters_of Tryz.func130 (by kernel_rfl) rfl
theorem enof : ∀ (args : Array Value) (w : World), (callFunc 125 args).run Tryz.prog w = .ok (.enter 125 args) w := enters_of Tryz.func125 (by kernel_rfl) rfl
theorem enacross : ∀ (args : Array Value) (w : World), (callFunc 150 args).run Tryz.prog w = .ok (.enter 150 args) w := enters_of Tryz.func150 (by kernel_rfl) rfl
theorem enpart : ∀ (args : Array Value) (w : World), (callFunc 80 args).run Tryz.prog w = .ok (.enter 80 args) w := enters_of Tryz.func80 (by kernel_rfl) rfl
theorem ensum : ∀ (args : Array Value) (w : World), (callFunc 71 args).run Tryz.prog w = .ok (.enter 71 args) w := enters_of Tryz.func71 (by kernel_rfl) rfl
theorem enmix : ∀ (args : Array Value) (w : World), (callFunc 75 args).run Tryz.prog w = .ok (.enter 75 args) w := enters_of Tryz.func75 (by kernel_rfl) rfl
/-- A fraction in a box. -/
def Bq (w : World) (b : Nat) (q : Rat) : Prop := w.cell? ⟨b, 0, none⟩ = some (.int .u64 ((zl q.num : Nat) : Int)) ∧ w.cell? ⟨b, 1, none⟩ = some (.string (zh q.num)) ∧ w.cell? ⟨b, 2, none⟩ = some (.bool (zs q.num)) ∧ w.cell? ⟨b, 3, none⟩ = some (.int .u64 ((lo (fe q) : Nat) : Int)) ∧ w.cell? ⟨b, 4, none⟩ = some (.string (hs (fe q)))
theorem Bq.keeps (b : Nat) (q : Rat) : Keeps fun w => Bq w b q := fun _ _ hb h => ⟨keepsC hb h.1, keepsC hb h.2.1, keepsC hb h.2.2.1, keepsC hb h.2.2.2.1, keepsC hb h.2.2.2.2⟩
theorem Bq.of {w : World} {b : Nat} {q : Rat} (h : Hd w b [.int .u64 ((zl q.num : Nat) : Int), .string (zh q.num), .bool (zs q.num), .int .u64 ((lo (fe q) : Nat) : Int), .string (hs (fe q))]) : Bq w b q :=
 ⟨h.cell 0 (by simp), h.cell 1 (by simp), h.cell 2 (by simp), h.cell 3 (by simp), h.cell 4 (by simp)⟩
theorem keepsB (a : Addr) (v : Value) : Keeps fun w => w.cell? a = some v := fun _ _ hb h => keepsC hb h
theorem vaxpy_at (c : Rat) (x y : List Rat) (n k b1 b2 b3 : Nat) (va vb : Value) (hx : x.length = n) (hy : y.length = n) (hk : k ≤ 1000000) (sc : Sz c k) (sx : ∀ q ∈ x, Sz q k) (sy : ∀ q ∈ y, Sz q k) (i : Nat) (hi : i < n) (w : World)
  (hw : Bq w b1 c ∧ SlQ w va x ∧ SlQ w vb y ∧ w.cell? ⟨b2, 0, none⟩ = some va ∧ w.cell? ⟨b3, 0, none⟩ = some vb) :
  Calls Tryz.prog 115 (#[.int .i64 (i : Int)] ++ #[.pointer (some ⟨b1, 0, none⟩), .pointer (some ⟨b2, 0, none⟩), .pointer (some ⟨b3, 0, none⟩)]) w fun xe w' => xe = .returned (fracV (c * gv x i + gv y i)) ∧ Below w.heap.size w w' := by
 obtain ⟨⟨p0, p1, p2, p3, p4⟩, h1, h2, h3, h4⟩ := hw
 obtain ⟨aa, ca, rfl⟩ := slq_form' h1
 obtain ⟨ab, cb, rfl⟩ := slq_form' h2
 obtain ⟨ga, rfl, -, f1⟩ := slq_at h1 i (by omega)
 obtain ⟨gb, rfl, -, f2⟩ := slq_at h2 i (by omega)
 obtain ⟨r0, r1, r2, r3, r4⟩ := fsc f1 i (by omega)
 obtain ⟨q0, q1, q2, q3, q4⟩ := fsc f2 i (by omega)
 have sxi := qsk x sx i (by omega)
 exact vaxpy1_w i x.length y.length ca cb ga gb b1 b2 b3 c (gv x i) (gv y i) (c * gv x i) _ (fun w => mulF _ _ k sc sxi (by omega) w) (fun w => addF _ _ (k + k) (sc.mul sxi) ((qsk y sy i (by omega)).mono (by omega)) (by omega) w) (by omega) (by omega) w p0 p1 p2 p3 p4 h3 h4 r0 r1 r2 r3 r4 q0 q1 q2 q3 q4
theorem vaxpyV (c : Rat) (x y : List Rat) (n k : Nat) (hx : x.length = n) (hy : y.length = n) (hn : n ≤ 2048) (hk : k ≤ 1000000) (sc : Sz c k) (sx : ∀ q ∈ x, Sz q k) (sy : ∀ q ∈ y, Sz q k) (va vb : Value) (w : World) (hv : SlQ w va x) (hu : SlQ w vb y) :
  Calls Tryz.prog 47 #[fracV c, va, vb] w fun xe w' => ∃ u, xe = .returned (.tuple #[u, .int .i64 0]) ∧ NV w.heap.size (tabV n fun i => c * gv x i + gv y i) u w' ∧ Below w.heap.size w w' := by
 obtain ⟨aa, ca, rfl⟩ := slq_form' hv
 obtain ⟨ab, cb, rfl⟩ := slq_form' hu
 rw [hx] at hv ⊢
 rw [hy] at hu ⊢
 have HCl := fun b1 b2 b3 => vaxpy_at c x y n k b1 b2 b3 (.slice aa n ca) (.slice ab n cb) hx hy hk sc sx sy
 have hL0 : GL w w [] := GL.start w
 obtain ⟨x1, hweq, hL0⟩ := GL.named (((hL0.new rfl [.int .u64 ((zl c.num : Nat) : Int), .string (zh c.num), .bool (zs c.num), .int .u64 ((lo (fe c) : Nat) : Int), .string (hs (fe c))] 36).new (K := w.heap.size + 1) (szA _ _) [.slice aa n ca] 28).new (K := w.heap.size + 1 + 1) (by simp only [World.size_alloc]) [.slice ab n cb] 28)
 have hv1 := hv.below hL0.bl
 have hu1 := hu.below hL0.bl
 have hc1 := (hL0.get _ _ (mK mZ)).cell 0 (by simp)
 simp only [List.getElem_cons_zero, List.getElem_cons_succ] at hc1
 have hc2 := (hL0.get _ _ mZ).cell 0 (by simp)
 simp only [List.getElem_cons_zero, List.getElem_cons_succ] at hc2
 have hB := Bq.of (hL0.get _ _ (mK (mK mZ)))
 have hb2 : Below x1.heap.size x1 (x1.alloc (.cells #[.slice aa n ca, .slice ab n cb] 28)) := (Below.refl _ _).alloc (Nat.le_refl _) _
 replace hL0 := (hL0.new rfl [.slice aa n ca, .slice ab n cb] 28)
 generalize hweq2 : (x1.alloc (.cells #[.slice aa n ca, .slice ab n cb] 28)) = x2 at hL0
 rw [hweq2] at hb2
 have hv2 := hv1.below hb2
 have hu2 := hu1.below hb2
 have hd2 := keepsC hb2 hc1
 have hd3 := keepsC hb2 hc2
 have hvl := vls_two (c := 2) (hL0.get _ _ mZ) hv2 hu2
 have HC := vcombine_ok 115 #[.pointer (some ⟨w.heap.size, 0, none⟩), .pointer (some ⟨w.heap.size + 1, 0, none⟩), .pointer (some ⟨w.heap.size + 1 + 1, 0, none⟩)] enaxpy n (fun i => c * gv x i + gv y i) (fun w => Bq w _ c ∧ SlQ w (.slice aa n ca) x ∧ SlQ w (.slice ab n cb) y ∧ w.cell? ⟨_, 0, none⟩ = some (.slice aa n ca) ∧ w.cell? ⟨_, 0, none⟩ = some (.slice ab n cb)) (Keeps.and (Bq.keeps _ _) (Keeps.and (SlQ.keeps _ _) (Keeps.and (SlQ.keeps _ _) (Keeps.and (keepsB _ _) (keepsB _ _))))) (HCl _ _ _) [x, y] (by simp) (by simp) (by simp [hx, hy]) hn _ x2 ⟨Bq.keeps _ _ _ _ hb2 hB, hv2, hu2, hd2, hd3⟩ hvl
 replace HC := Lib.hid HC
 replace hL0 := Lib.hid hL0
 clear hv hv1 hv2 hu hu1 hu2 hvl hd2 hd3 hb2 HCl sx sy hx hy hB sc
 go_enter Tryz.func47, Tryz.ntmps47
 go_wp2_with fail
 with_reducible refine Calls.mono HC.out ?_
 rintro e y2 ⟨u, rfl, hnv, hb⟩
 replace hnv := Lib.hid (hnv.mono hL0.out.bl.size)
 replace hb := Lib.hid (hL0.out.bl.trans (hb.mono hL0.out.bl.size))
 obtain ⟨gu, rfl, -, -⟩ := id hnv.out
 clear hweq hweq2 hc1 hc2
 go_wp2_with fail
 exact bodyPost_ret (v := .tuple #[_, .int .i64 0]) (by simp [results, Tryz.results47, go_sem]) rfl ⟨_, rfl, hnv.out, hb.out⟩
end Go.Proofs.YthffglapmkkohaaGreatDoor
namespace Go.Proofs.YthffglapmkkohaaGreatDoor
open Go.RowKit
attribute [local irreducible] lo hs sm s64 c64 d64 b64 mh ml pd pc qd qc val hiB str cmpI srD lz nb zl zh zs fe rowV tabV gv bsV mxV
theorem vdot_at (x y : List Rat) (n k b1 b2 : Nat) (va vb : Value) (hx : x.length = n) (hy : y.length = n) (hk : k ≤ 1000000) (sx : ∀ q ∈ x, Sz q k) (sy : ∀ q ∈ y, Sz q k) (i : Nat) (hi : i < n) (w : World)
  (hw : SlQ w va x ∧ SlQ w vb y ∧ w.cell? ⟨b1, 0, none⟩ = some va ∧ w.cell? ⟨b2, 0, none⟩ = some vb) :
  Calls Tryz.prog 151 (#[.int .i64 (i : Int)] ++ #[.pointer (some ⟨b1, 0, none⟩), .pointer (some ⟨b2, 0, none⟩)]) w fun xe w' => xe = .returned (fracV (gv x i * gv y i)) ∧ Below w.heap.size w w' := by
 obtain ⟨h1, h2, h3, h4⟩ := hw
 obtain ⟨aa, ca, rfl⟩ := slq_form' h1
 obtain ⟨ab, cb, rfl⟩ := slq_form' h2
 obtain ⟨ga, rfl, -, f1⟩ := slq_at h1 i (by omega)
 obtain ⟨gb, rfl, -, f2⟩ := slq_at h2 i (by omega)
 obtain ⟨p0, p1, p2, p3, p4⟩ := fsc f1 i (by omega)
 obtain ⟨q0, q1, q2, q3, q4⟩ := fsc f2 i (by omega)
 exact vdot1_w i x.length y.length ca cb ga gb b1 b2 (gv x i) (gv y i) (gv x i * gv y i) (fun w => mulF _ _ k (qsk x sx i (by omega)) (qsk y sy i (by omega)) (by omega) w) (by omega) (by omega) w h3 h4 p0 p1 p2 p3 p4 q0 q1 q2 q3 q4
theorem sum_tab (n k : Nat) (f : Nat → Rat) (hn : n ≤ 1000) (hk : k ≤ 10) (hf : ∀ i, i < n → Sz (f i) k) (v : Value) (w : World) (h : SlQ w v (tabV n f)) :
  Calls Tryz.prog 72 #[v] w fun xe w' => xe = .returned (fracV (bsV n f)) ∧ Below w.heap.size w w' := by
 obtain ⟨ao, c, rfl⟩ := slq_form' h
 have := sumF ao (tabV n f).length c (tabV n f) k hk (by rw [tabV_len]; exact hn) (tab_all hf) w h
 rwa [qsum_tab] at this
theorem vdotS (x y : List Rat) (n k : Nat) (hx : x.length = n) (hy : y.length = n) (hn : n ≤ 1000) (hk : k ≤ 5) (sx : ∀ q ∈ x, Sz q k) (sy : ∀ q ∈ y, Sz q k) (va vb : Value) (w : World) (hv : SlQ w va x) (hu : SlQ w vb y) :
  Calls Tryz.prog 76 #[va, vb] w fun xe w' => xe = .returned (fracV (bsV n fun i => gv x i * gv y i)) ∧ Below w.heap.size w w' := by
 obtain ⟨aa, ca, rfl⟩ := slq_form' hv
 obtain ⟨ab, cb, rfl⟩ := slq_form' hu
 rw [hx] at hv ⊢
 rw [hy] at hu ⊢
 have HCl := fun b1 b2 => vdot_at x y n k b1 b2 (.slice aa n ca) (.slice ab n cb) hx hy (by omega) sx sy
 have HS := Lib.hid (fun v w h => sum_tab n (k + k) (fun i => gv x i * gv y i) hn (by omega) (fun i hi => (qsk x sx i (by omega)).mul (qsk y sy i (by omega))) v w h)
 generalize bsV n (fun i => gv x i * gv y i) = r at *
 have hL0 : GL w w [] := GL.start w
 obtain ⟨x1, hweq, hL0⟩ := GL.named (((hL0.new rfl [.slice aa n ca] 28).new (K := w.heap.size + 1) (szA _ _) [.slice ab n cb] 28).new (K := w.heap.size + 1 + 1) (by simp only [World.size_alloc]) [.int .u64 0, .string ⟨#[]⟩, .bool false, .int .u64 0, .string ⟨#[]⟩] 36)
 have hv1 := hv.below hL0.bl
 have hu1 := hu.below hL0.bl
 have hc1 := (hL0.get _ _ (mK (mK mZ))).cell 0 (by simp)
 simp only [List.getElem_cons_zero, List.getElem_cons_succ] at hc1
 have hc2 := (hL0.get _ _ (mK mZ)).cell 0 (by simp)
 simp only [List.getElem_cons_zero, List.getElem_cons_succ] at hc2
 have HC := veach_w 151 #[.pointer (some ⟨w.heap.size, 0, none⟩), .pointer (some ⟨w.heap.size + 1, 0, none⟩)] endot n (fun i => gv x i * gv y i) (fun w => SlQ w (.slice aa n ca) x ∧ SlQ w (.slice ab n cb) y ∧ w.cell? ⟨_, 0, none⟩ = some (.slice aa n ca) ∧ w.cell? ⟨_, 0, none⟩ = some (.slice ab n cb)) (Keeps.and (SlQ.keeps _ _) (Keeps.and (SlQ.keeps _ _) (Keeps.and (keepsB _ _) (keepsB _ _)))) (HCl _ _) (by omega) x1 ⟨hv1, hu1, hc1, hc2⟩
 replace HC := Lib.hid HC
 clear hv hu hv1 hu1 HCl sx sy hx hy
 go_enter Tryz.func76, Tryz.ntmps76
 go_wp2_with fail
 with_reducible refine Calls.mono HC.out ?_
 rintro e y1 ⟨u, rfl, hnv, hb⟩
 replace hL0 := hL0.call hb
 clear hb hc1 hc2 hweq
 have hsl := Lib.hid hnv.slq
 obtain ⟨gu, rfl, -, -⟩ := hnv
 go_wp2_with fail
 with_reducible refine Calls.mono (HS.out _ _ hsl.out) ?_
 rintro e y2 ⟨rfl, hb⟩
 replace hL0 := hL0.call hb
 clear hb hsl
 have hA := hL0.fc
 simp only [zF, Nat.reduceAdd] at hA
 have hPt := hL0.put 0 (w.heap.size + 1 + 1) _ rfl [.int .u64 ((zl r.num : Nat) : Int), .string (zh r.num), .bool (zs r.num), .int .u64 ((lo (fe r) : Nat) : Int), .string (hs (fe r))] rfl
 simp only [setAll, List.set_cons_zero, List.set_cons_succ] at hPt
 generalize hput1 : (((((y2.setCell ⟨w.heap.size + 1 + 1, 0, none⟩ (.int .u64 ((zl r.num : Nat) : Int))).setCell ⟨w.heap.size + 1 + 1, 1, none⟩ (.string (zh r.num))).setCell ⟨w.heap.size + 1 + 1, 2, none⟩ (.bool (zs r.num))).setCell ⟨w.heap.size + 1 + 1, 3, none⟩ (.int .u64 ((lo (fe r) : Nat) : Int))).setCell ⟨w.heap.size + 1 + 1, 4, none⟩ (.string (hs (fe r)))) = y3 at hPt
 have hB1 := hPt.fc
 simp only [zF, Nat.reduceAdd] at hB1
 go_wp2_with fail
 exact bodyPost_ret (v := fracV r) (by simp [results, Tryz.results76, go_sem, hB1]) rfl ⟨rfl, hPt.bl⟩
theorem vmax_at (x : List Rat) (n b1 : Nat) (va : Value) (hx : x.length = n) (i : Nat) (hi : i < n) (w : World)
  (hw : SlQ w va x ∧ w.cell? ⟨b1, 0, none⟩ = some va) :
  Calls Tryz.prog 130 (#[.int .i64 (i : Int)] ++ #[.pointer (some ⟨b1, 0, none⟩)]) w fun xe w' => xe = .returned (fracV (absQ (gv x i))) ∧ Below w.heap.size w w' := by
 obtain ⟨h1, h3⟩ := hw
 obtain ⟨aa, ca, rfl⟩ := slq_form' h1
 obtain ⟨ga, rfl, -, f1⟩ := slq_at h1 i (by omega)
 obtain ⟨p0, p1, p2, p3, p4⟩ := fsc f1 i (by omega)
 exact vmax1_w i x.length ca ga b1 (gv x i) (absQ (gv x i)) (fun w => absF _ w) (by omega) w h3 p0 p1 p2 p3 p4
theorem abs_tab (x : List Rat) : tabV x.length (fun i => absQ (gv x i)) = x.map absQ := by
 apply List.ext_getElem (by rw [tabV_len, List.length_map])
 intro i h1 h2
 rw [tabV_get, List.getElem_map, gv_get]
theorem max_tab (x : List Rat) (n k : Nat) (hx : x.length = n) (hn : n ≤ 100000) (hk : k ≤ 1000000) (sx : ∀ q ∈ x, Sz q k) (v : Value) (w : World) (h : SlQ w v (tabV n fun i => absQ (gv x i))) :
  Calls Tryz.prog 129 #[v] w fun xe w' => xe = .returned (fracV (mxV x)) ∧ Below w.heap.size w w' := by
 subst hx
 rw [abs_tab] at h
 obtain ⟨ao, c, rfl⟩ := slq_form' h
 unfold mxV
 exact maxF ao _ c (x.map absQ) k (by omega) (by rw [List.length_map]; omega) (fun q hq => by obtain ⟨a, ha, rfl⟩ := List.mem_map.1 hq; exact absQ_szV (sx a ha)) w h
theorem vmaxV (x : List Rat) (n k : Nat) (hx : x.length = n) (hn : n ≤ 100000) (hk : k ≤ 1000000) (sx : ∀ q ∈ x, Sz q k) (va : Value) (w : World) (hv : SlQ w va x) :
  Calls Tryz.prog 61 #[va] w fun xe w' => xe = .returned (fracV (mxV x)) ∧ Below w.heap.size w w' := by
 obtain ⟨aa, ca, rfl⟩ := slq_form' hv
 rw [hx] at hv ⊢
 have HCl := fun b1 => vmax_at x n b1 (.slice aa n ca) hx
 have HS := Lib.hid (fun v w h => max_tab x n k hx hn hk sx v w h)
 generalize mxV x = r at *
 have hL0 : GL w w [] := GL.start w
 obtain ⟨x1, hweq, hL0⟩ := GL.named ((hL0.new rfl [.slice aa n ca] 28).new (K := w.heap.size + 1) (szA _ _) [.int .u64 0, .string ⟨#[]⟩, .bool false, .int .u64 0, .string ⟨#[]⟩] 36)
 have hv1 := hv.below hL0.bl
 have hc1 := (hL0.get _ _ (mK mZ)).cell 0 (by simp)
 simp only [List.getElem_cons_zero, List.getElem_cons_succ] at hc1
 have HC := veach_w 130 #[.pointer (some ⟨w.heap.size, 0, none⟩)] enmax n (fun i => absQ (gv x i)) (fun w => SlQ w (.slice aa n ca) x ∧ w.cell? ⟨_, 0, none⟩ = some (.slice aa n ca)) (Keeps.and (SlQ.keeps _ _) (keepsB _ _)) (HCl _) hn x1 ⟨hv1, hc1⟩
 replace HC := Lib.hid HC
 clear hv hv1 HCl sx hx
 go_enter Tryz.func61, Tryz.ntmps61
 go_wp2_with fail
 with_reducible refine Calls.mono HC.out ?_
 rintro e y1 ⟨u, rfl, hnv, hb⟩
 replace hL0 := hL0.call hb
 clear hb hc1 hweq
 have hsl := Lib.hid hnv.slq
 obtain ⟨gu, rfl, -, -⟩ := hnv
 go_wp2_with fail
 with_reducible refine Calls.mono (HS.out _ _ hsl.out) ?_
 rintro e y2 ⟨rfl, hb⟩
 replace hL0 := hL0.call hb
 clear hb hsl
 have hA := hL0.fc
 simp only [zF, Nat.reduceAdd] at hA
 have hPt := hL0.put 0 (w.heap.size + 1) _ rfl [.int .u64 ((zl r.num : Nat) : Int), .string (zh r.num), .bool (zs r.num), .int .u64 ((lo (fe r) : Nat) : Int), .string (hs (fe r))] rfl
 simp only [setAll, List.set_cons_zero, List.set_cons_succ] at hPt
 generalize hput1 : (((((y2.setCell ⟨w.heap.size + 1, 0, none⟩ (.int .u64 ((zl r.num : Nat) : Int))).setCell ⟨w.heap.size + 1, 1, none⟩ (.string (zh r.num))).setCell ⟨w.heap.size + 1, 2, none⟩ (.bool (zs r.num))).setCell ⟨w.heap.size + 1, 3, none⟩ (.int .u64 ((lo (fe r) : Nat) : Int))).setCell ⟨w.heap.size + 1, 4, none⟩ (.string (hs (fe r)))) = y3 at hPt
 have hB1 := hPt.fc
 simp only [zF, Nat.reduceAdd] at hB1
 go_wp2_with fail
 exact bodyPost_ret (v := fracV r) (by simp [results, Tryz.results61, go_sem, hB1]) rfl ⟨rfl, hPt.bl⟩
def colV (L : List (List Rat)) (i k : Nat) : Rat := gv (L.getD k []) i
theorem getD_at {L : List (List Rat)} {k : Nat} (h : k < L.length) : L.getD k [] = L[k] := by rw [List.getD_eq_getElem?_getD, List.getElem?_eq_getElem h]; rfl
theorem vacross_at (L : List (List Rat)) (i b1 b2 : Nat) (v : Value) (hL : ∀ l ∈ L, i < l.length) (k : Nat) (hk : k < L.length) (w : World) (hw : VLs w v L ∧ w.cell? ⟨b1, 0, none⟩ = some v ∧ w.cell? ⟨b2, 0, none⟩ = some (.int .i64 (i : Int))) :
  Calls Tryz.prog 150 (#[.int .i64 (k : Int)] ++ #[.pointer (some ⟨b1, 0, none⟩), .pointer (some ⟨b2, 0, none⟩)]) w fun xe w' => xe = .returned (fracV (colV L i k)) ∧ Below w.heap.size w w' := by
 obtain ⟨⟨ao, c, g, rfl, h2, h3⟩, h4, h5⟩ := hw
 obtain ⟨rfl, -⟩ := h2 (by omega)
 obtain ⟨u, h6, h7⟩ := h3 k hk
 have hl := hL _ (List.getElem_mem hk)
 obtain ⟨aa, ca, rfl⟩ := slq_form' h7
 obtain ⟨ga, rfl, -, f1⟩ := slq_at h7 i hl
 obtain ⟨p0, p1, p2, p3, p4⟩ := fsc f1 i hl
 unfold colV
 rw [getD_at hk]
 exact vacross1_w k i L.length c g L[k].length ca ga b1 b2 (gv L[k] i) hk hl w h4 h5 h6 p0 p1 p2 p3 p4
theorem vacrossV (L : List (List Rat)) (i : Nat) (hm : L.length ≤ 100000) (hL : ∀ l ∈ L, i < l.length) (v : Value) (w : World) (hv : VLs w v L) :
  Calls Tryz.prog 73 #[v, .int .i64 (i : Int)] w fun xe w' => ∃ u, xe = .returned u ∧ NV w.heap.size (tabV L.length (colV L i)) u w' ∧ Below w.heap.size w w' := by
 have HCl := fun b1 b2 => vacross_at L i b1 b2 v hL
 obtain ⟨ao, c, -, rfl, -⟩ := id hv
 have hL0 : GL w w [] := GL.start w
 obtain ⟨x1, hweq, hL0⟩ := GL.named ((hL0.new rfl [.slice ao L.length c] 26).new (K := w.heap.size + 1) (szA _ _) [.int .i64 (i : Int)] 3)
 have hv1 := hv.below hL0.bl
 have hc1 := (hL0.get _ _ (mK mZ)).cell 0 (by simp)
 simp only [List.getElem_cons_zero, List.getElem_cons_succ] at hc1
 have hc2 := (hL0.get _ _ mZ).cell 0 (by simp)
 simp only [List.getElem_cons_zero, List.getElem_cons_succ] at hc2
 have HC := veach_w 150 #[.pointer (some ⟨w.heap.size, 0, none⟩), .pointer (some ⟨w.heap.size + 1, 0, none⟩)] enacross L.length (colV L i) (fun w => VLs w (.slice ao L.length c) L ∧ w.cell? ⟨_, 0, none⟩ = some (.slice ao L.length c) ∧ w.cell? ⟨_, 0, none⟩ = some (.int .i64 (i : Int))) (Keeps.and (VLs.keeps _ _) (Keeps.and (keepsB _ _) (keepsB _ _))) (HCl _ _) hm x1 ⟨hv1, hc1, hc2⟩
 clear hv hv1 HCl hL
 generalize tabV L.length (colV L i) = tl at *
 generalize L.length = m at *
 replace HC := Lib.hid HC
 replace hL0 := Lib.hid hL0
 go_enter Tryz.func73, Tryz.ntmps73
 go_wp2_with fail
 with_reducible refine Calls.mono HC.out ?_
 rintro e y1 ⟨u, rfl, hnv, hb⟩
 replace hnv := Lib.hid (hnv.mono hL0.out.bl.size)
 replace hb := Lib.hid (hL0.out.bl.trans (hb.mono hL0.out.bl.size))
 clear hc1 hc2 hweq
 obtain ⟨gu, rfl, -, -⟩ := id hnv.out
 go_wp2_with fail
 exact bodyPost_ret (v := .slice (some ⟨gu, 0, none⟩) _ _) (by simp [results, Tryz.results73, go_sem]) rfl ⟨_, rfl, hnv.out, hb.out⟩
end Go.Proofs.YthffglapmkkohaaGreatDoor
namespace Go.Proofs.YthffglapmkkohaaGreatDoor
open Go.RowKit
attribute [local irreducible] lo hs sm s64 c64 d64 b64 mh ml pd pc qd qc val hiB str cmpI srD lz nb zl zh zs fe rowV tabV gv bsV mxV colV
theorem col_sz {L : List (List Rat)} {n k : Nat} (hL : ∀ l ∈ L, l.length = n) (hs : ∀ l ∈ L, ∀ q ∈ l, Sz q k) {i : Nat} (hi : i < n) {j : Nat} (hj : j < L.length) : Sz (colV L i j) k := by
 unfold colV
 rw [getD_at hj]
 exact hs _ (List.getElem_mem hj) _ (gv_mem (by rw [hL _ (List.getElem_mem hj)]; exact hi))
theorem vsum_at (L : List (List Rat)) (n k b1 : Nat) (v : Value) (hm : L.length ≤ 1000) (hL : ∀ l ∈ L, l.length = n) (hk : k ≤ 10) (hs : ∀ l ∈ L, ∀ q ∈ l, Sz q k) (i : Nat) (hi : i < n) (w : World) (hw : VLs w v L ∧ w.cell? ⟨b1, 0, none⟩ = some v) :
  Calls Tryz.prog 71 (#[.int .i64 (i : Int)] ++ #[.pointer (some ⟨b1, 0, none⟩)]) w fun xe w' => xe = .returned (fracV (bsV L.length (colV L i))) ∧ Below w.heap.size w w' := by
 obtain ⟨h1, h2⟩ := hw
 have HA := Lib.hid (fun w hv => vacrossV L i (by omega) (fun l hl => by rw [hL l hl]; exact hi) v w hv)
 have HS := Lib.hid (fun v w h => sum_tab L.length k (colV L i) hm hk (fun j hj => col_sz hL hs hi hj) v w h)
 obtain ⟨ao, c, -, rfl, -⟩ := id h1
 generalize bsV L.length (colV L i) = r at *
 generalize tabV L.length (colV L i) = tl at *
 generalize L.length = m at *
 have k0 : (0 : Int) ≤ (i : Int) := Int.natCast_nonneg _
 show Calls _ _ #[.int .i64 (i : Int), .pointer (some ⟨b1, 0, none⟩)] _ _
 have hL0 : GL w w [] := GL.start w
 obtain ⟨x1, hweq, hL0⟩ := GL.named (hL0.new rfl [.int .u64 0, .string ⟨#[]⟩, .bool false, .int .u64 0, .string ⟨#[]⟩] 36)
 have h3 := Lib.hid (h1.below hL0.bl)
 have hc1 := keepsC hL0.bl h2
 clear h1 h2 hL hs
 go_enter Tryz.func71, Tryz.ntmps71
 go_wp2_with fail
 with_reducible refine Calls.mono (HA.out _ h3.out) ?_
 rintro e y1 ⟨u, rfl, hnv, hb⟩
 replace hL0 := hL0.call hb
 clear hb hc1 hweq h3
 have hsl := Lib.hid hnv.slq
 obtain ⟨gu, rfl, -, -⟩ := hnv
 go_wp2_with fail
 with_reducible refine Calls.mono (HS.out _ _ hsl.out) ?_
 rintro e y2 ⟨rfl, hb⟩
 replace hL0 := hL0.call hb
 clear hb hsl
 have hA := hL0.fc
 simp only [zF, Nat.reduceAdd] at hA
 have hPt := hL0.put 0 (w.heap.size) _ rfl [.int .u64 ((zl r.num : Nat) : Int), .string (zh r.num), .bool (zs r.num), .int .u64 ((lo (fe r) : Nat) : Int), .string (hs (fe r))] rfl
 simp only [setAll, List.set_cons_zero, List.set_cons_succ] at hPt
 generalize hput1 : (((((y2.setCell ⟨w.heap.size, 0, none⟩ (.int .u64 ((zl r.num : Nat) : Int))).setCell ⟨w.heap.size, 1, none⟩ (.string (zh r.num))).setCell ⟨w.heap.size, 2, none⟩ (.bool (zs r.num))).setCell ⟨w.heap.size, 3, none⟩ (.int .u64 ((lo (fe r) : Nat) : Int))).setCell ⟨w.heap.size, 4, none⟩ (.string (hs (fe r)))) = y3 at hPt
 have hB1 := hPt.fc
 simp only [zF, Nat.reduceAdd] at hB1
 go_wp2_with fail
 exact bodyPost_ret (v := fracV r) (by simp [results, Tryz.results71, go_sem, hB1]) rfl ⟨rfl, hPt.bl⟩
theorem vsumV (L : List (List Rat)) (n k : Nat) (h0 : 0 < L.length) (hm : L.length ≤ 1000) (hL : ∀ l ∈ L, l.length = n) (hn : n ≤ 2048) (hk : k ≤ 10) (hs : ∀ l ∈ L, ∀ q ∈ l, Sz q k) (v : Value) (w : World) (hv : VLs w v L) :
  Calls Tryz.prog 16 #[v] w fun xe w' => ∃ u, xe = .returned (.tuple #[u, .int .i64 0]) ∧ NV w.heap.size (tabV n fun i => bsV L.length (colV L i)) u w' ∧ Below w.heap.size w w' := by
 have HCl := fun b1 => vsum_at L n k b1 v hm hL hk hs
 obtain ⟨ao, c, -, rfl, -⟩ := id hv
 have hL0 : GL w w [] := GL.start w
 obtain ⟨x1, hweq, hL0⟩ := GL.named (hL0.new rfl [.slice ao L.length c] 26)
 have hv1 := hv.below hL0.bl
 have hc1 := (hL0.get _ _ mZ).cell 0 (by simp)
 simp only [List.getElem_cons_zero, List.getElem_cons_succ] at hc1
 have HC := vcombine_ok 71 #[.pointer (some ⟨w.heap.size, 0, none⟩)] ensum n (fun i => bsV L.length (colV L i)) (fun w => VLs w (.slice ao L.length c) L ∧ w.cell? ⟨_, 0, none⟩ = some (.slice ao L.length c)) (Keeps.and (VLs.keeps _ _) (keepsB _ _)) (HCl _) L h0 (by omega) hL hn _ x1 ⟨hv1, hc1⟩ hv1
 clear hv hv1 HCl hL hs
 generalize tabV n (fun i => bsV L.length (colV L i)) = tl at *
 generalize L.length = m at *
 replace HC := Lib.hid HC
 replace hL0 := Lib.hid hL0
 go_enter Tryz.func16, Tryz.ntmps16
 go_wp2_with fail
 with_reducible refine Calls.mono HC.out ?_
 rintro e y2 ⟨u, rfl, hnv, hb⟩
 replace hnv := Lib.hid (hnv.mono hL0.out.bl.size)
 replace hb := Lib.hid (hL0.out.bl.trans (hb.mono hL0.out.bl.size))
 obtain ⟨gu, rfl, -, -⟩ := id hnv.out
 clear hc1 hweq
 go_wp2_with fail
 exact bodyPost_ret (v := .tuple #[_, .int .i64 0]) (by simp [results, Tryz.results16, go_sem]) rfl ⟨_, rfl, hnv.out, hb.out⟩
theorem vsumV_nil (ao : Option Addr) (c : Nat) (w : World) :
  Calls Tryz.prog 16 #[.slice ao 0 c] w fun xe w' => xe = .returned (.tuple #[.slice none 0 0, .int .i64 0]) ∧ Below w.heap.size w w' := by
 have HC := Lib.hid (fun fv w => vcombine_nil fv ao c w)
 have hL0 : GL w w [] := GL.start w
 obtain ⟨x1, hweq, hL0⟩ := GL.named (hL0.new rfl [.slice ao 0 c] 26)
 have hc1 := (hL0.get _ _ mZ).cell 0 (by simp)
 simp only [List.getElem_cons_zero, List.getElem_cons_succ] at hc1
 replace hL0 := Lib.hid hL0
 go_enter Tryz.func16, Tryz.ntmps16
 go_wp2_with fail
 with_reducible refine Calls.mono (HC.out _ _) ?_
 rintro e y2 ⟨rfl, hb⟩
 replace hb := Lib.hid (hL0.out.bl.trans (hb.mono hL0.out.bl.size))
 clear hc1 hweq
 go_wp2_with fail
 exact bodyPost_ret (v := .tuple #[.slice none 0 0, .int .i64 0]) (by simp [results, Tryz.results16, go_sem]) rfl ⟨rfl, hb.out⟩
/-- The coefficients as a list. -/
def mixV (c : List Rat) (L : List (List Rat)) (i : Nat) : Rat := bsV L.length fun k => gv c k * colV L i k
theorem vmix_at (cl : List Rat) (L : List (List Rat)) (n k b1 b2 : Nat) (vc v : Value) (hc : cl.length = L.length) (hm : L.length ≤ 1000) (hL : ∀ l ∈ L, l.length = n) (hk : k ≤ 5) (hs : ∀ l ∈ L, ∀ q ∈ l, Sz q k) (sc : ∀ q ∈ cl, Sz q k) (i : Nat) (hi : i < n) (w : World) (hw : SlQ w vc cl ∧ VLs w v L ∧ w.cell? ⟨b1, 0, none⟩ = some vc ∧ w.cell? ⟨b2, 0, none⟩ = some v) :
  Calls Tryz.prog 75 (#[.int .i64 (i : Int)] ++ #[.pointer (some ⟨b1, 0, none⟩), .pointer (some ⟨b2, 0, none⟩)]) w fun xe w' => xe = .returned (fracV (mixV cl L i)) ∧ Below w.heap.size w w' := by
 obtain ⟨h0, h1, h2, h3⟩ := hw
 have HA := Lib.hid (fun w hv => vacrossV L i (by omega) (fun l hl => by rw [hL l hl]; exact hi) v w hv)
 have HD := Lib.hid (fun u w (hu : SlQ w vc cl) (h : SlQ w u (tabV L.length (colV L i))) => vdotS cl (tabV L.length (colV L i)) L.length k hc (tabV_len _ _) hm hk sc (tab_all fun j hj => col_sz hL hs hi hj) vc u w hu h)
 have er : bsV L.length (fun j => gv cl j * gv (tabV L.length (colV L i)) j) = mixV cl L i := bs_congr fun j hj => by rw [gv_tab hj]
 rw [er] at HD
 clear er
 obtain ⟨ac, cc, rfl⟩ := slq_form' h0
 obtain ⟨ao, c, -, rfl, -⟩ := id h1
 generalize mixV cl L i = r at *
 generalize tabV L.length (colV L i) = tl at *
 generalize L.length = m at *
 have k0 : (0 : Int) ≤ (i : Int) := Int.natCast_nonneg _
 show Calls _ _ #[.int .i64 (i : Int), .pointer (some ⟨b1, 0, none⟩), .pointer (some ⟨b2, 0, none⟩)] _ _
 have hL0 : GL w w [] := GL.start w
 obtain ⟨x1, hweq, hL0⟩ := GL.named (hL0.new rfl [.int .u64 0, .string ⟨#[]⟩, .bool false, .int .u64 0, .string ⟨#[]⟩] 36)
 have h4 := Lib.hid (h0.below hL0.bl)
 have h5 := Lib.hid (h1.below hL0.bl)
 have hc1 := Lib.hid (keepsC hL0.bl h2)
 have hc2 := Lib.hid (keepsC hL0.bl h3)
 clear h0 h1 h2 h3 hL hs sc
 go_enter Tryz.func75, Tryz.ntmps75
 go_upto_region 1 with fail
 clear hweq
 refine region_tl 5 [EV (.slice ac cl.length cc), EV (.slice ao m c), EV (.int .i64 (i : Int)), PV8 tl, EV (fracV r)] (by kernel_rfl) (by kernel_rfl) ?_ ?_ ?_
 ·repeat' first | exact stays_nil | apply stays_cons | exact stays_eq _ | exact stays_slq8 _
 ·simp only [List.take_succ_cons, List.take_zero, hopsR, and_true]
  refine ⟨?_, ?_, ?_, ?_, ?_⟩ <;> intro fv w1 hb1 hp
  all_goals (simp only [putsV, Act.put, zP, Nat.zero_add, Nat.reduceAdd])
  ·refine tyAt_none rfl ?_
   have hz := keepsC (below_drew hb1) hc1.out
   simp [tyUpon, execOp, go_sem, Act.eval, hz, Below.refl]
  ·refine tyAt_none rfl ?_
   have hz := keepsC (below_drew hb1) hc2.out
   simp [tyUpon, execOp, go_sem, Act.eval, hz, Below.refl]
  ·refine tyAt_none rfl ?_
   simp [tyUpon, execOp, go_sem, Act.eval, Below.refl]
  ·have e1 : EV _ (fv 1) w1 := hp 1 (LC (by kernel_rfl))
   have e2 : EV _ (fv 2) w1 := hp 2 (LC (by kernel_rfl))
   refine tyAt_none rfl ?_
   refine ty_call (f := 73) (args := #[.slice ao m c, .int .i64 (i : Int)]) (by simp [execOp, go_sem, Act.eval, e1, e2]) ?_
   exact (HA.out w1 (h5.out.below (below_drew hb1))).mono fun e w2 ⟨u, h1, h2, h3⟩ => ⟨_, h1, h2.slq, h3⟩
  ·have e0 : EV _ (fv 0) w1 := hp 0 (LC (by kernel_rfl))
   have e3 : PV8 tl (fv 3) w1 := hp 3 (LC (by kernel_rfl))
   refine tyAt_none rfl ?_
   refine ty_call (f := 76) (args := #[.slice ac cl.length cc, fv 3]) (by simp [execOp, go_sem, Act.eval, e0]) ?_
   exact (HD.out _ w1 (h4.out.below (below_drew hb1)) e3).mono fun e w2 ⟨h1, h2⟩ => ⟨_, h1, rfl, h2⟩
 ·intro fv x2 hb1 hv
  have e0 : fv 0 = _ := hv 0 (by omega)
  have e1 : fv 1 = _ := hv 1 (by omega)
  have e2 : fv 2 = _ := hv 2 (by omega)
  have q3 : SlQ x2 (fv 3) tl := hv 3 (by omega)
  obtain ⟨a3, c3, e3⟩ := slq_form' q3
  have e4 : fv 4 = _ := hv 4 (by omega)
  simp only [List.take_succ_cons, List.take_zero, putsV, Act.put, zP, List.drop_succ_cons, List.drop_zero, Nat.zero_add, Nat.reduceAdd, e0, e1, e2, e3, e4]
  replace hL0 := hL0.call (below_drew hb1)
  clear e0 e1 e2 e3 e4 q3 hb1 hv fv
  have hA := hL0.fc
  simp only [zF, Nat.reduceAdd] at hA
  have hPt := hL0.put 0 (w.heap.size) _ rfl [.int .u64 ((zl r.num : Nat) : Int), .string (zh r.num), .bool (zs r.num), .int .u64 ((lo (fe r) : Nat) : Int), .string (hs (fe r))] rfl
  simp only [setAll, List.set_cons_zero, List.set_cons_succ] at hPt
  generalize hput1 : (((((x2.setCell ⟨w.heap.size, 0, none⟩ (.int .u64 ((zl r.num : Nat) : Int))).setCell ⟨w.heap.size, 1, none⟩ (.string (zh r.num))).setCell ⟨w.heap.size, 2, none⟩ (.bool (zs r.num))).setCell ⟨w.heap.size, 3, none⟩ (.int .u64 ((lo (fe r) : Nat) : Int))).setCell ⟨w.heap.size, 4, none⟩ (.string (hs (fe r)))) = y3 at hPt
  have hB1 := hPt.fc
  simp only [zF, Nat.reduceAdd] at hB1
  go_wp2_with fail
  exact bodyPost_ret (v := fracV r) (by simp [results, Tryz.results75, go_sem, hB1]) rfl ⟨rfl, hPt.bl⟩
theorem vmixV (cl : List Rat) (L : List (List Rat)) (n k : Nat) (h0 : 0 < L.length) (hc : cl.length = L.length) (hm : L.length ≤ 1000) (hL : ∀ l ∈ L, l.length = n) (hn : n ≤ 2048) (hk : k ≤ 5) (hs : ∀ l ∈ L, ∀ q ∈ l, Sz q k) (sc : ∀ q ∈ cl, Sz q k) (vc v : Value) (w : World) (hq : SlQ w vc cl) (hv : VLs w v L) :
  Calls Tryz.prog 17 #[vc, v] w fun xe w' => ∃ u, xe = .returned (.tuple #[u, .int .i64 0]) ∧ NV w.heap.size (tabV n (mixV cl L)) u w' ∧ Below w.heap.size w w' := by
 have HCl := fun b1 b2 => vmix_at cl L n k b1 b2 vc v hc hm hL hk hs sc
 obtain ⟨ac, cc, rfl⟩ := slq_form' hq
 obtain ⟨ao, c, -, rfl, -⟩ := id hv
 rw [hc] at hq HCl ⊢
 have HF := Lib.hid (fun v w hv => vfault_ok (by omega) hL hn v w hv)
 have hL0 : GL w w [] := GL.start w
 obtain ⟨x1, hweq, hL0⟩ := GL.named ((hL0.new rfl [.slice ac L.length cc] 27).new (K := w.heap.size + 1) (szA _ _) [.slice ao L.length c] 26)
 have hv1 := Lib.hid (hv.below hL0.bl)
 have hq1 := Lib.hid (hq.below hL0.bl)
 have hc1 := (hL0.get _ _ (mK mZ)).cell 0 (by simp)
 simp only [List.getElem_cons_zero, List.getElem_cons_succ] at hc1
 have hc2 := (hL0.get _ _ mZ).cell 0 (by simp)
 simp only [List.getElem_cons_zero, List.getElem_cons_succ] at hc2
 have HC := fun wx hw hv => vcombine_ok 75 #[.pointer (some ⟨w.heap.size, 0, none⟩), .pointer (some ⟨w.heap.size + 1, 0, none⟩)] enmix n (mixV cl L) (fun w => SlQ w (.slice ac L.length cc) cl ∧ VLs w (.slice ao L.length c) L ∧ w.cell? ⟨_, 0, none⟩ = some (.slice ac L.length cc) ∧ w.cell? ⟨_, 0, none⟩ = some (.slice ao L.length c)) (Keeps.and (SlQ.keeps _ _) (Keeps.and (VLs.keeps _ _) (Keeps.and (keepsB _ _) (keepsB _ _)))) (HCl _ _) L h0 (by omega) hL hn (.slice ao L.length c) wx hw hv
 clear hv hq HCl hL hs sc
 generalize tabV n (mixV cl L) = tl at *
 replace HC := Lib.hid HC
 replace hL0 := Lib.hid hL0
 go_enter Tryz.func17, Tryz.ntmps17
 go_wp2_with fail
 with_reducible refine Calls.mono (HF.out _ _ hv1.out) ?_
 rintro e y1 ⟨rfl, hb1⟩
 have hd1 := keepsC hb1 hc1
 have hd2 := keepsC hb1 hc2
 have hv2 := Lib.hid (hv1.out.below hb1)
 have hq2 := Lib.hid (hq1.out.below hb1)
 have hL1 := Lib.hid (hL0.out.call hb1)
 clear hb1 hc1 hc2 hweq hL0 hv1 hq1
 have n2 : (((L.length : Nat) : Int) == ((L.length : Nat) : Int)) = true := by simp
 go_wp2_with fail
 with_reducible refine Calls.mono (HC.out _ ⟨hq2.out, hv2.out, hd1, hd2⟩ hv2.out) ?_
 rintro e y2 ⟨u, rfl, hnv, hb⟩
 replace hnv := Lib.hid (hnv.mono hL1.out.bl.size)
 replace hb := Lib.hid (hL1.out.bl.trans (hb.mono hL1.out.bl.size))
 obtain ⟨gu, rfl, -, -⟩ := id hnv.out
 clear hd1 hd2
 go_wp2_with fail
 exact bodyPost_ret (v := .tuple #[_, .int .i64 0]) (by simp [results, Tryz.results17, go_sem]) rfl ⟨_, rfl, hnv.out, hb.out⟩
end Go.Proofs.YthffglapmkkohaaGreatDoor
namespace Go.Proofs.YthffglapmkkohaaGreatDoor
open Go.RowKit
attribute [local irreducible] lo hs sm s64 c64 d64 b64 mh ml pd pc qd qc val hiB str cmpI srD lz nb zl zh zs
theorem ne_fr {p q : Rat} (h : p ≠ q) : (((zl p.num : Nat) : Int) == ((zl q.num : Nat) : Int)) = false ∨
  ((((zl p.num : Nat) : Int) == ((zl q.num : Nat) : Int)) = true ∧ ((zh p.num).toList == (zh q.num).toList) = false) ∨
  ((((zl p.num : Nat) : Int) == ((zl q.num : Nat) : Int)) = true ∧ ((zh p.num).toList == (zh q.num).toList) = true ∧ (zs p.num == zs q.num) = false) ∨
  ((((zl p.num : Nat) : Int) == ((zl q.num : Nat) : Int)) = true ∧ ((zh p.num).toList == (zh q.num).toList) = true ∧ (zs p.num == zs q.num) = true ∧ (((lo (fe p) : Nat) : Int) == ((lo (fe q) : Nat) : Int)) = false) ∨
  ((((zl p.num : Nat) : Int) == ((zl q.num : Nat) : Int)) = true ∧ ((zh p.num).toList == (zh q.num).toList) = true ∧ (zs p.num == zs q.num) = true ∧ (((lo (fe p) : Nat) : Int) == ((lo (fe q) : Nat) : Int)) = true ∧ ((hs (fe p)).toList == (hs (fe q)).toList) = false) := by
 by_cases hn : p.num = q.num
 ·have he : fe p ≠ fe q := fun e => h (fracV_inj (by unfold fracV; rw [hn, e]))
  rw [hn]
  rcases ne_nat he with h1 | ⟨h1, h2⟩
  ·exact .inr (.inr (.inr (.inl ⟨by simp, by simp, by simp, h1⟩)))
  ·exact .inr (.inr (.inr (.inr ⟨by simp, by simp, by simp, h1, h2⟩)))
 ·rcases ne_int hn with h1 | h1 | h1
  ·exact .inl h1
  ·exact .inr (.inl h1)
  ·exact .inr (.inr (.inl h1))
/-- What == sees of two fractions, as they are the same or not. -/
theorem same_fr {p q : Rat} {y : Bool} (hy : y = decide (p = q)) : (((((zl p.num : Nat) : Int) == ((zl q.num : Nat) : Int)) = true ∧ ((zh p.num).toList == (zh q.num).toList) = true ∧ (zs p.num == zs q.num) = true ∧ (((lo (fe p) : Nat) : Int) == ((lo (fe q) : Nat) : Int)) = true ∧ ((hs (fe p)).toList == (hs (fe q)).toList) = true) ∧ y = true) ∨
  (((((zl p.num : Nat) : Int) == ((zl q.num : Nat) : Int)) = false) ∧ y = false) ∨
  (((((zl p.num : Nat) : Int) == ((zl q.num : Nat) : Int)) = true ∧ ((zh p.num).toList == (zh q.num).toList) = false) ∧ y = false) ∨
  (((((zl p.num : Nat) : Int) == ((zl q.num : Nat) : Int)) = true ∧ ((zh p.num).toList == (zh q.num).toList) = true ∧ (zs p.num == zs q.num) = false) ∧ y = false) ∨
  (((((zl p.num : Nat) : Int) == ((zl q.num : Nat) : Int)) = true ∧ ((zh p.num).toList == (zh q.num).toList) = true ∧ (zs p.num == zs q.num) = true ∧ (((lo (fe p) : Nat) : Int) == ((lo (fe q) : Nat) : Int)) = false) ∧ y = false) ∨
  (((((zl p.num : Nat) : Int) == ((zl q.num : Nat) : Int)) = true ∧ ((zh p.num).toList == (zh q.num).toList) = true ∧ (zs p.num == zs q.num) = true ∧ (((lo (fe p) : Nat) : Int) == ((lo (fe q) : Nat) : Int)) = true ∧ ((hs (fe p)).toList == (hs (fe q)).toList) = false) ∧ y = false) := by
 subst hy
 by_cases h : p = q
 ·subst h
  exact .inl ⟨⟨by simp, by simp, by simp, by simp, by simp⟩, decide_eq_true rfl⟩
 ·have hd := decide_eq_false h
  rcases ne_fr h with h1 | h1 | h1 | h1 | h1
  ·exact .inr (.inl ⟨h1, hd⟩)
  ·exact .inr (.inr (.inl ⟨h1, hd⟩))
  ·exact .inr (.inr (.inr (.inl ⟨h1, hd⟩)))
  ·exact .inr (.inr (.inr (.inr (.inl ⟨h1, hd⟩))))
  ·exact .inr (.inr (.inr (.inr (.inr ⟨h1, hd⟩))))
end Go.Proofs.YthffglapmkkohaaGreatDoor
