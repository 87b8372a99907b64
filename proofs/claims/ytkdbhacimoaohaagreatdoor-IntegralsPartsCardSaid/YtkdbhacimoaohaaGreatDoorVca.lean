/-
  The law answers true at every input, and leaves its arguments as they were: a part of the proof. CONDITIONS: the package-level tables start as the program's text lays them (the card ties them).
-/
import Derived.Test.YtkdbhacimoaohaaGreatDoorZae
set_option linter.unusedVariables false
set_option linter.unusedSimpArgs false
set_option maxHeartbeats 16000000
set_option maxRecDepth 100000
namespace Go.Proofs.YtkdbhacimoaohaaGreatDoor
open Go.RowKit
attribute [local irreducible] lo hs sm s64 c64 d64 b64 mh ml pd pc qd qc val hiB str cmpI srD lz nb
/-- A new box of two cells. -/
def nw : Prop := ∀ (W : World) (v0 v1 : Value) (t : TypeId), (W.alloc (.cells #[v0, v1] t)).cell? ⟨W.heap.size, 0, none⟩ = some v0 ∧ (W.alloc (.cells #[v0, v1] t)).cell? ⟨W.heap.size, 1, none⟩ = some v1 ∧ ∀ j, (W.alloc (.cells #[v0, v1] t)).frozen? ⟨W.heap.size, j, none⟩ = false
end Go.Proofs.YtkdbhacimoaohaaGreatDoor
namespace Go.Proofs.YtkdbhacimoaohaaGreatDoor
open Go.RowKit
theorem put_frac (i0 i : Int) (s0 s : ByteArray) (b0 b : Bool) (j0 j : Int) (t0 t : ByteArray) (w : World) (k : Nat) (h : Hd w k [.int .u64 i0, .string s0, .bool b0, .int .u64 j0, .string t0]) :
  ∃ w', (Instr.storeAt 38 (.pointer (some ⟨k, 0, none⟩)) (.agg #[.int .u64 i, .string s, .bool b, .int .u64 j, .string t])).run Tryz.prog w = .ok () w' ∧ Hd w' k [.int .u64 i, .string s, .bool b, .int .u64 j, .string t] ∧ Upd k w w' := by
 have h0 : w.cell? ⟨k, 0, none⟩ = some (.int .u64 i0) := h.cell 0 (by simp)
 have h1 : w.cell? ⟨k, 1, none⟩ = some (.string s0) := h.cell 1 (by simp)
 have h2 : w.cell? ⟨k, 2, none⟩ = some (.bool b0) := h.cell 2 (by simp)
 have h3 : w.cell? ⟨k, 3, none⟩ = some (.int .u64 j0) := h.cell 3 (by simp)
 have h4 : w.cell? ⟨k, 4, none⟩ = some (.string t0) := h.cell 4 (by simp)
 have hf := h.frz
 refine ⟨_, ?_, setAll_hd [.int .u64 i, .string s, .bool b, .int .u64 j, .string t] 0 w k [] [.int .u64 i0, .string s0, .bool b0, .int .u64 j0, .string t0] rfl rfl h, ((((((Upd.refl k w).setCell 0 _).setCell 1 _).setCell 2 _).setCell 3 _).setCell 4 _)⟩
 simp [go_sem, Instr.storeAt, Instr.sureAddr, h0, h1, h2, h3, h4, hf, setAll]
end Go.Proofs.YtkdbhacimoaohaaGreatDoor
namespace Go.Proofs.YtkdbhacimoaohaaGreatDoor
open Go.RowKit
theorem pow_x : ∀ i, Eqv (powL [(1, 0, 1)] i) [(i, 0, 1)]
 | 0 => Eqv.refl _
 | i + 1 => fun F => by
  show pair (prodL (powL [(1, 0, 1)] i) [(1, 0, 1)]) F = _
  rw [prod_eqv (pow_x i) (Eqv.refl _) F, pair_prod]
  simp only [pair, Nat.add_zero]; grind
end Go.Proofs.YtkdbhacimoaohaaGreatDoor
namespace Go.Proofs.YtkdbhacimoaohaaGreatDoor
open Go.RowKit
theorem dyF_split (F : Nat → Nat → Rat) (i j k l : Nat) : dyF F (i + k) (j + l) = ((j : Nat) : Rat) * F (i + k) (j - 1 + l) + ((l : Nat) : Rat) * F (i + k) (j + (l - 1)) := by
 have h := dxF_split (fun a b => F b a) j i l k
 unfold dxF at h
 unfold dyF
 exact h
theorem dy_prod (p q : TL) : Eqv (dyL (prodL p q)) (prodL (dyL p) q ++ prodL p (dyL q)) := fun F => by
 rw [pair_dy, pair_prod, pair_append, pair_prod, pair_prod, pair_dy, ← pair_add]
 refine congrArg (pair p) (funext fun i => funext fun j => ?_)
 rw [pair_dy]
 show pair q (fun k l => dyF F (i + k) (j + l)) = ((j : Nat) : Rat) * pair q (fun k l => F (i + k) (j - 1 + l)) + pair q (dyF fun k l => F (i + k) (j + l))
 rw [← pair_mul, ← pair_add]
 exact congrArg (pair q) (funext fun k => funext fun l => dyF_split F i j k l)
theorem dyF_zero (F : Nat → Nat → Rat) : dyF F 0 0 = 0 := by unfold dyF; first | (simp; done) | (simp; grind)
theorem dy_lin (a b c : Rat) : Eqv (dyL (linL a b c)) [(0, 0, b)] := fun F => by
 rw [pair_dy]; unfold linL dyF; simp only [pair]; first | (simp; done) | (simp; grind)
theorem chain_y (p : TL) (a b c d f g : Rat) : Eqv (dyL (subL p (linL a b c) (linL d f g))) (scaleL b (subL (dxL p) (linL a b c) (linL d f g)) ++ scaleL f (subL (dyL p) (linL a b c) (linL d f g))) :=
 chain dyL dyF pair_dy dyF_zero dy_prod (dy_lin a b c) (dy_lin d f g) p
end Go.Proofs.YtkdbhacimoaohaaGreatDoor
namespace Go.Proofs.YtkdbhacimoaohaaGreatDoor
open Go.RowKit
attribute [local irreducible] lo hs sm s64 c64 d64 b64 mh ml pd pc qd qc val hiB str cmpI srD lz nb zl zh zs
theorem fneg_w (n m : Int) (e : Nat) (HN : RT 52 #[intV n] (intV m)) (w : World) :
  Calls Tryz.prog 17 #[frV n e] w fun xe w' => xe = .returned (frV m e) ∧ Below w.heap.size w w' := by
 have hL0 : GL w w [] := GL.start w
 replace HN := Lib.hid HN
 obtain ⟨x1, hweq, hL0⟩ := GL.named ((hL0.new rfl [.int .u64 ((zl n : Nat) : Int), .string (zh n), .bool (zs n), .int .u64 ((lo e : Nat) : Int), .string (hs e)] 38).new (K := w.heap.size + 1) (szA _ _) [.int .u64 0, .string ⟨#[]⟩, .bool false, .int .u64 0, .string ⟨#[]⟩] 38)
 go_enter Tryz.func17, Tryz.ntmps17
 go_upto_region 1 with fail
 clear hweq
 obtain ⟨α, iα, F, hF1, hF2⟩ := cls x1
 have hq0 := cls_box hF1 hL0 _ _ (mK mZ)
 simp only [zC, Nat.reduceAdd] at hq0
 refine region_qs 6 (C := fun w' => ∃ x, w' = F x) (by kernel_rfl) (by kernel_rfl) (cls_drew hF2) ?_
 simp only [zT]
 repeat (go_big_quiet_step (first | fail | (go_at_call 52; with_reducible exact cls_call hF1 hF2 HN.out _)))
 refine wpQuiet_nil ?_
 rintro wq ⟨xq, rfl⟩
 replace hL0 := hL0.call (hF1 xq)
 clear  hq0 hF2
 generalize F xq = x2 at hL0 ⊢
 clear hF1 xq iα F α
 have hA := hL0.fc
 simp only [zF, Nat.reduceAdd] at hA
 obtain ⟨x3, hput1, hP⟩ := GL.named (hL0.put 0 (w.heap.size + 1) _ rfl [.int .u64 ((zl m : Nat) : Int), .string (zh m), .bool (zs m), .int .u64 ((lo e : Nat) : Int), .string (hs e)] rfl)
 simp only [setAll] at hput1
 simp only [List.set_cons_zero, List.set_cons_succ] at hP
 have hB1 := hP.fc
 simp only [zF, Nat.reduceAdd] at hB1
 replace hL0 := hP
 go_wp2_with fail
 exact bodyPost_ret (v := frV m e) (by simp [results, Tryz.results17, go_sem, hB1]) rfl ⟨rfl, hL0.bl⟩
end Go.Proofs.YtkdbhacimoaohaaGreatDoor
namespace Go.Proofs.YtkdbhacimoaohaaGreatDoor
open Go.RowKit
attribute [local irreducible] lo hs sm s64 c64 d64 b64 mh ml pd pc qd qc val hiB str cmpI srD lz nb zl zh zs
theorem negF (q : Rat) (w : World) : Calls Tryz.prog 17 #[fracV q] w fun x w' => x = .returned (fracV (-q)) ∧ Below w.heap.size w w' := fneg_w q.num (-q.num) (fe q) (fun w => negI q.num w) w
end Go.Proofs.YtkdbhacimoaohaaGreatDoor
namespace Go.Proofs.YtkdbhacimoaohaaGreatDoor
theorem flow_back (p q : TL) (a b : Pt) : flowV p q b a = -flowV p q a b := by unfold flowV; rw [segV_back p, segV_back q]; grind
def sideF (i j : Nat) : Rat := ((fact i : Nat) : Rat) * ((fact j : Nat) : Rat) / ((fact (i + j + 1) : Nat) : Rat)
theorem div_of {a b c : Rat} (hb : b ≠ 0) (h : a = c * b) : a / b = c := by
 rw [h, Rat.div_def, Rat.mul_assoc, Rat.mul_inv_cancel _ hb, Rat.mul_one]
theorem dx_momF (i j : Nat) : dxF momF i j = 2 * (sideF i j - if i = 0 then 1 / (((j + 1 : Nat)) : Rat) else 0) := by
 unfold dxF momF sideF
 cases i with
 | zero =>
  rw [if_pos rfl]
  have e : ((fact 0 : Nat) : Rat) * ((fact j : Nat) : Rat) / ((fact (0 + j + 1) : Nat) : Rat) = 1 / (((j + 1 : Nat)) : Rat) := by
   refine div_of (fact_ne _) ?_
   rw [show 0 + j + 1 = j + 1 by omega, fact_succ, show ((fact 0 : Nat) : Rat) = 1 from rfl, Rat.mul_comm ((fact j : Nat) : Rat) (((j + 1 : Nat)) : Rat), ← Rat.mul_assoc, Rat.div_mul_cancel (natR_ne j)]
  rw [e]; simp; grind
 | succ n =>
  rw [if_neg (by omega)]
  show (((n + 1 : Nat)) : Rat) * (2 * ((fact n : Nat) : Rat) * ((fact j : Nat) : Rat) / ((fact (n + j + 2) : Nat) : Rat)) = 2 * (((fact (n + 1) : Nat) : Rat) * ((fact j : Nat) : Rat) / ((fact (n + 1 + j + 1) : Nat) : Rat) - 0)
  rw [show n + 1 + j + 1 = n + j + 2 by omega, Rat.div_def, Rat.div_def]
  generalize (((fact (n + j + 2) : Nat) : Rat))⁻¹ = v
  rw [fact_succ n]
  generalize (((n + 1 : Nat)) : Rat) = u
  generalize ((fact n : Nat) : Rat) = f
  generalize ((fact j : Nat) : Rat) = g
  grind
theorem mom_swap (i j : Nat) : momF i j = momF j i := by unfold momF; rw [show j + i + 2 = i + j + 2 by omega]; grind
theorem side_swap (i j : Nat) : sideF i j = sideF j i := by unfold sideF; rw [show j + i + 1 = i + j + 1 by omega]; grind
theorem dy_momF (i j : Nat) : dyF momF i j = 2 * (sideF i j - if j = 0 then 1 / (((i + 1 : Nat)) : Rat) else 0) := by
 rw [side_swap, ← dx_momF]
 unfold dyF dxF
 rw [mom_swap]
/-- The integral of (1 - t)^i t^j. -/
theorem beta_step (i j : Nat) : (((j + 1 : Nat)) : Rat) * pair (mono (linL (-1) 0 1) (linL 1 0 0) i j) segF = (if i = 0 then 1 else 0) + ((i : Nat) : Rat) * pair (mono (linL (-1) 0 1) (linL 1 0 0) (i - 1) (j + 1)) segF := by
 have h := seg_ftc (mono (linL (-1) 0 1) (linL 1 0 0) i (j + 1))
 have e1 := dy_pow_of dxL dxF pair_dx dxF_zero dx_prod (dx_lin (-1) 0 1) i
 have e2 := dy_pow_of dxL dxF pair_dx dxF_zero dx_prod (dx_lin 1 0 0) (j + 1)
 unfold mono at h ⊢
 rw [dx_prod _ _ segF, pair_append, prod_eqv e1 (Eqv.refl _) segF, prod_eqv (Eqv.refl _) e2 segF, at_prod, at_prod, at_pow, at_pow, at_pow, at_pow, at_lin, at_lin, at_lin, at_lin] at h
 have s1 : pair (prodL (scaleL (((i : Nat) : Rat) * -1) (powL (linL (-1) 0 1) (i - 1))) (powL (linL 1 0 0) (j + 1))) segF = ((i : Nat) : Rat) * -1 * pair (prodL (powL (linL (-1) 0 1) (i - 1)) (powL (linL 1 0 0) (j + 1))) segF := by
  rw [pair_prod, pair_scale, pair_prod]
 have s2 : pair (prodL (powL (linL (-1) 0 1) i) (scaleL ((((j + 1 : Nat)) : Rat) * 1) (powL (linL 1 0 0) (j + 1 - 1)))) segF = (((j + 1 : Nat)) : Rat) * pair (prodL (powL (linL (-1) 0 1) i) (powL (linL 1 0 0) j)) segF := by
  rw [prod_comm _ _ segF, pair_prod, pair_scale, Nat.add_sub_cancel, prod_comm (powL (linL (-1) 0 1) i) _ segF, pair_prod, Rat.mul_one]
 rw [s1, s2] at h
 rw [show (-1 : Rat) * 1 + 0 * 1 + 1 = 0 by grind, show (1 : Rat) * 1 + 0 * 1 + 0 = 1 by grind, show (-1 : Rat) * 0 + 0 * 1 + 1 = 1 by grind, show (1 : Rat) * 0 + 0 * 1 + 0 = 0 by grind, one_powQ, zero_powQ (Nat.succ_ne_zero j)] at h
 by_cases h0 : i = 0
 ·rw [if_pos h0]
  rw [h0, Rat.pow_zero] at h
  rw [h0]
  grind
 ·rw [if_neg h0]
  rw [zero_powQ h0] at h
  grind
theorem beta_eq : ∀ i j : Nat, pair (mono (linL (-1) 0 1) (linL 1 0 0) i j) segF = sideF i j
 | 0, j => by
  have h := beta_step 0 j
  rw [if_pos rfl] at h
  have e : sideF 0 j = 1 / (((j + 1 : Nat)) : Rat) := by
   refine div_of (fact_ne _) ?_
   rw [show 0 + j + 1 = j + 1 by omega, fact_succ, show ((fact 0 : Nat) : Rat) = 1 from rfl, Rat.mul_comm ((fact j : Nat) : Rat) (((j + 1 : Nat)) : Rat), ← Rat.mul_assoc, Rat.div_mul_cancel (natR_ne j)]
  rw [e]
  refine (div_of (natR_ne j) ?_).symm
  rw [Rat.mul_comm, h, show (((0 : Nat)) : Rat) = 0 from rfl]; grind
 | i + 1, j => by
  have h := beta_step (i + 1) j
  rw [if_neg (by omega), show i + 1 - 1 = i by omega, beta_eq i (j + 1)] at h
  have e : sideF (i + 1) j = (((i + 1 : Nat)) : Rat) * sideF i (j + 1) / (((j + 1 : Nat)) : Rat) := by
   refine (div_of (natR_ne j) ?_).symm
   unfold sideF
   rw [show i + 1 + j + 1 = i + (j + 1) + 1 by omega, fact_succ i, fact_succ j, Rat.div_def, Rat.div_def]
   generalize (((fact (i + (j + 1) + 1) : Nat) : Rat))⁻¹ = v
   generalize (((i + 1 : Nat)) : Rat) = u
   generalize (((j + 1 : Nat)) : Rat) = u2
   grind
  rw [e]
  refine (div_of (natR_ne j) ?_).symm
  rw [Rat.mul_comm _ (((j + 1 : Nat)) : Rat), h]; grind
/-- Along the side from (1, 0) to (0, 1). -/
theorem beta_pair (q : TL) : pair (subL q (linL (-1) 0 1) (linL 1 0 0)) segF = pair q sideF := by
 rw [pair_sub]
 exact congrArg (pair q) (funext fun i => funext fun j => beta_eq i j)
/-- Along the side x = 0. -/
theorem left_pair (q : TL) : pair (subL q (linL 0 0 0) (linL 1 0 0)) segF = pair q (fun i j => if i = 0 then 1 / (((j + 1 : Nat)) : Rat) else 0) := by
 rw [sub_eqv2 q (u' := [(0, 0, 0)]) (v' := [(1, 0, 1)]) (fun F => by simp only [linL, pair]; grind) (fun F => by simp only [linL, pair]; grind) segF, pair_sub]
 refine congrArg (pair q) (funext fun i => funext fun j => ?_)
 unfold mono
 rw [prod_eqv (powL_con 0 i) (pow_x j) segF]
 simp only [prodL, timesL, List.map_cons, List.map_nil, List.append_nil, pair, Nat.zero_add]
 by_cases h : i = 0
 ·rw [if_pos h, h, Rat.pow_zero]; unfold segF; grind
 ·rw [if_neg h, zero_powQ h]; grind
/-- Along the side y = 0. -/
theorem low_pair (q : TL) : pair (subL q (linL 1 0 0) (linL 0 0 0)) segF = pair q (fun i j => if j = 0 then 1 / (((i + 1 : Nat)) : Rat) else 0) := by
 rw [sub_eqv2 q (u' := [(1, 0, 1)]) (v' := [(0, 0, 0)]) (fun F => by simp only [linL, pair]; grind) (fun F => by simp only [linL, pair]; grind) segF, pair_sub]
 refine congrArg (pair q) (funext fun i => funext fun j => ?_)
 unfold mono
 rw [prod_eqv (pow_x i) (powL_con 0 j) segF]
 simp only [prodL, timesL, List.map_cons, List.map_nil, List.append_nil, pair, Nat.add_zero]
 by_cases h : j = 0
 ·rw [if_pos h, h, Rat.pow_zero]; unfold segF; grind
 ·rw [if_neg h, zero_powQ h]; grind
theorem pair_fun (p : TL) {F G : Nat → Nat → Rat} (h : ∀ i j, F i j = G i j) : pair p F = pair p G := congrArg (pair p) (funext fun i => funext fun j => h i j)
theorem mom_dx (q : TL) : pair (dxL q) momF = 2 * (pair (subL q (linL (-1) 0 1) (linL 1 0 0)) segF - pair (subL q (linL 0 0 0) (linL 1 0 0)) segF) := by
 rw [pair_dx, pair_fun q dx_momF, pair_mul, beta_pair, left_pair]
 congr 1
 rw [pair_fun q (G := fun i j => sideF i j + -1 * (if i = 0 then 1 / (((j + 1 : Nat)) : Rat) else 0)) (fun i j => by grind), pair_add, pair_mul]
 grind
theorem mom_dy (q : TL) : pair (dyL q) momF = 2 * (pair (subL q (linL (-1) 0 1) (linL 1 0 0)) segF - pair (subL q (linL 1 0 0) (linL 0 0 0)) segF) := by
 rw [pair_dy, pair_fun q dy_momF, pair_mul, beta_pair, low_pair]
 congr 1
 rw [pair_fun q (G := fun i j => sideF i j + -1 * (if j = 0 then 1 / (((i + 1 : Nat)) : Rat) else 0)) (fun i j => by grind), pair_add, pair_mul]
 grind
theorem tri_bc (p : TL) (a b c : Pt) : pair (subL (triL p a b c) (linL (-1) 0 1) (linL 1 0 0)) segF = segV p b c := by
 unfold triL segV segL'
 rw [sub_lin p _ _ _ _ _ _ _ _ _ _ _ _ segF]
 refine sub_same p ?_ ?_ ?_ ?_ ?_ ?_ segF <;> grind
theorem tri_ac (p : TL) (a b c : Pt) : pair (subL (triL p a b c) (linL 0 0 0) (linL 1 0 0)) segF = segV p a c := by
 unfold triL segV segL'
 rw [sub_lin p _ _ _ _ _ _ _ _ _ _ _ _ segF]
 refine sub_same p ?_ ?_ ?_ ?_ ?_ ?_ segF <;> grind
theorem tri_ab (p : TL) (a b c : Pt) : pair (subL (triL p a b c) (linL 1 0 0) (linL 0 0 0)) segF = segV p a b := by
 unfold triL segV segL'
 rw [sub_lin p _ _ _ _ _ _ _ _ _ _ _ _ segF]
 refine sub_same p ?_ ?_ ?_ ?_ ?_ ?_ segF <;> grind
theorem gauss_alg (u0 u1 v0 v1 P1 P2 Q1 Q2 A1 A2 A3 B1 B2 B3 v : Rat) (hv : 2 * v = 1) (h1 : u0 * P1 + u1 * P2 = 2 * (A2 - A3)) (h2 : v0 * P1 + v1 * P2 = 2 * (A2 - A1)) (h3 : u0 * Q1 + u1 * Q2 = 2 * (B2 - B3)) (h4 : v0 * Q1 + v1 * Q2 = 2 * (B2 - B1)) :
  (u0 * v1 - v0 * u1) * v * (P1 + Q2) = (u1 * A1 - u0 * B1) + ((v1 - u1) * A2 - (v0 - u0) * B2) + (v0 * B3 - v1 * A3) := by
 have k1 : (u0 * v1 - v0 * u1) * P1 = 2 * (v1 * (A2 - A3) - u1 * (A2 - A1)) := by grind
 have k2 : (u0 * v1 - v0 * u1) * Q2 = 2 * (u0 * (B2 - B1) - v0 * (B2 - B3)) := by grind
 have k3 : (u0 * v1 - v0 * u1) * v * (P1 + Q2) = v * ((u0 * v1 - v0 * u1) * P1 + (u0 * v1 - v0 * u1) * Q2) := by grind
 rw [k3, k1, k2]
 have k4 : v * (2 * (v1 * (A2 - A3) - u1 * (A2 - A1)) + 2 * (u0 * (B2 - B1) - v0 * (B2 - B3))) = 2 * v * (v1 * (A2 - A3) - u1 * (A2 - A1) + (u0 * (B2 - B1) - v0 * (B2 - B3))) := by grind
 rw [k4, hv]
 grind
/-- THE DIVERGENCE THEOREM on a triangle. -/
theorem gauss (p q : TL) (a b c : Pt) : triV (dxL p ++ dyL q) a b c = flowV p q a b + flowV p q b c + flowV p q c a := by
 have h1 := mom_dx (triL p a b c)
 have h2 := mom_dy (triL p a b c)
 have h3 := mom_dx (triL q a b c)
 have h4 := mom_dy (triL q a b c)
 rw [tri_bc, tri_ac] at h1 h3
 rw [tri_bc, tri_ab] at h2 h4
 unfold triL at h1 h2 h3 h4
 rw [chain_x _ _ _ _ _ _ _ momF, pair_append, pair_scale, pair_scale] at h1 h3
 rw [chain_y _ _ _ _ _ _ _ momF, pair_append, pair_scale, pair_scale] at h2 h4
 have e : pair (triL (dxL p ++ dyL q) a b c) momF = pair (subL (dxL p) (linL (b.x - a.x) (c.x - a.x) a.x) (linL (b.y - a.y) (c.y - a.y) a.y)) momF + pair (subL (dyL q) (linL (b.x - a.x) (c.x - a.x) a.x) (linL (b.y - a.y) (c.y - a.y) a.y)) momF := by
  unfold triL; rw [pair_sub, pair_append, pair_sub, pair_sub]
 unfold triV areaV flowV
 rw [e, segV_back p a c, segV_back q a c]
 generalize pair (subL (dxL p) _ _) momF = P1 at *
 generalize pair (subL (dyL p) _ _) momF = P2 at *
 generalize pair (subL (dxL q) _ _) momF = Q1 at *
 generalize pair (subL (dyL q) _ _) momF = Q2 at *
 generalize segV p a b = A1 at *
 generalize segV p b c = A2 at *
 generalize segV p a c = A3 at *
 generalize segV q a b = B1 at *
 generalize segV q b c = B2 at *
 generalize segV q a c = B3 at *
 have k := gauss_alg _ _ _ _ P1 P2 Q1 Q2 A1 A2 A3 B1 B2 B3 (2 : Rat)⁻¹ (Rat.mul_inv_cancel _ (by decide)) h1 h2 h3 h4
 rw [Rat.div_def, k]
 clear k h1 h2 h3 h4 e
 grind
theorem triV_eqv {p q : TL} (h : Eqv p q) (a b c : Pt) : triV p a b c = triV q a b c := by
 unfold triV triL; rw [sub_eqv h _ _ momF]
theorem triV_add (p q : TL) (a b c : Pt) : triV (p ++ q) a b c = triV p a b c + triV q a b c := by
 unfold triV triL; rw [pair_sub, pair_append, ← pair_sub, ← pair_sub]; grind
def antF (p : TL) (a b : Pt) : Rat := flowV (intL p) [] a b
theorem antF_back (p : TL) (a b : Pt) : antF p b a = -antF p a b := flow_back _ _ a b
theorem tri_ant (p : TL) (a b c : Pt) : triV p a b c = antF p a b + antF p b c + antF p c a := by
 unfold antF
 rw [← gauss]
 refine (triV_eqv ?_ a b c).symm
 show Eqv (dxL (intL p) ++ []) p
 rw [List.append_nil]; exact dx_int p
theorem tri_parts (p : TL) (u v w z : Pt) : triV p u v w = triV p u v z + triV p v w z + triV p w u z := by
 simp only [tri_ant]
 rw [antF_back p z u, antF_back p z v, antF_back p z w]; grind
theorem tri_turn (p : TL) (u v w : Pt) : triV p v w u = triV p u v w := by simp only [tri_ant]; grind
theorem tri_back (p : TL) (u v w : Pt) : triV p u w v = -triV p u v w := by
 simp only [tri_ant]
 rw [antF_back p v u, antF_back p u w, antF_back p w v]; grind
theorem tri_one (a b c : Pt) : triV oneL a b c = areaV a b c := by
 unfold triV triL
 have h : pair (subL oneL (linL (b.x - a.x) (c.x - a.x) a.x) (linL (b.y - a.y) (c.y - a.y) a.y)) momF = 1 := by
  rw [sub_one _ _ momF, pair_one]; decide +kernel
 rw [h, Rat.mul_one]
theorem area_back (a b c : Pt) : areaV b a c = -areaV a b c := by unfold areaV; rw [Rat.div_def, Rat.div_def]; grind
def oP : Pt := ⟨0, 0⟩
def nP : Pt := ⟨0, 1⟩
theorem tri_unit (p : TL) (u v w : Pt) : triV (subL p (linL (v.x - u.x) (w.x - u.x) u.x) (linL (v.y - u.y) (w.y - u.y) u.y)) oP eP nP * (2 * areaV u v w) = triV p u v w := by
 have ha : areaV oP eP nP * 2 = 1 := by decide +kernel
 have hp : pair (triL (subL p (linL (v.x - u.x) (w.x - u.x) u.x) (linL (v.y - u.y) (w.y - u.y) u.y)) oP eP nP) momF = pair (triL p u v w) momF := by
  unfold triL oP eP nP
  rw [sub_lin p _ _ _ _ _ _ _ _ _ _ _ _ momF]
  refine sub_same p ?_ ?_ ?_ ?_ ?_ ?_ momF <;> (simp only []; grind)
 have e : triV (subL p (linL (v.x - u.x) (w.x - u.x) u.x) (linL (v.y - u.y) (w.y - u.y) u.y)) oP eP nP = areaV oP eP nP * pair (triL p u v w) momF := by
  rw [← hp]; rfl
 rw [e]
 generalize areaV oP eP nP = h at ha ⊢
 unfold triV
 generalize pair (triL p u v w) momF = m
 generalize areaV u v w = a
 have : h * m * (2 * a) = (h * 2) * (a * m) := by grind
 rw [this, ha, Rat.one_mul]
end Go.Proofs.YtkdbhacimoaohaaGreatDoor
namespace Go.Proofs.YtkdbhacimoaohaaGreatDoor
open Go.RowKit
attribute [local irreducible] lo hs sm s64 c64 d64 b64 mh ml pd pc qd qc val hiB str cmpI srD lz nb zl zh zs fe klT ordZ
theorem slq_of3 {w : World} {g c : Nat} {p q r : Rat} (h : Hd w g [.int .u64 ((zl p.num : Nat) : Int), .string (zh p.num), .bool (zs p.num), .int .u64 ((lo (fe p) : Nat) : Int), .string (hs (fe p)), .int .u64 ((zl q.num : Nat) : Int), .string (zh q.num), .bool (zs q.num), .int .u64 ((lo (fe q) : Nat) : Int), .string (hs (fe q)), .int .u64 ((zl r.num : Nat) : Int), .string (zh r.num), .bool (zs r.num), .int .u64 ((lo (fe r) : Nat) : Int), .string (hs (fe r))]) : SlQ w (.slice (some ⟨g, 0, none⟩) 3 c) [p, q, r] :=
 .inr ⟨g, c, rfl, ⟨fun i hi => by
  rcases (show i = 0 ∨ i = 1 ∨ i = 2 by simp at hi; omega) with rfl | rfl | rfl
  ·exact ⟨h.cell 0 (by simp), h.cell 1 (by simp), h.cell 2 (by simp), h.cell 3 (by simp), h.cell 4 (by simp)⟩
  ·exact ⟨h.cell 5 (by simp), h.cell 6 (by simp), h.cell 7 (by simp), h.cell 8 (by simp), h.cell 9 (by simp)⟩
  ·exact ⟨h.cell 10 (by simp), h.cell 11 (by simp), h.cell 12 (by simp), h.cell 13 (by simp), h.cell 14 (by simp)⟩, h.lt⟩⟩
end Go.Proofs.YtkdbhacimoaohaaGreatDoor
namespace Go.Proofs.YtkdbhacimoaohaaGreatDoor
open Go.RowKit
attribute [local irreducible] lo hs sm s64 c64 d64 b64 mh ml pd pc qd qc val hiB str cmpI srD lz nb zl zh zs fe klT ordZ Bs
theorem qsum_three9 (a b c : Rat) : qsum [a, b, c] = a + b + c := by
 show ((0 + a) + b) + c = _
 rw [Rat.zero_add]
theorem sum39 {a b c : Rat} {k : Nat} (ha : Sz a k) (hb : Sz b k) (hc : Sz c k) (hk : k ≤ 2000000) (v : Value) (w : World) (h : SlQ w v [a, b, c]) :
  Calls Tryz.prog 14 #[v] w fun xe w' => xe = .returned (fracV (a + b + c)) ∧ Below w.heap.size w w' := by
 have := sumGB [a, b, c] k (by simp; omega) (by omega) (fun q hq => by simp only [List.mem_cons, List.not_mem_nil, or_false] at hq; rcases hq with rfl | rfl | rfl <;> assumption) (by simp) v w h
 rwa [qsum_three9] at this
end Go.Proofs.YtkdbhacimoaohaaGreatDoor
namespace Go.Proofs.YtkdbhacimoaohaaGreatDoor
open Go.ChangeShapes Go.WideShapes Go.ChangeAt Go.RowKit Go.Joins
section
variable {H : Type} {enc : TypeId × Value → H} {P : Program} {w : World} {base : Nat} {spare : Nat → Bool} {held : Bool}
theorem trodAll_six {t t1 t2 t3 t4 t5 : TypeId} {args : Array Value} {ds : List (DataW H)} {ps : List MemPlace} (h : DataW.TrodAll enc P w base spare held [t, t1, t2, t3, t4, t5] args.toList ds ps) :
  ∃ v v1 v2 v3 v4 v5 d d1 d2 d3 d4 d5 p p1 p2 p3 p4 p5, args = #[v, v1, v2, v3, v4, v5] ∧ ds = [d, d1, d2, d3, d4, d5] ∧ ps = p ++ p1 ++ p2 ++ p3 ++ p4 ++ p5 ∧ DataW.Trod enc P w base spare held t v d p ∧ DataW.Trod enc P w base spare held t1 v1 d1 p1 ∧ DataW.Trod enc P w base spare held t2 v2 d2 p2 ∧ DataW.Trod enc P w base spare held t3 v3 d3 p3 ∧ DataW.Trod enc P w base spare held t4 v4 d4 p4 ∧ DataW.Trod enc P w base spare held t5 v5 d5 p5 := by
 obtain ⟨v, vs, d, ds1, p, q, hargs, rfl, rfl, hd, hr⟩ := trodAll_cons h
 obtain ⟨v1, vs1, d1, ds2, p1, q1, rfl, rfl, rfl, hd1, hr1⟩ := trodAll_cons hr
 obtain ⟨v2, vs2, d2, ds3, p2, q2, rfl, rfl, rfl, hd2, hr2⟩ := trodAll_cons hr1
 obtain ⟨v3, vs3, d3, ds4, p3, q3, rfl, rfl, rfl, hd3, hr3⟩ := trodAll_cons hr2
 obtain ⟨v4, vs4, d4, ds5, p4, q4, rfl, rfl, rfl, hd4, hr4⟩ := trodAll_cons hr3
 obtain ⟨v5, vs5, d5, ds6, p5, q5, rfl, rfl, rfl, hd5, hr5⟩ := trodAll_cons hr4
 obtain ⟨rfl, rfl, rfl⟩ := trodAll_nil hr5
 exact ⟨v, v1, v2, v3, v4, v5, d, d1, d2, d3, d4, d5, p, p1, p2, p3, p4, p5, (Array.toArray_toList (xs := args)).symm.trans (congrArg List.toArray hargs), rfl, by simp only [List.append_nil, List.append_assoc], hd, hd1, hd2, hd3, hd4, hd5⟩
theorem trodAll_mk6 {t t1 t2 t3 t4 t5 : TypeId} {v v1 v2 v3 v4 v5 : Value} {d d1 d2 d3 d4 d5 : DataW H} {p p1 p2 p3 p4 p5 : List MemPlace} (h : DataW.Trod enc P w base spare held t v d p) (h1 : DataW.Trod enc P w base spare held t1 v1 d1 p1)
  (h2 : DataW.Trod enc P w base spare held t2 v2 d2 p2) (h3 : DataW.Trod enc P w base spare held t3 v3 d3 p3) (h4 : DataW.Trod enc P w base spare held t4 v4 d4 p4) (h5 : DataW.Trod enc P w base spare held t5 v5 d5 p5) : DataW.TrodAll enc P w base spare held [t, t1, t2, t3, t4, t5] [v, v1, v2, v3, v4, v5] [d, d1, d2, d3, d4, d5] (p ++ (p1 ++ (p2 ++ (p3 ++ (p4 ++ p5))))) := ⟨p, p1 ++ (p2 ++ (p3 ++ (p4 ++ p5))), h, trodAll_mk5 h1 h2 h3 h4 h5, rfl⟩
end
end Go.Proofs.YtkdbhacimoaohaaGreatDoor
namespace Go.Proofs.YtkdbhacimoaohaaGreatDoor
open Go.RowKit
attribute [local irreducible] lo hs sm s64 c64 d64 b64 mh ml pd pc qd qc val hiB str cmpI srD lz nb zl zh zs fe klT ordZ
theorem iparts_l1 (al am : Option Addr) (nl cl nm cm : Nat) (iun iud ium iue ivn ivd ivm ive iwn iwd iwm iwe izn izd izm ize : Int) (KT : World → Prop) (hKT : Keeps KT) (HW : ∀ w, KT w → Calls Tryz.prog 7 #[] w fun xe w' => xe = .returned (.bool true) ∧ Below w.heap.size w w') (l_nl : decide ((6 : Int) < ((nl : Nat) : Int)) = true) (k_nl : decide (6 < nl) = true) (w : World) (kKT : KT w) :
  Calls Tryz.prog 4 #[.slice al nl cl, .slice am nm cm, .agg #[.int .i64 iun, .int .u32 iud, .int .i64 ium, .int .u32 iue], .agg #[.int .i64 ivn, .int .u32 ivd, .int .i64 ivm, .int .u32 ive], .agg #[.int .i64 iwn, .int .u32 iwd, .int .i64 iwm, .int .u32 iwe], .agg #[.int .i64 izn, .int .u32 izd, .int .i64 izm, .int .u32 ize]] w fun e w' => e = .returned (.bool true) ∧ Below w.heap.size w w' := by
 replace hKT := Lib.hid hKT
 replace HW := Lib.hid HW
 have hL0 : GL w w [] := GL.start w
 have hT : PTs w [] := PTs.nil w
 replace hT := ((((hT.new (.cells #[.int .i64 iun, .int .u32 iud, .int .i64 ium, .int .u32 iue] 27)).new (.cells #[.int .i64 ivn, .int .u32 ivd, .int .i64 ivm, .int .u32 ive] 27)).new (.cells #[.int .i64 iwn, .int .u32 iwd, .int .i64 iwm, .int .u32 iwe] 27)).new (.cells #[.int .i64 izn, .int .u32 izd, .int .i64 izm, .int .u32 ize] 27))
 replace hL0 := ((((hL0.new rfl [.int .i64 iun, .int .u32 iud, .int .i64 ium, .int .u32 iue] 27).new (K := w.heap.size + 1) (szA _ _) [.int .i64 ivn, .int .u32 ivd, .int .i64 ivm, .int .u32 ive] 27).new (K := w.heap.size + 1 + 1) (by simp only [World.size_alloc]) [.int .i64 iwn, .int .u32 iwd, .int .i64 iwm, .int .u32 iwe] 27).new (K := w.heap.size + 1 + 1 + 1) (by simp only [World.size_alloc]) [.int .i64 izn, .int .u32 izd, .int .i64 izm, .int .u32 ize] 27)
 generalize hweq : ((((w.alloc (.cells #[.int .i64 iun, .int .u32 iud, .int .i64 ium, .int .u32 iue] 27)).alloc (.cells #[.int .i64 ivn, .int .u32 ivd, .int .i64 ivm, .int .u32 ive] 27)).alloc (.cells #[.int .i64 iwn, .int .u32 iwd, .int .i64 iwm, .int .u32 iwe] 27)).alloc (.cells #[.int .i64 izn, .int .u32 izd, .int .i64 izm, .int .u32 ize] 27)) = x1 at hL0 hT
 go_enter Tryz.func4, Tryz.ntmps4
 go_wp2_with fail
 with_reducible refine Calls.mono (HW.out _ (hKT.out.at hL0.bl kKT)) ?_
 rintro e x2 ⟨rfl, hb⟩
 replace hL0 := hL0.call hb
 replace hT := hT.call hb
 clear hb hweq
 go_wp2_with fail
 exact bodyPost_ret (v := .bool true) (by simp [results, Tryz.results4, go_sem]) rfl ⟨rfl, hL0.bl⟩
theorem iparts_l2 (al am : Option Addr) (nl cl nm cm : Nat) (iun iud ium iue ivn ivd ivm ive iwn iwd iwm iwe izn izd izm ize : Int) (KT : World → Prop) (hKT : Keeps KT) (HW : ∀ w, KT w → Calls Tryz.prog 7 #[] w fun xe w' => xe = .returned (.bool true) ∧ Below w.heap.size w w') (l_nl : decide ((6 : Int) < ((nl : Nat) : Int)) = false) (k_nl : decide (6 < nl) = false) (l_nm : decide ((6 : Int) < ((nm : Nat) : Int)) = true) (k_nm : decide (6 < nm) = true) (w : World) (kKT : KT w) :
  Calls Tryz.prog 4 #[.slice al nl cl, .slice am nm cm, .agg #[.int .i64 iun, .int .u32 iud, .int .i64 ium, .int .u32 iue], .agg #[.int .i64 ivn, .int .u32 ivd, .int .i64 ivm, .int .u32 ive], .agg #[.int .i64 iwn, .int .u32 iwd, .int .i64 iwm, .int .u32 iwe], .agg #[.int .i64 izn, .int .u32 izd, .int .i64 izm, .int .u32 ize]] w fun e w' => e = .returned (.bool true) ∧ Below w.heap.size w w' := by
 replace hKT := Lib.hid hKT
 replace HW := Lib.hid HW
 have hL0 : GL w w [] := GL.start w
 have hT : PTs w [] := PTs.nil w
 replace hT := ((((hT.new (.cells #[.int .i64 iun, .int .u32 iud, .int .i64 ium, .int .u32 iue] 27)).new (.cells #[.int .i64 ivn, .int .u32 ivd, .int .i64 ivm, .int .u32 ive] 27)).new (.cells #[.int .i64 iwn, .int .u32 iwd, .int .i64 iwm, .int .u32 iwe] 27)).new (.cells #[.int .i64 izn, .int .u32 izd, .int .i64 izm, .int .u32 ize] 27))
 replace hL0 := ((((hL0.new rfl [.int .i64 iun, .int .u32 iud, .int .i64 ium, .int .u32 iue] 27).new (K := w.heap.size + 1) (szA _ _) [.int .i64 ivn, .int .u32 ivd, .int .i64 ivm, .int .u32 ive] 27).new (K := w.heap.size + 1 + 1) (by simp only [World.size_alloc]) [.int .i64 iwn, .int .u32 iwd, .int .i64 iwm, .int .u32 iwe] 27).new (K := w.heap.size + 1 + 1 + 1) (by simp only [World.size_alloc]) [.int .i64 izn, .int .u32 izd, .int .i64 izm, .int .u32 ize] 27)
 generalize hweq : ((((w.alloc (.cells #[.int .i64 iun, .int .u32 iud, .int .i64 ium, .int .u32 iue] 27)).alloc (.cells #[.int .i64 ivn, .int .u32 ivd, .int .i64 ivm, .int .u32 ive] 27)).alloc (.cells #[.int .i64 iwn, .int .u32 iwd, .int .i64 iwm, .int .u32 iwe] 27)).alloc (.cells #[.int .i64 izn, .int .u32 izd, .int .i64 izm, .int .u32 ize] 27)) = x1 at hL0 hT
 go_enter Tryz.func4, Tryz.ntmps4
 go_wp2_with fail
 with_reducible refine Calls.mono (HW.out _ (hKT.out.at hL0.bl kKT)) ?_
 rintro e x2 ⟨rfl, hb⟩
 replace hL0 := hL0.call hb
 replace hT := hT.call hb
 clear hb hweq
 go_wp2_with fail
 exact bodyPost_ret (v := .bool true) (by simp [results, Tryz.results4, go_sem]) rfl ⟨rfl, hL0.bl⟩
theorem iparts_w (al am : Option Addr) (nl cl nm cm : Nat) (iun iud ium iue ivn ivd ivm ive iwn iwd iwm iwe izn izd izm ize : Int) (pa pb ps pk pq : List TI) (ux uy vx vy wx wy zx zy ox oy lx ly nx ny aw ta tb tc sw bw nw ar on na kx ky jx jy un tw tr : Rat) (KL : World → Prop) (hKL : Keeps KL) (HMa : ∀ (w : World), KL w → Calls Tryz.prog 8 #[.slice al nl cl, .int .i64 4] w fun e w' => ∃ pv, e = .returned pv ∧ PT w' pv pa ∧ Below w.heap.size w w') (KM : World → Prop) (hKM : Keeps KM) (HMb : ∀ (w : World), KM w → Calls Tryz.prog 8 #[.slice am nm cm, .int .i64 4] w fun e w' => ∃ pv, e = .returned pv ∧ PT w' pv pb ∧ Below w.heap.size w w') (Ou : ∀ w, Calls Tryz.prog 9 #[.agg #[.int .i64 iun, .int .u32 iud, .int .i64 ium, .int .u32 iue]] w fun xe w' => xe = .returned (.agg #[.int .u64 ((zl ux.num : Nat) : Int), .string (zh ux.num), .bool (zs ux.num), .int .u64 ((lo (fe ux) : Nat) : Int), .string (hs (fe ux)), .int .u64 ((zl uy.num : Nat) : Int), .string (zh uy.num), .bool (zs uy.num), .int .u64 ((lo (fe uy) : Nat) : Int), .string (hs (fe uy))]) ∧ Below w.heap.size w w') (Ov : ∀ w, Calls Tryz.prog 9 #[.agg #[.int .i64 ivn, .int .u32 ivd, .int .i64 ivm, .int .u32 ive]] w fun xe w' => xe = .returned (.agg #[.int .u64 ((zl vx.num : Nat) : Int), .string (zh vx.num), .bool (zs vx.num), .int .u64 ((lo (fe vx) : Nat) : Int), .string (hs (fe vx)), .int .u64 ((zl vy.num : Nat) : Int), .string (zh vy.num), .bool (zs vy.num), .int .u64 ((lo (fe vy) : Nat) : Int), .string (hs (fe vy))]) ∧ Below w.heap.size w w') (Ow : ∀ w, Calls Tryz.prog 9 #[.agg #[.int .i64 iwn, .int .u32 iwd, .int .i64 iwm, .int .u32 iwe]] w fun xe w' => xe = .returned (.agg #[.int .u64 ((zl wx.num : Nat) : Int), .string (zh wx.num), .bool (zs wx.num), .int .u64 ((lo (fe wx) : Nat) : Int), .string (hs (fe wx)), .int .u64 ((zl wy.num : Nat) : Int), .string (zh wy.num), .bool (zs wy.num), .int .u64 ((lo (fe wy) : Nat) : Int), .string (hs (fe wy))]) ∧ Below w.heap.size w w') (Oz : ∀ w, Calls Tryz.prog 9 #[.agg #[.int .i64 izn, .int .u32 izd, .int .i64 izm, .int .u32 ize]] w fun xe w' => xe = .returned (.agg #[.int .u64 ((zl zx.num : Nat) : Int), .string (zh zx.num), .bool (zs zx.num), .int .u64 ((lo (fe zx) : Nat) : Int), .string (hs (fe zx)), .int .u64 ((zl zy.num : Nat) : Int), .string (zh zy.num), .bool (zs zy.num), .int .u64 ((lo (fe zy) : Nat) : Int), .string (hs (fe zy))]) ∧ Below w.heap.size w w') (T1 : ∀ (p0 : Value) (w : World), PT w p0 pa → Calls Tryz.prog 10 #[p0, .agg #[.int .u64 ((zl ux.num : Nat) : Int), .string (zh ux.num), .bool (zs ux.num), .int .u64 ((lo (fe ux) : Nat) : Int), .string (hs (fe ux)), .int .u64 ((zl uy.num : Nat) : Int), .string (zh uy.num), .bool (zs uy.num), .int .u64 ((lo (fe uy) : Nat) : Int), .string (hs (fe uy))], .agg #[.int .u64 ((zl vx.num : Nat) : Int), .string (zh vx.num), .bool (zs vx.num), .int .u64 ((lo (fe vx) : Nat) : Int), .string (hs (fe vx)), .int .u64 ((zl vy.num : Nat) : Int), .string (zh vy.num), .bool (zs vy.num), .int .u64 ((lo (fe vy) : Nat) : Int), .string (hs (fe vy))], .agg #[.int .u64 ((zl wx.num : Nat) : Int), .string (zh wx.num), .bool (zs wx.num), .int .u64 ((lo (fe wx) : Nat) : Int), .string (hs (fe wx)), .int .u64 ((zl wy.num : Nat) : Int), .string (zh wy.num), .bool (zs wy.num), .int .u64 ((lo (fe wy) : Nat) : Int), .string (hs (fe wy))]] w fun e w' => e = .returned (fracV aw) ∧ Below w.heap.size w w') (T2 : ∀ (p0 : Value) (w : World), PT w p0 pa → Calls Tryz.prog 10 #[p0, .agg #[.int .u64 ((zl ux.num : Nat) : Int), .string (zh ux.num), .bool (zs ux.num), .int .u64 ((lo (fe ux) : Nat) : Int), .string (hs (fe ux)), .int .u64 ((zl uy.num : Nat) : Int), .string (zh uy.num), .bool (zs uy.num), .int .u64 ((lo (fe uy) : Nat) : Int), .string (hs (fe uy))], .agg #[.int .u64 ((zl vx.num : Nat) : Int), .string (zh vx.num), .bool (zs vx.num), .int .u64 ((lo (fe vx) : Nat) : Int), .string (hs (fe vx)), .int .u64 ((zl vy.num : Nat) : Int), .string (zh vy.num), .bool (zs vy.num), .int .u64 ((lo (fe vy) : Nat) : Int), .string (hs (fe vy))], .agg #[.int .u64 ((zl zx.num : Nat) : Int), .string (zh zx.num), .bool (zs zx.num), .int .u64 ((lo (fe zx) : Nat) : Int), .string (hs (fe zx)), .int .u64 ((zl zy.num : Nat) : Int), .string (zh zy.num), .bool (zs zy.num), .int .u64 ((lo (fe zy) : Nat) : Int), .string (hs (fe zy))]] w fun e w' => e = .returned (fracV ta) ∧ Below w.heap.size w w') (T3 : ∀ (p0 : Value) (w : World), PT w p0 pa → Calls Tryz.prog 10 #[p0, .agg #[.int .u64 ((zl vx.num : Nat) : Int), .string (zh vx.num), .bool (zs vx.num), .int .u64 ((lo (fe vx) : Nat) : Int), .string (hs (fe vx)), .int .u64 ((zl vy.num : Nat) : Int), .string (zh vy.num), .bool (zs vy.num), .int .u64 ((lo (fe vy) : Nat) : Int), .string (hs (fe vy))], .agg #[.int .u64 ((zl wx.num : Nat) : Int), .string (zh wx.num), .bool (zs wx.num), .int .u64 ((lo (fe wx) : Nat) : Int), .string (hs (fe wx)), .int .u64 ((zl wy.num : Nat) : Int), .string (zh wy.num), .bool (zs wy.num), .int .u64 ((lo (fe wy) : Nat) : Int), .string (hs (fe wy))], .agg #[.int .u64 ((zl zx.num : Nat) : Int), .string (zh zx.num), .bool (zs zx.num), .int .u64 ((lo (fe zx) : Nat) : Int), .string (hs (fe zx)), .int .u64 ((zl zy.num : Nat) : Int), .string (zh zy.num), .bool (zs zy.num), .int .u64 ((lo (fe zy) : Nat) : Int), .string (hs (fe zy))]] w fun e w' => e = .returned (fracV tb) ∧ Below w.heap.size w w') (T4 : ∀ (p0 : Value) (w : World), PT w p0 pa → Calls Tryz.prog 10 #[p0, .agg #[.int .u64 ((zl wx.num : Nat) : Int), .string (zh wx.num), .bool (zs wx.num), .int .u64 ((lo (fe wx) : Nat) : Int), .string (hs (fe wx)), .int .u64 ((zl wy.num : Nat) : Int), .string (zh wy.num), .bool (zs wy.num), .int .u64 ((lo (fe wy) : Nat) : Int), .string (hs (fe wy))], .agg #[.int .u64 ((zl ux.num : Nat) : Int), .string (zh ux.num), .bool (zs ux.num), .int .u64 ((lo (fe ux) : Nat) : Int), .string (hs (fe ux)), .int .u64 ((zl uy.num : Nat) : Int), .string (zh uy.num), .bool (zs uy.num), .int .u64 ((lo (fe uy) : Nat) : Int), .string (hs (fe uy))], .agg #[.int .u64 ((zl zx.num : Nat) : Int), .string (zh zx.num), .bool (zs zx.num), .int .u64 ((lo (fe zx) : Nat) : Int), .string (hs (fe zx)), .int .u64 ((zl zy.num : Nat) : Int), .string (zh zy.num), .bool (zs zy.num), .int .u64 ((lo (fe zy) : Nat) : Int), .string (hs (fe zy))]] w fun e w' => e = .returned (fracV tc) ∧ Below w.heap.size w w') (S1 : ∀ (p0 : Value) (w : World), SlQ w p0 ([ta, tb, tc]) → Calls Tryz.prog 14 #[p0] w fun e w' => e = .returned (fracV aw) ∧ Below w.heap.size w w') (Ad : ∀ (p0 p1 : Value) (w : World), PT w p0 pa → PT w p1 pb → Calls Tryz.prog 11 #[p0, p1] w fun e w' => ∃ pv, e = .returned pv ∧ PT w' pv ps ∧ Below w.heap.size w w') (T5 : ∀ (p0 : Value) (w : World), PT w p0 ps → Calls Tryz.prog 10 #[p0, .agg #[.int .u64 ((zl ux.num : Nat) : Int), .string (zh ux.num), .bool (zs ux.num), .int .u64 ((lo (fe ux) : Nat) : Int), .string (hs (fe ux)), .int .u64 ((zl uy.num : Nat) : Int), .string (zh uy.num), .bool (zs uy.num), .int .u64 ((lo (fe uy) : Nat) : Int), .string (hs (fe uy))], .agg #[.int .u64 ((zl vx.num : Nat) : Int), .string (zh vx.num), .bool (zs vx.num), .int .u64 ((lo (fe vx) : Nat) : Int), .string (hs (fe vx)), .int .u64 ((zl vy.num : Nat) : Int), .string (zh vy.num), .bool (zs vy.num), .int .u64 ((lo (fe vy) : Nat) : Int), .string (hs (fe vy))], .agg #[.int .u64 ((zl wx.num : Nat) : Int), .string (zh wx.num), .bool (zs wx.num), .int .u64 ((lo (fe wx) : Nat) : Int), .string (hs (fe wx)), .int .u64 ((zl wy.num : Nat) : Int), .string (zh wy.num), .bool (zs wy.num), .int .u64 ((lo (fe wy) : Nat) : Int), .string (hs (fe wy))]] w fun e w' => e = .returned (fracV sw) ∧ Below w.heap.size w w') (T6 : ∀ (p0 : Value) (w : World), PT w p0 pb → Calls Tryz.prog 10 #[p0, .agg #[.int .u64 ((zl ux.num : Nat) : Int), .string (zh ux.num), .bool (zs ux.num), .int .u64 ((lo (fe ux) : Nat) : Int), .string (hs (fe ux)), .int .u64 ((zl uy.num : Nat) : Int), .string (zh uy.num), .bool (zs uy.num), .int .u64 ((lo (fe uy) : Nat) : Int), .string (hs (fe uy))], .agg #[.int .u64 ((zl vx.num : Nat) : Int), .string (zh vx.num), .bool (zs vx.num), .int .u64 ((lo (fe vx) : Nat) : Int), .string (hs (fe vx)), .int .u64 ((zl vy.num : Nat) : Int), .string (zh vy.num), .bool (zs vy.num), .int .u64 ((lo (fe vy) : Nat) : Int), .string (hs (fe vy))], .agg #[.int .u64 ((zl wx.num : Nat) : Int), .string (zh wx.num), .bool (zs wx.num), .int .u64 ((lo (fe wx) : Nat) : Int), .string (hs (fe wx)), .int .u64 ((zl wy.num : Nat) : Int), .string (zh wy.num), .bool (zs wy.num), .int .u64 ((lo (fe wy) : Nat) : Int), .string (hs (fe wy))]] w fun e w' => e = .returned (fracV bw) ∧ Below w.heap.size w w') (A1 : ∀ w, Calls Tryz.prog 16 #[fracV aw, fracV bw] w fun xe w' => xe = .returned (fracV sw) ∧ Below w.heap.size w w') (T7 : ∀ (p0 : Value) (w : World), PT w p0 pa → Calls Tryz.prog 10 #[p0, .agg #[.int .u64 ((zl vx.num : Nat) : Int), .string (zh vx.num), .bool (zs vx.num), .int .u64 ((lo (fe vx) : Nat) : Int), .string (hs (fe vx)), .int .u64 ((zl vy.num : Nat) : Int), .string (zh vy.num), .bool (zs vy.num), .int .u64 ((lo (fe vy) : Nat) : Int), .string (hs (fe vy))], .agg #[.int .u64 ((zl wx.num : Nat) : Int), .string (zh wx.num), .bool (zs wx.num), .int .u64 ((lo (fe wx) : Nat) : Int), .string (hs (fe wx)), .int .u64 ((zl wy.num : Nat) : Int), .string (zh wy.num), .bool (zs wy.num), .int .u64 ((lo (fe wy) : Nat) : Int), .string (hs (fe wy))], .agg #[.int .u64 ((zl ux.num : Nat) : Int), .string (zh ux.num), .bool (zs ux.num), .int .u64 ((lo (fe ux) : Nat) : Int), .string (hs (fe ux)), .int .u64 ((zl uy.num : Nat) : Int), .string (zh uy.num), .bool (zs uy.num), .int .u64 ((lo (fe uy) : Nat) : Int), .string (hs (fe uy))]] w fun e w' => e = .returned (fracV aw) ∧ Below w.heap.size w w') (T8 : ∀ (p0 : Value) (w : World), PT w p0 pa → Calls Tryz.prog 10 #[p0, .agg #[.int .u64 ((zl ux.num : Nat) : Int), .string (zh ux.num), .bool (zs ux.num), .int .u64 ((lo (fe ux) : Nat) : Int), .string (hs (fe ux)), .int .u64 ((zl uy.num : Nat) : Int), .string (zh uy.num), .bool (zs uy.num), .int .u64 ((lo (fe uy) : Nat) : Int), .string (hs (fe uy))], .agg #[.int .u64 ((zl wx.num : Nat) : Int), .string (zh wx.num), .bool (zs wx.num), .int .u64 ((lo (fe wx) : Nat) : Int), .string (hs (fe wx)), .int .u64 ((zl wy.num : Nat) : Int), .string (zh wy.num), .bool (zs wy.num), .int .u64 ((lo (fe wy) : Nat) : Int), .string (hs (fe wy))], .agg #[.int .u64 ((zl vx.num : Nat) : Int), .string (zh vx.num), .bool (zs vx.num), .int .u64 ((lo (fe vx) : Nat) : Int), .string (hs (fe vx)), .int .u64 ((zl vy.num : Nat) : Int), .string (zh vy.num), .bool (zs vy.num), .int .u64 ((lo (fe vy) : Nat) : Int), .string (hs (fe vy))]] w fun e w' => e = .returned (fracV nw) ∧ Below w.heap.size w w') (N1 : ∀ w, Calls Tryz.prog 17 #[fracV aw] w fun xe w' => xe = .returned (fracV nw) ∧ Below w.heap.size w w') (Ar1 : ∀ w, Calls Tryz.prog 18 #[.agg #[.int .u64 ((zl ux.num : Nat) : Int), .string (zh ux.num), .bool (zs ux.num), .int .u64 ((lo (fe ux) : Nat) : Int), .string (hs (fe ux)), .int .u64 ((zl uy.num : Nat) : Int), .string (zh uy.num), .bool (zs uy.num), .int .u64 ((lo (fe uy) : Nat) : Int), .string (hs (fe uy))], .agg #[.int .u64 ((zl vx.num : Nat) : Int), .string (zh vx.num), .bool (zs vx.num), .int .u64 ((lo (fe vx) : Nat) : Int), .string (hs (fe vx)), .int .u64 ((zl vy.num : Nat) : Int), .string (zh vy.num), .bool (zs vy.num), .int .u64 ((lo (fe vy) : Nat) : Int), .string (hs (fe vy))], .agg #[.int .u64 ((zl wx.num : Nat) : Int), .string (zh wx.num), .bool (zs wx.num), .int .u64 ((lo (fe wx) : Nat) : Int), .string (hs (fe wx)), .int .u64 ((zl wy.num : Nat) : Int), .string (zh wy.num), .bool (zs wy.num), .int .u64 ((lo (fe wy) : Nat) : Int), .string (hs (fe wy))]] w fun xe w' => xe = .returned (fracV ar) ∧ Below w.heap.size w w') (I1 : ∀ w, Calls Tryz.prog 20 #[.int .i64 1] w fun xe w' => xe = .returned (fracV on) ∧ Below w.heap.size w w') (Ck : ∀ (w : World), Calls Tryz.prog 19 #[fracV on] w fun e w' => ∃ pv, e = .returned pv ∧ PT w' pv pk ∧ Below w.heap.size w w') (T9 : ∀ (p0 : Value) (w : World), PT w p0 pk → Calls Tryz.prog 10 #[p0, .agg #[.int .u64 ((zl ux.num : Nat) : Int), .string (zh ux.num), .bool (zs ux.num), .int .u64 ((lo (fe ux) : Nat) : Int), .string (hs (fe ux)), .int .u64 ((zl uy.num : Nat) : Int), .string (zh uy.num), .bool (zs uy.num), .int .u64 ((lo (fe uy) : Nat) : Int), .string (hs (fe uy))], .agg #[.int .u64 ((zl vx.num : Nat) : Int), .string (zh vx.num), .bool (zs vx.num), .int .u64 ((lo (fe vx) : Nat) : Int), .string (hs (fe vx)), .int .u64 ((zl vy.num : Nat) : Int), .string (zh vy.num), .bool (zs vy.num), .int .u64 ((lo (fe vy) : Nat) : Int), .string (hs (fe vy))], .agg #[.int .u64 ((zl wx.num : Nat) : Int), .string (zh wx.num), .bool (zs wx.num), .int .u64 ((lo (fe wx) : Nat) : Int), .string (hs (fe wx)), .int .u64 ((zl wy.num : Nat) : Int), .string (zh wy.num), .bool (zs wy.num), .int .u64 ((lo (fe wy) : Nat) : Int), .string (hs (fe wy))]] w fun e w' => e = .returned (fracV ar) ∧ Below w.heap.size w w') (Ar2 : ∀ w, Calls Tryz.prog 18 #[.agg #[.int .u64 ((zl vx.num : Nat) : Int), .string (zh vx.num), .bool (zs vx.num), .int .u64 ((lo (fe vx) : Nat) : Int), .string (hs (fe vx)), .int .u64 ((zl vy.num : Nat) : Int), .string (zh vy.num), .bool (zs vy.num), .int .u64 ((lo (fe vy) : Nat) : Int), .string (hs (fe vy))], .agg #[.int .u64 ((zl ux.num : Nat) : Int), .string (zh ux.num), .bool (zs ux.num), .int .u64 ((lo (fe ux) : Nat) : Int), .string (hs (fe ux)), .int .u64 ((zl uy.num : Nat) : Int), .string (zh uy.num), .bool (zs uy.num), .int .u64 ((lo (fe uy) : Nat) : Int), .string (hs (fe uy))], .agg #[.int .u64 ((zl wx.num : Nat) : Int), .string (zh wx.num), .bool (zs wx.num), .int .u64 ((lo (fe wx) : Nat) : Int), .string (hs (fe wx)), .int .u64 ((zl wy.num : Nat) : Int), .string (zh wy.num), .bool (zs wy.num), .int .u64 ((lo (fe wy) : Nat) : Int), .string (hs (fe wy))]] w fun xe w' => xe = .returned (fracV na) ∧ Below w.heap.size w w') (N2 : ∀ w, Calls Tryz.prog 17 #[fracV ar] w fun xe w' => xe = .returned (fracV na) ∧ Below w.heap.size w w') (B1 : ∀ w, Calls Tryz.prog 21 #[fracV vx, fracV ux] w fun xe w' => xe = .returned (fracV kx) ∧ Below w.heap.size w w') (B2 : ∀ w, Calls Tryz.prog 21 #[fracV vy, fracV uy] w fun xe w' => xe = .returned (fracV ky) ∧ Below w.heap.size w w') (B3 : ∀ w, Calls Tryz.prog 21 #[fracV wx, fracV ux] w fun xe w' => xe = .returned (fracV jx) ∧ Below w.heap.size w w') (B4 : ∀ w, Calls Tryz.prog 21 #[fracV wy, fracV uy] w fun xe w' => xe = .returned (fracV jy) ∧ Below w.heap.size w w') (Sh : ∀ (p0 : Value) (w : World), PT w p0 pa → Calls Tryz.prog 22 #[p0, fracV kx, fracV jx, fracV ux, fracV ky, fracV jy, fracV uy] w fun e w' => ∃ pv, e = .returned pv ∧ PT w' pv pq ∧ Below w.heap.size w w') (P1 : ∀ w, Calls Tryz.prog 23 #[.int .i64 0, .int .i64 0] w fun xe w' => xe = .returned (.agg #[.int .u64 ((zl ox.num : Nat) : Int), .string (zh ox.num), .bool (zs ox.num), .int .u64 ((lo (fe ox) : Nat) : Int), .string (hs (fe ox)), .int .u64 ((zl oy.num : Nat) : Int), .string (zh oy.num), .bool (zs oy.num), .int .u64 ((lo (fe oy) : Nat) : Int), .string (hs (fe oy))]) ∧ Below w.heap.size w w') (P2 : ∀ w, Calls Tryz.prog 23 #[.int .i64 1, .int .i64 0] w fun xe w' => xe = .returned (.agg #[.int .u64 ((zl lx.num : Nat) : Int), .string (zh lx.num), .bool (zs lx.num), .int .u64 ((lo (fe lx) : Nat) : Int), .string (hs (fe lx)), .int .u64 ((zl ly.num : Nat) : Int), .string (zh ly.num), .bool (zs ly.num), .int .u64 ((lo (fe ly) : Nat) : Int), .string (hs (fe ly))]) ∧ Below w.heap.size w w') (P3 : ∀ w, Calls Tryz.prog 23 #[.int .i64 0, .int .i64 1] w fun xe w' => xe = .returned (.agg #[.int .u64 ((zl nx.num : Nat) : Int), .string (zh nx.num), .bool (zs nx.num), .int .u64 ((lo (fe nx) : Nat) : Int), .string (hs (fe nx)), .int .u64 ((zl ny.num : Nat) : Int), .string (zh ny.num), .bool (zs ny.num), .int .u64 ((lo (fe ny) : Nat) : Int), .string (hs (fe ny))]) ∧ Below w.heap.size w w') (T0 : ∀ (p0 : Value) (w : World), PT w p0 pq → Calls Tryz.prog 10 #[p0, .agg #[.int .u64 ((zl ox.num : Nat) : Int), .string (zh ox.num), .bool (zs ox.num), .int .u64 ((lo (fe ox) : Nat) : Int), .string (hs (fe ox)), .int .u64 ((zl oy.num : Nat) : Int), .string (zh oy.num), .bool (zs oy.num), .int .u64 ((lo (fe oy) : Nat) : Int), .string (hs (fe oy))], .agg #[.int .u64 ((zl lx.num : Nat) : Int), .string (zh lx.num), .bool (zs lx.num), .int .u64 ((lo (fe lx) : Nat) : Int), .string (hs (fe lx)), .int .u64 ((zl ly.num : Nat) : Int), .string (zh ly.num), .bool (zs ly.num), .int .u64 ((lo (fe ly) : Nat) : Int), .string (hs (fe ly))], .agg #[.int .u64 ((zl nx.num : Nat) : Int), .string (zh nx.num), .bool (zs nx.num), .int .u64 ((lo (fe nx) : Nat) : Int), .string (hs (fe nx)), .int .u64 ((zl ny.num : Nat) : Int), .string (zh ny.num), .bool (zs ny.num), .int .u64 ((lo (fe ny) : Nat) : Int), .string (hs (fe ny))]] w fun e w' => e = .returned (fracV un) ∧ Below w.heap.size w w') (I2 : ∀ w, Calls Tryz.prog 20 #[.int .i64 2] w fun xe w' => xe = .returned (fracV tw) ∧ Below w.heap.size w w') (M1 : ∀ w, Calls Tryz.prog 24 #[fracV tw, fracV ar] w fun xe w' => xe = .returned (fracV tr) ∧ Below w.heap.size w w') (M2 : ∀ w, Calls Tryz.prog 24 #[fracV un, fracV tr] w fun xe w' => xe = .returned (fracV aw) ∧ Below w.heap.size w w') (KT : World → Prop) (hKT : Keeps KT) (HW : ∀ w, KT w → Calls Tryz.prog 7 #[] w fun xe w' => xe = .returned (.bool true) ∧ Below w.heap.size w w') (l_nl : decide ((6 : Int) < ((nl : Nat) : Int)) = false) (k_nl : decide (6 < nl) = false) (l_nm : decide ((6 : Int) < ((nm : Nat) : Int)) = false) (k_nm : decide (6 < nm) = false) (w : World) (kKL : KL w) (kKM : KM w) (kKT : KT w) :
  Calls Tryz.prog 4 #[.slice al nl cl, .slice am nm cm, .agg #[.int .i64 iun, .int .u32 iud, .int .i64 ium, .int .u32 iue], .agg #[.int .i64 ivn, .int .u32 ivd, .int .i64 ivm, .int .u32 ive], .agg #[.int .i64 iwn, .int .u32 iwd, .int .i64 iwm, .int .u32 iwe], .agg #[.int .i64 izn, .int .u32 izd, .int .i64 izm, .int .u32 ize]] w fun e w' => e = .returned (.bool true) ∧ Below w.heap.size w w' := by
 replace hKL := Lib.hid hKL
 replace HMa := Lib.hid HMa
 replace hKM := Lib.hid hKM
 replace HMb := Lib.hid HMb
 replace Ou := Lib.hid Ou
 replace Ov := Lib.hid Ov
 replace Ow := Lib.hid Ow
 replace Oz := Lib.hid Oz
 replace T1 := Lib.hid T1
 replace T2 := Lib.hid T2
 replace T3 := Lib.hid T3
 replace T4 := Lib.hid T4
 replace S1 := Lib.hid S1
 replace Ad := Lib.hid Ad
 replace T5 := Lib.hid T5
 replace T6 := Lib.hid T6
 replace A1 := Lib.hid A1
 replace T7 := Lib.hid T7
 replace T8 := Lib.hid T8
 replace N1 := Lib.hid N1
 replace Ar1 := Lib.hid Ar1
 replace I1 := Lib.hid I1
 replace Ck := Lib.hid Ck
 replace T9 := Lib.hid T9
 replace Ar2 := Lib.hid Ar2
 replace N2 := Lib.hid N2
 replace B1 := Lib.hid B1
 replace B2 := Lib.hid B2
 replace B3 := Lib.hid B3
 replace B4 := Lib.hid B4
 replace Sh := Lib.hid Sh
 replace P1 := Lib.hid P1
 replace P2 := Lib.hid P2
 replace P3 := Lib.hid P3
 replace T0 := Lib.hid T0
 replace I2 := Lib.hid I2
 replace M1 := Lib.hid M1
 replace M2 := Lib.hid M2
 replace hKT := Lib.hid hKT
 replace HW := Lib.hid HW
 have hL0 : GL w w [] := GL.start w
 have hT : PTs w [] := PTs.nil w
 replace hT := ((((hT.new (.cells #[.int .i64 iun, .int .u32 iud, .int .i64 ium, .int .u32 iue] 27)).new (.cells #[.int .i64 ivn, .int .u32 ivd, .int .i64 ivm, .int .u32 ive] 27)).new (.cells #[.int .i64 iwn, .int .u32 iwd, .int .i64 iwm, .int .u32 iwe] 27)).new (.cells #[.int .i64 izn, .int .u32 izd, .int .i64 izm, .int .u32 ize] 27))
 replace hL0 := ((((hL0.new rfl [.int .i64 iun, .int .u32 iud, .int .i64 ium, .int .u32 iue] 27).new (K := w.heap.size + 1) (szA _ _) [.int .i64 ivn, .int .u32 ivd, .int .i64 ivm, .int .u32 ive] 27).new (K := w.heap.size + 1 + 1) (by simp only [World.size_alloc]) [.int .i64 iwn, .int .u32 iwd, .int .i64 iwm, .int .u32 iwe] 27).new (K := w.heap.size + 1 + 1 + 1) (by simp only [World.size_alloc]) [.int .i64 izn, .int .u32 izd, .int .i64 izm, .int .u32 ize] 27)
 generalize hweq : ((((w.alloc (.cells #[.int .i64 iun, .int .u32 iud, .int .i64 ium, .int .u32 iue] 27)).alloc (.cells #[.int .i64 ivn, .int .u32 ivd, .int .i64 ivm, .int .u32 ive] 27)).alloc (.cells #[.int .i64 iwn, .int .u32 iwd, .int .i64 iwm, .int .u32 iwe] 27)).alloc (.cells #[.int .i64 izn, .int .u32 izd, .int .i64 izm, .int .u32 ize] 27)) = x1 at hL0 hT
 go_enter Tryz.func4, Tryz.ntmps4
 go_wp2_with fail
 with_reducible refine Calls.mono (HMa.out _ (hKL.out.at (hL0.bl) kKL)) ?_
 rintro e x2 ⟨v0, rfl, q0, hb⟩
 replace hL0 := hL0.call hb
 replace hT := hT.call hb
 clear hb hweq
 obtain ⟨g1, d1, g1c, rfl, -⟩ := pt_form q0
 replace hT := hT.cons q0
 clear q0
 go_wp2_with fail
 with_reducible refine Calls.mono (HMb.out _ (hKM.out.at (hL0.bl) kKM)) ?_
 rintro e x3 ⟨v0, rfl, q0, hb⟩
 replace hL0 := hL0.call hb
 replace hT := hT.call hb
 clear hb
 obtain ⟨g2, d2, g2c, rfl, -⟩ := pt_form q0
 replace hT := hT.cons q0
 clear q0
 go_upto_region 4 with fail
 refine region_gh (by kernel_rfl) (by kernel_rfl) ?_
 refine lex_seg (gl := []) 8 (by kernel_rfl) ?_
 intro α iα F hF1 hF2
 have hq := GL.seg hF1 hL0
 simp only [zC, Nat.reduceAdd] at hq
 simp only [zT]
 repeat (go_big_quiet_step (first | fail | (go_at_call 9; with_reducible exact seg_call hF2 Ou.out _) | (go_at_call 9; with_reducible exact seg_call hF2 Ov.out _) | (go_at_call 9; with_reducible exact seg_call hF2 Ow.out _) | (go_at_call 9; with_reducible exact seg_call hF2 Oz.out _)))
 refine wpQuiet_nil ?_
 clear hq hF1 hF2 iα F α
 refine lex_new [.int .u64 0, .string ⟨#[]⟩, .bool false, .int .u64 0, .string ⟨#[]⟩, .int .u64 0, .string ⟨#[]⟩, .bool false, .int .u64 0, .string ⟨#[]⟩] 15 39 39 rfl rfl (of_decide_eq_true (by kernel_rfl)) (by kernel_rfl) rfl new_pt9 ?_
 simp only [Act.put, zP]
 refine lex_new [.int .u64 0, .string ⟨#[]⟩, .bool false, .int .u64 0, .string ⟨#[]⟩, .int .u64 0, .string ⟨#[]⟩, .bool false, .int .u64 0, .string ⟨#[]⟩] 16 39 39 rfl rfl (of_decide_eq_true (by kernel_rfl)) (by kernel_rfl) rfl new_pt9 ?_
 simp only [Act.put, zP]
 refine lex_new [.int .u64 0, .string ⟨#[]⟩, .bool false, .int .u64 0, .string ⟨#[]⟩, .int .u64 0, .string ⟨#[]⟩, .bool false, .int .u64 0, .string ⟨#[]⟩] 17 39 39 rfl rfl (of_decide_eq_true (by kernel_rfl)) (by kernel_rfl) rfl new_pt9 ?_
 simp only [Act.put, zP]
 refine lex_new [.int .u64 0, .string ⟨#[]⟩, .bool false, .int .u64 0, .string ⟨#[]⟩, .int .u64 0, .string ⟨#[]⟩, .bool false, .int .u64 0, .string ⟨#[]⟩] 18 39 39 rfl rfl (of_decide_eq_true (by kernel_rfl)) (by kernel_rfl) rfl new_pt9 ?_
 simp only [Act.put, zP]
 refine lex_put [.int .u64 ((zl ux.num : Nat) : Int), .string (zh ux.num), .bool (zs ux.num), .int .u64 ((lo (fe ux) : Nat) : Int), .string (hs (fe ux)), .int .u64 ((zl uy.num : Nat) : Int), .string (zh uy.num), .bool (zs uy.num), .int .u64 ((lo (fe uy) : Nat) : Int), .string (hs (fe uy))] [.int .u64 0, .string ⟨#[]⟩, .bool false, .int .u64 0, .string ⟨#[]⟩, .int .u64 0, .string ⟨#[]⟩, .bool false, .int .u64 0, .string ⟨#[]⟩] 15 39 (.tmp 40) rfl (by kernel_rfl) (by simp [toG, upd]) rfl (fun w k h => put_pt9 _ _ _ _ _ _ _ _ _ _ _ _ _ _ _ _ _ _ _ _ w k h) ?_
 simp only [Act.put]
 refine lex_put [.int .u64 ((zl vx.num : Nat) : Int), .string (zh vx.num), .bool (zs vx.num), .int .u64 ((lo (fe vx) : Nat) : Int), .string (hs (fe vx)), .int .u64 ((zl vy.num : Nat) : Int), .string (zh vy.num), .bool (zs vy.num), .int .u64 ((lo (fe vy) : Nat) : Int), .string (hs (fe vy))] [.int .u64 0, .string ⟨#[]⟩, .bool false, .int .u64 0, .string ⟨#[]⟩, .int .u64 0, .string ⟨#[]⟩, .bool false, .int .u64 0, .string ⟨#[]⟩] 16 39 (.tmp 42) rfl (by kernel_rfl) (by simp [toG, upd]) rfl (fun w k h => put_pt9 _ _ _ _ _ _ _ _ _ _ _ _ _ _ _ _ _ _ _ _ w k h) ?_
 simp only [Act.put]
 refine lex_put [.int .u64 ((zl wx.num : Nat) : Int), .string (zh wx.num), .bool (zs wx.num), .int .u64 ((lo (fe wx) : Nat) : Int), .string (hs (fe wx)), .int .u64 ((zl wy.num : Nat) : Int), .string (zh wy.num), .bool (zs wy.num), .int .u64 ((lo (fe wy) : Nat) : Int), .string (hs (fe wy))] [.int .u64 0, .string ⟨#[]⟩, .bool false, .int .u64 0, .string ⟨#[]⟩, .int .u64 0, .string ⟨#[]⟩, .bool false, .int .u64 0, .string ⟨#[]⟩] 17 39 (.tmp 44) rfl (by kernel_rfl) (by simp [toG, upd]) rfl (fun w k h => put_pt9 _ _ _ _ _ _ _ _ _ _ _ _ _ _ _ _ _ _ _ _ w k h) ?_
 simp only [Act.put]
 refine lex_put [.int .u64 ((zl zx.num : Nat) : Int), .string (zh zx.num), .bool (zs zx.num), .int .u64 ((lo (fe zx) : Nat) : Int), .string (hs (fe zx)), .int .u64 ((zl zy.num : Nat) : Int), .string (zh zy.num), .bool (zs zy.num), .int .u64 ((lo (fe zy) : Nat) : Int), .string (hs (fe zy))] [.int .u64 0, .string ⟨#[]⟩, .bool false, .int .u64 0, .string ⟨#[]⟩, .int .u64 0, .string ⟨#[]⟩, .bool false, .int .u64 0, .string ⟨#[]⟩] 18 39 (.tmp 46) rfl (by kernel_rfl) (by simp [toG, upd]) rfl (fun w k h => put_pt9 _ _ _ _ _ _ _ _ _ _ _ _ _ _ _ _ _ _ _ _ w k h) ?_
 simp only [Act.put]
 refine lexG_nil ?_
 intro κ x4 hSim
 replace hL0 := hL0.ghs hSim [(18, [.int .u64 ((zl zx.num : Nat) : Int), .string (zh zx.num), .bool (zs zx.num), .int .u64 ((lo (fe zx) : Nat) : Int), .string (hs (fe zx)), .int .u64 ((zl zy.num : Nat) : Int), .string (zh zy.num), .bool (zs zy.num), .int .u64 ((lo (fe zy) : Nat) : Int), .string (hs (fe zy))]), (17, [.int .u64 ((zl wx.num : Nat) : Int), .string (zh wx.num), .bool (zs wx.num), .int .u64 ((lo (fe wx) : Nat) : Int), .string (hs (fe wx)), .int .u64 ((zl wy.num : Nat) : Int), .string (zh wy.num), .bool (zs wy.num), .int .u64 ((lo (fe wy) : Nat) : Int), .string (hs (fe wy))]), (16, [.int .u64 ((zl vx.num : Nat) : Int), .string (zh vx.num), .bool (zs vx.num), .int .u64 ((lo (fe vx) : Nat) : Int), .string (hs (fe vx)), .int .u64 ((zl vy.num : Nat) : Int), .string (zh vy.num), .bool (zs vy.num), .int .u64 ((lo (fe vy) : Nat) : Int), .string (hs (fe vy))]), (15, [.int .u64 ((zl ux.num : Nat) : Int), .string (zh ux.num), .bool (zs ux.num), .int .u64 ((lo (fe ux) : Nat) : Int), .string (hs (fe ux)), .int .u64 ((zl uy.num : Nat) : Int), .string (zh uy.num), .bool (zs uy.num), .int .u64 ((lo (fe uy) : Nat) : Int), .string (hs (fe uy))])] (by simp) (by intro p hp; simp only [List.mem_cons, List.not_mem_nil, or_false] at hp; rcases hp with rfl | rfl | rfl | rfl <;> exact ⟨_, by simp only [toG, upd]; rfl⟩)
 simp only [List.map_cons, List.map_nil, List.cons_append, List.nil_append] at hL0
 simp only [over_toG, over_nil, Act.put, zP]
 replace hT := hT.call (below_drew hSim.base)
 clear hSim
 generalize κ 18 = k4_18 at *
 generalize κ 17 = k4_17 at *
 generalize κ 16 = k4_16 at *
 generalize κ 15 = k4_15 at *
 have hN0 := cells_of _ 0 [] rfl (hL0.get _ _ (mK mZ))
 simp only [zF, Nat.reduceAdd] at hN0
 have hN1 := cells_of _ 0 [] rfl (hL0.get _ _ (mK (mK mZ)))
 simp only [zF, Nat.reduceAdd] at hN1
 have hN2 := cells_of _ 0 [] rfl (hL0.get _ _ (mK (mK (mK mZ))))
 simp only [zF, Nat.reduceAdd] at hN2
 go_wp2_with fail
 clear hN0 hN1 hN2
 with_reducible refine Calls.mono (T1.out (.slice g1 d1 g1c) _ (hT.get (mK mZ))) ?_
 rintro e x5 ⟨rfl, hb⟩
 replace hL0 := hL0.call hb
 replace hT := hT.call hb
 clear hb
 replace hT := (hT.new (.cells #[.int .u64 ((zl aw.num : Nat) : Int), .string (zh aw.num), .bool (zs aw.num), .int .u64 ((lo (fe aw) : Nat) : Int), .string (hs (fe aw))] 38))
 replace hL0 := (hL0.new rfl [.int .u64 ((zl aw.num : Nat) : Int), .string (zh aw.num), .bool (zs aw.num), .int .u64 ((lo (fe aw) : Nat) : Int), .string (hs (fe aw))] 38)
 generalize hweq : (x5.alloc (.cells #[.int .u64 ((zl aw.num : Nat) : Int), .string (zh aw.num), .bool (zs aw.num), .int .u64 ((lo (fe aw) : Nat) : Int), .string (hs (fe aw))] 38)) = x6 at hL0 hT
 go_upto_region 6 with fail
 clear hweq
 refine region_tl 55 [EV (.agg #[.int .u64 ((zl aw.num : Nat) : Int), .string (zh aw.num), .bool (zs aw.num), .int .u64 ((lo (fe aw) : Nat) : Int), .string (hs (fe aw))]), EV (.slice g1 d1 g1c), EV (.agg #[.int .u64 ((zl ux.num : Nat) : Int), .string (zh ux.num), .bool (zs ux.num), .int .u64 ((lo (fe ux) : Nat) : Int), .string (hs (fe ux)), .int .u64 ((zl uy.num : Nat) : Int), .string (zh uy.num), .bool (zs uy.num), .int .u64 ((lo (fe uy) : Nat) : Int), .string (hs (fe uy))]), EV (.agg #[.int .u64 ((zl vx.num : Nat) : Int), .string (zh vx.num), .bool (zs vx.num), .int .u64 ((lo (fe vx) : Nat) : Int), .string (hs (fe vx)), .int .u64 ((zl vy.num : Nat) : Int), .string (zh vy.num), .bool (zs vy.num), .int .u64 ((lo (fe vy) : Nat) : Int), .string (hs (fe vy))]), EV (.agg #[.int .u64 ((zl zx.num : Nat) : Int), .string (zh zx.num), .bool (zs zx.num), .int .u64 ((lo (fe zx) : Nat) : Int), .string (hs (fe zx)), .int .u64 ((zl zy.num : Nat) : Int), .string (zh zy.num), .bool (zs zy.num), .int .u64 ((lo (fe zy) : Nat) : Int), .string (hs (fe zy))]), EV (.agg #[.int .u64 ((zl ta.num : Nat) : Int), .string (zh ta.num), .bool (zs ta.num), .int .u64 ((lo (fe ta) : Nat) : Int), .string (hs (fe ta))]), EV (.slice g1 d1 g1c), EV (.agg #[.int .u64 ((zl vx.num : Nat) : Int), .string (zh vx.num), .bool (zs vx.num), .int .u64 ((lo (fe vx) : Nat) : Int), .string (hs (fe vx)), .int .u64 ((zl vy.num : Nat) : Int), .string (zh vy.num), .bool (zs vy.num), .int .u64 ((lo (fe vy) : Nat) : Int), .string (hs (fe vy))]), EV (.agg #[.int .u64 ((zl wx.num : Nat) : Int), .string (zh wx.num), .bool (zs wx.num), .int .u64 ((lo (fe wx) : Nat) : Int), .string (hs (fe wx)), .int .u64 ((zl wy.num : Nat) : Int), .string (zh wy.num), .bool (zs wy.num), .int .u64 ((lo (fe wy) : Nat) : Int), .string (hs (fe wy))]), EV (.agg #[.int .u64 ((zl zx.num : Nat) : Int), .string (zh zx.num), .bool (zs zx.num), .int .u64 ((lo (fe zx) : Nat) : Int), .string (hs (fe zx)), .int .u64 ((zl zy.num : Nat) : Int), .string (zh zy.num), .bool (zs zy.num), .int .u64 ((lo (fe zy) : Nat) : Int), .string (hs (fe zy))]), EV (.agg #[.int .u64 ((zl tb.num : Nat) : Int), .string (zh tb.num), .bool (zs tb.num), .int .u64 ((lo (fe tb) : Nat) : Int), .string (hs (fe tb))]), EV (.slice g1 d1 g1c), EV (.agg #[.int .u64 ((zl wx.num : Nat) : Int), .string (zh wx.num), .bool (zs wx.num), .int .u64 ((lo (fe wx) : Nat) : Int), .string (hs (fe wx)), .int .u64 ((zl wy.num : Nat) : Int), .string (zh wy.num), .bool (zs wy.num), .int .u64 ((lo (fe wy) : Nat) : Int), .string (hs (fe wy))]), EV (.agg #[.int .u64 ((zl ux.num : Nat) : Int), .string (zh ux.num), .bool (zs ux.num), .int .u64 ((lo (fe ux) : Nat) : Int), .string (hs (fe ux)), .int .u64 ((zl uy.num : Nat) : Int), .string (zh uy.num), .bool (zs uy.num), .int .u64 ((lo (fe uy) : Nat) : Int), .string (hs (fe uy))]), EV (.agg #[.int .u64 ((zl zx.num : Nat) : Int), .string (zh zx.num), .bool (zs zx.num), .int .u64 ((lo (fe zx) : Nat) : Int), .string (hs (fe zx)), .int .u64 ((zl zy.num : Nat) : Int), .string (zh zy.num), .bool (zs zy.num), .int .u64 ((lo (fe zy) : Nat) : Int), .string (hs (fe zy))]), EV (.agg #[.int .u64 ((zl tc.num : Nat) : Int), .string (zh tc.num), .bool (zs tc.num), .int .u64 ((lo (fe tc) : Nat) : Int), .string (hs (fe tc))]), PV8 [ta, tb, tc], EV (.agg #[.int .u64 ((zl aw.num : Nat) : Int), .string (zh aw.num), .bool (zs aw.num), .int .u64 ((lo (fe aw) : Nat) : Int), .string (hs (fe aw))]), EV (.bool false), EV (.bool false), EV (.slice g1 d1 g1c), EV (.slice g2 d2 g2c), PP ps, EV (.agg #[.int .u64 ((zl ux.num : Nat) : Int), .string (zh ux.num), .bool (zs ux.num), .int .u64 ((lo (fe ux) : Nat) : Int), .string (hs (fe ux)), .int .u64 ((zl uy.num : Nat) : Int), .string (zh uy.num), .bool (zs uy.num), .int .u64 ((lo (fe uy) : Nat) : Int), .string (hs (fe uy))]), EV (.agg #[.int .u64 ((zl vx.num : Nat) : Int), .string (zh vx.num), .bool (zs vx.num), .int .u64 ((lo (fe vx) : Nat) : Int), .string (hs (fe vx)), .int .u64 ((zl vy.num : Nat) : Int), .string (zh vy.num), .bool (zs vy.num), .int .u64 ((lo (fe vy) : Nat) : Int), .string (hs (fe vy))]), EV (.agg #[.int .u64 ((zl wx.num : Nat) : Int), .string (zh wx.num), .bool (zs wx.num), .int .u64 ((lo (fe wx) : Nat) : Int), .string (hs (fe wx)), .int .u64 ((zl wy.num : Nat) : Int), .string (zh wy.num), .bool (zs wy.num), .int .u64 ((lo (fe wy) : Nat) : Int), .string (hs (fe wy))]), EV (.agg #[.int .u64 ((zl sw.num : Nat) : Int), .string (zh sw.num), .bool (zs sw.num), .int .u64 ((lo (fe sw) : Nat) : Int), .string (hs (fe sw))]), EV (.agg #[.int .u64 ((zl aw.num : Nat) : Int), .string (zh aw.num), .bool (zs aw.num), .int .u64 ((lo (fe aw) : Nat) : Int), .string (hs (fe aw))]), EV (.slice g2 d2 g2c), EV (.agg #[.int .u64 ((zl ux.num : Nat) : Int), .string (zh ux.num), .bool (zs ux.num), .int .u64 ((lo (fe ux) : Nat) : Int), .string (hs (fe ux)), .int .u64 ((zl uy.num : Nat) : Int), .string (zh uy.num), .bool (zs uy.num), .int .u64 ((lo (fe uy) : Nat) : Int), .string (hs (fe uy))]), EV (.agg #[.int .u64 ((zl vx.num : Nat) : Int), .string (zh vx.num), .bool (zs vx.num), .int .u64 ((lo (fe vx) : Nat) : Int), .string (hs (fe vx)), .int .u64 ((zl vy.num : Nat) : Int), .string (zh vy.num), .bool (zs vy.num), .int .u64 ((lo (fe vy) : Nat) : Int), .string (hs (fe vy))]), EV (.agg #[.int .u64 ((zl wx.num : Nat) : Int), .string (zh wx.num), .bool (zs wx.num), .int .u64 ((lo (fe wx) : Nat) : Int), .string (hs (fe wx)), .int .u64 ((zl wy.num : Nat) : Int), .string (zh wy.num), .bool (zs wy.num), .int .u64 ((lo (fe wy) : Nat) : Int), .string (hs (fe wy))]), EV (.agg #[.int .u64 ((zl bw.num : Nat) : Int), .string (zh bw.num), .bool (zs bw.num), .int .u64 ((lo (fe bw) : Nat) : Int), .string (hs (fe bw))]), EV (.agg #[.int .u64 ((zl sw.num : Nat) : Int), .string (zh sw.num), .bool (zs sw.num), .int .u64 ((lo (fe sw) : Nat) : Int), .string (hs (fe sw))]), EV (.bool false), EV (.bool false), EV (.bool false), EV (.slice g1 d1 g1c), EV (.agg #[.int .u64 ((zl vx.num : Nat) : Int), .string (zh vx.num), .bool (zs vx.num), .int .u64 ((lo (fe vx) : Nat) : Int), .string (hs (fe vx)), .int .u64 ((zl vy.num : Nat) : Int), .string (zh vy.num), .bool (zs vy.num), .int .u64 ((lo (fe vy) : Nat) : Int), .string (hs (fe vy))]), EV (.agg #[.int .u64 ((zl wx.num : Nat) : Int), .string (zh wx.num), .bool (zs wx.num), .int .u64 ((lo (fe wx) : Nat) : Int), .string (hs (fe wx)), .int .u64 ((zl wy.num : Nat) : Int), .string (zh wy.num), .bool (zs wy.num), .int .u64 ((lo (fe wy) : Nat) : Int), .string (hs (fe wy))]), EV (.agg #[.int .u64 ((zl ux.num : Nat) : Int), .string (zh ux.num), .bool (zs ux.num), .int .u64 ((lo (fe ux) : Nat) : Int), .string (hs (fe ux)), .int .u64 ((zl uy.num : Nat) : Int), .string (zh uy.num), .bool (zs uy.num), .int .u64 ((lo (fe uy) : Nat) : Int), .string (hs (fe uy))]), EV (.agg #[.int .u64 ((zl aw.num : Nat) : Int), .string (zh aw.num), .bool (zs aw.num), .int .u64 ((lo (fe aw) : Nat) : Int), .string (hs (fe aw))]), EV (.agg #[.int .u64 ((zl aw.num : Nat) : Int), .string (zh aw.num), .bool (zs aw.num), .int .u64 ((lo (fe aw) : Nat) : Int), .string (hs (fe aw))]), EV (.bool false), EV (.bool false), EV (.bool false), EV (.slice g1 d1 g1c), EV (.agg #[.int .u64 ((zl ux.num : Nat) : Int), .string (zh ux.num), .bool (zs ux.num), .int .u64 ((lo (fe ux) : Nat) : Int), .string (hs (fe ux)), .int .u64 ((zl uy.num : Nat) : Int), .string (zh uy.num), .bool (zs uy.num), .int .u64 ((lo (fe uy) : Nat) : Int), .string (hs (fe uy))]), EV (.agg #[.int .u64 ((zl wx.num : Nat) : Int), .string (zh wx.num), .bool (zs wx.num), .int .u64 ((lo (fe wx) : Nat) : Int), .string (hs (fe wx)), .int .u64 ((zl wy.num : Nat) : Int), .string (zh wy.num), .bool (zs wy.num), .int .u64 ((lo (fe wy) : Nat) : Int), .string (hs (fe wy))]), EV (.agg #[.int .u64 ((zl vx.num : Nat) : Int), .string (zh vx.num), .bool (zs vx.num), .int .u64 ((lo (fe vx) : Nat) : Int), .string (hs (fe vx)), .int .u64 ((zl vy.num : Nat) : Int), .string (zh vy.num), .bool (zs vy.num), .int .u64 ((lo (fe vy) : Nat) : Int), .string (hs (fe vy))]), EV (.agg #[.int .u64 ((zl nw.num : Nat) : Int), .string (zh nw.num), .bool (zs nw.num), .int .u64 ((lo (fe nw) : Nat) : Int), .string (hs (fe nw))]), EV (.agg #[.int .u64 ((zl aw.num : Nat) : Int), .string (zh aw.num), .bool (zs aw.num), .int .u64 ((lo (fe aw) : Nat) : Int), .string (hs (fe aw))]), EV (.agg #[.int .u64 ((zl nw.num : Nat) : Int), .string (zh nw.num), .bool (zs nw.num), .int .u64 ((lo (fe nw) : Nat) : Int), .string (hs (fe nw))]), EV (.bool false), EV (.bool false)] (by kernel_rfl) (by kernel_rfl) ?_ ?_ ?_
 ·repeat' first | exact stays_nil | apply stays_cons | exact stays_eq _ | exact stays_pt _ | exact stays_slq8 _
 ·simp only [List.take_succ_cons, List.take_zero, hopsR, and_true]
  refine ⟨?_, ?_, ?_, ?_, ?_, ?_, ?_, ?_, ?_, ?_, ?_, ?_, ?_, ?_, ?_, ?_, ?_, ?_, ?_, ?_, ?_, ?_, ?_, ?_, ?_, ?_, ?_, ?_, ?_, ?_, ?_, ?_, ?_, ?_, ?_, ?_, ?_, ?_, ?_, ?_, ?_, ?_, ?_, ?_, ?_, ?_, ?_, ?_, ?_, ?_, ?_, ?_, ?_, ?_, ?_⟩ <;> intro fv w1 hb1 hp
  all_goals (have hc := (hL0.call (below_drew hb1)).fc; simp only [zF, Nat.reduceAdd] at hc; simp only [putsV, Act.put, zP, Nat.zero_add, Nat.reduceAdd])
  ·refine tyAt_none rfl ?_
   simp [tyUpon, execOp, go_sem, Act.eval, hc, Below.refl]
  ·refine tyAt_none rfl ?_
   simp [tyUpon, execOp, go_sem, Act.eval, Below.refl]
  ·refine tyAt_none rfl ?_
   simp [tyUpon, execOp, go_sem, Act.eval, hc, Below.refl]
  ·refine tyAt_none rfl ?_
   simp [tyUpon, execOp, go_sem, Act.eval, hc, Below.refl]
  ·refine tyAt_none rfl ?_
   simp [tyUpon, execOp, go_sem, Act.eval, hc, Below.refl]
  ·have h1 : EV _ (fv 1) w1 := hp 1 (LC (by kernel_rfl))
   have h2 : EV _ (fv 2) w1 := hp 2 (LC (by kernel_rfl))
   have h3 : EV _ (fv 3) w1 := hp 3 (LC (by kernel_rfl))
   have h4 : EV _ (fv 4) w1 := hp 4 (LC (by kernel_rfl))
   refine tyAt_none rfl ?_
   refine ty_call (f := 10) (args := #[.slice g1 d1 g1c, .agg #[.int .u64 ((zl ux.num : Nat) : Int), .string (zh ux.num), .bool (zs ux.num), .int .u64 ((lo (fe ux) : Nat) : Int), .string (hs (fe ux)), .int .u64 ((zl uy.num : Nat) : Int), .string (zh uy.num), .bool (zs uy.num), .int .u64 ((lo (fe uy) : Nat) : Int), .string (hs (fe uy))], .agg #[.int .u64 ((zl vx.num : Nat) : Int), .string (zh vx.num), .bool (zs vx.num), .int .u64 ((lo (fe vx) : Nat) : Int), .string (hs (fe vx)), .int .u64 ((zl vy.num : Nat) : Int), .string (zh vy.num), .bool (zs vy.num), .int .u64 ((lo (fe vy) : Nat) : Int), .string (hs (fe vy))], .agg #[.int .u64 ((zl zx.num : Nat) : Int), .string (zh zx.num), .bool (zs zx.num), .int .u64 ((lo (fe zx) : Nat) : Int), .string (hs (fe zx)), .int .u64 ((zl zy.num : Nat) : Int), .string (zh zy.num), .bool (zs zy.num), .int .u64 ((lo (fe zy) : Nat) : Int), .string (hs (fe zy))]]) (by simp [execOp, go_sem, Act.eval, h1, h2, h3, h4]) ?_
   exact (T2.out (.slice g1 d1 g1c) w1 (PT.below (hT.get (mK mZ)) (below_drew hb1))).mono fun e w2 ⟨h1, h2⟩ => ⟨_, h1, rfl, h2⟩
  ·refine tyAt_none rfl ?_
   simp [tyUpon, execOp, go_sem, Act.eval, Below.refl]
  ·refine tyAt_none rfl ?_
   simp [tyUpon, execOp, go_sem, Act.eval, hc, Below.refl]
  ·refine tyAt_none rfl ?_
   simp [tyUpon, execOp, go_sem, Act.eval, hc, Below.refl]
  ·refine tyAt_none rfl ?_
   simp [tyUpon, execOp, go_sem, Act.eval, hc, Below.refl]
  ·have h6 : EV _ (fv 6) w1 := hp 6 (LC (by kernel_rfl))
   have h7 : EV _ (fv 7) w1 := hp 7 (LC (by kernel_rfl))
   have h8 : EV _ (fv 8) w1 := hp 8 (LC (by kernel_rfl))
   have h9 : EV _ (fv 9) w1 := hp 9 (LC (by kernel_rfl))
   refine tyAt_none rfl ?_
   refine ty_call (f := 10) (args := #[.slice g1 d1 g1c, .agg #[.int .u64 ((zl vx.num : Nat) : Int), .string (zh vx.num), .bool (zs vx.num), .int .u64 ((lo (fe vx) : Nat) : Int), .string (hs (fe vx)), .int .u64 ((zl vy.num : Nat) : Int), .string (zh vy.num), .bool (zs vy.num), .int .u64 ((lo (fe vy) : Nat) : Int), .string (hs (fe vy))], .agg #[.int .u64 ((zl wx.num : Nat) : Int), .string (zh wx.num), .bool (zs wx.num), .int .u64 ((lo (fe wx) : Nat) : Int), .string (hs (fe wx)), .int .u64 ((zl wy.num : Nat) : Int), .string (zh wy.num), .bool (zs wy.num), .int .u64 ((lo (fe wy) : Nat) : Int), .string (hs (fe wy))], .agg #[.int .u64 ((zl zx.num : Nat) : Int), .string (zh zx.num), .bool (zs zx.num), .int .u64 ((lo (fe zx) : Nat) : Int), .string (hs (fe zx)), .int .u64 ((zl zy.num : Nat) : Int), .string (zh zy.num), .bool (zs zy.num), .int .u64 ((lo (fe zy) : Nat) : Int), .string (hs (fe zy))]]) (by simp [execOp, go_sem, Act.eval, h6, h7, h8, h9]) ?_
   exact (T3.out (.slice g1 d1 g1c) w1 (PT.below (hT.get (mK mZ)) (below_drew hb1))).mono fun e w2 ⟨h1, h2⟩ => ⟨_, h1, rfl, h2⟩
  ·refine tyAt_none rfl ?_
   simp [tyUpon, execOp, go_sem, Act.eval, Below.refl]
  ·refine tyAt_none rfl ?_
   simp [tyUpon, execOp, go_sem, Act.eval, hc, Below.refl]
  ·refine tyAt_none rfl ?_
   simp [tyUpon, execOp, go_sem, Act.eval, hc, Below.refl]
  ·refine tyAt_none rfl ?_
   simp [tyUpon, execOp, go_sem, Act.eval, hc, Below.refl]
  ·have h11 : EV _ (fv 11) w1 := hp 11 (LC (by kernel_rfl))
   have h12 : EV _ (fv 12) w1 := hp 12 (LC (by kernel_rfl))
   have h13 : EV _ (fv 13) w1 := hp 13 (LC (by kernel_rfl))
   have h14 : EV _ (fv 14) w1 := hp 14 (LC (by kernel_rfl))
   refine tyAt_none rfl ?_
   refine ty_call (f := 10) (args := #[.slice g1 d1 g1c, .agg #[.int .u64 ((zl wx.num : Nat) : Int), .string (zh wx.num), .bool (zs wx.num), .int .u64 ((lo (fe wx) : Nat) : Int), .string (hs (fe wx)), .int .u64 ((zl wy.num : Nat) : Int), .string (zh wy.num), .bool (zs wy.num), .int .u64 ((lo (fe wy) : Nat) : Int), .string (hs (fe wy))], .agg #[.int .u64 ((zl ux.num : Nat) : Int), .string (zh ux.num), .bool (zs ux.num), .int .u64 ((lo (fe ux) : Nat) : Int), .string (hs (fe ux)), .int .u64 ((zl uy.num : Nat) : Int), .string (zh uy.num), .bool (zs uy.num), .int .u64 ((lo (fe uy) : Nat) : Int), .string (hs (fe uy))], .agg #[.int .u64 ((zl zx.num : Nat) : Int), .string (zh zx.num), .bool (zs zx.num), .int .u64 ((lo (fe zx) : Nat) : Int), .string (hs (fe zx)), .int .u64 ((zl zy.num : Nat) : Int), .string (zh zy.num), .bool (zs zy.num), .int .u64 ((lo (fe zy) : Nat) : Int), .string (hs (fe zy))]]) (by simp [execOp, go_sem, Act.eval, h11, h12, h13, h14]) ?_
   exact (T4.out (.slice g1 d1 g1c) w1 (PT.below (hT.get (mK mZ)) (below_drew hb1))).mono fun e w2 ⟨h1, h2⟩ => ⟨_, h1, rfl, h2⟩
  ·have h5 : EV _ (fv 5) w1 := hp 5 (LC (by kernel_rfl))
   have h10 : EV _ (fv 10) w1 := hp 10 (LC (by kernel_rfl))
   have h15 : EV _ (fv 15) w1 := hp 15 (LC (by kernel_rfl))
   refine tyAt_none rfl ?_
   refine ty_val8 (u := .slice (some ⟨w1.heap.size, 0, none⟩) 3 3) (w' := w1.alloc (.cells #[.int .u64 ((zl ta.num : Nat) : Int), .string (zh ta.num), .bool (zs ta.num), .int .u64 ((lo (fe ta) : Nat) : Int), .string (hs (fe ta)), .int .u64 ((zl tb.num : Nat) : Int), .string (zh tb.num), .bool (zs tb.num), .int .u64 ((lo (fe tb) : Nat) : Int), .string (hs (fe tb)), .int .u64 ((zl tc.num : Nat) : Int), .string (zh tc.num), .bool (zs tc.num), .int .u64 ((lo (fe tc) : Nat) : Int), .string (hs (fe tc))] 38)) (by simp [execOp, go_sem, Act.eval, h5, h10, h15]) ((Below.refl _ _).alloc (Nat.le_refl _) _) (slq_of3 (hd_new w1 [.int .u64 ((zl ta.num : Nat) : Int), .string (zh ta.num), .bool (zs ta.num), .int .u64 ((lo (fe ta) : Nat) : Int), .string (hs (fe ta)), .int .u64 ((zl tb.num : Nat) : Int), .string (zh tb.num), .bool (zs tb.num), .int .u64 ((lo (fe tb) : Nat) : Int), .string (hs (fe tb)), .int .u64 ((zl tc.num : Nat) : Int), .string (zh tc.num), .bool (zs tc.num), .int .u64 ((lo (fe tc) : Nat) : Int), .string (hs (fe tc))] _))
  ·have h16 : (PV8 [ta, tb, tc]) (fv 16) w1 := hp 16 (LC (by kernel_rfl))
   refine tyAt_none rfl ?_
   refine ty_call (f := 14) (args := #[fv 16]) (by simp [execOp, go_sem, Act.eval]) ?_
   exact (S1.out (fv 16) w1 h16).mono fun e w2 ⟨h1, h2⟩ => ⟨_, h1, rfl, h2⟩
  ·have h0 : EV _ (fv 0) w1 := hp 0 (LC (by kernel_rfl))
   have h17 : EV _ (fv 17) w1 := hp 17 (LC (by kernel_rfl))
   refine tyAt_none rfl ?_
   simp [tyUpon, execOp, go_sem, Act.eval, h0, h17, Below.refl]
  ·have h18 : EV _ (fv 18) w1 := hp 18 (LC (by kernel_rfl))
   refine tyAt_none rfl ?_
   simp [tyUpon, execOp, go_sem, Act.eval, h18, Below.refl]
  ·have h19 : EV _ (fv 19) w1 := hp 19 (LC (by kernel_rfl))
   refine tyAt_yes (by simp [Region.wanted, yielded, h19]) ?_
   simp [tyUpon, execOp, go_sem, Act.eval, h19, Below.refl]
  ·have h19 : EV _ (fv 19) w1 := hp 19 (LC (by kernel_rfl))
   refine tyAt_yes (by simp [Region.wanted, yielded, h19]) ?_
   simp [tyUpon, execOp, go_sem, Act.eval, h19, Below.refl]
  ·have h20 : EV _ (fv 20) w1 := hp 20 (LC (by kernel_rfl))
   have h21 : EV _ (fv 21) w1 := hp 21 (LC (by kernel_rfl))
   have h19 : EV _ (fv 19) w1 := hp 19 (LC (by kernel_rfl))
   refine tyAt_yes (by simp [Region.wanted, yielded, h20, h21, h19]) ?_
   refine ty_call (f := 11) (args := #[.slice g1 d1 g1c, .slice g2 d2 g2c]) (by simp [execOp, go_sem, Act.eval, h20, h21, h19]) ?_
   exact (Ad.out (.slice g1 d1 g1c) (.slice g2 d2 g2c) w1 (PT.below (hT.get (mK mZ)) (below_drew hb1)) (PT.below (hT.get mZ) (below_drew hb1))).mono fun e w2 ⟨pv, h1, h2, h3⟩ => ⟨pv, h1, h2, h3⟩
  ·have h19 : EV _ (fv 19) w1 := hp 19 (LC (by kernel_rfl))
   refine tyAt_yes (by simp [Region.wanted, yielded, h19]) ?_
   simp [tyUpon, execOp, go_sem, Act.eval, hc, h19, Below.refl]
  ·have h19 : EV _ (fv 19) w1 := hp 19 (LC (by kernel_rfl))
   refine tyAt_yes (by simp [Region.wanted, yielded, h19]) ?_
   simp [tyUpon, execOp, go_sem, Act.eval, hc, h19, Below.refl]
  ·have h19 : EV _ (fv 19) w1 := hp 19 (LC (by kernel_rfl))
   refine tyAt_yes (by simp [Region.wanted, yielded, h19]) ?_
   simp [tyUpon, execOp, go_sem, Act.eval, hc, h19, Below.refl]
  ·have h22 : (PP ps) (fv 22) w1 := hp 22 (LC (by kernel_rfl))
   have h23 : EV _ (fv 23) w1 := hp 23 (LC (by kernel_rfl))
   have h24 : EV _ (fv 24) w1 := hp 24 (LC (by kernel_rfl))
   have h25 : EV _ (fv 25) w1 := hp 25 (LC (by kernel_rfl))
   have h19 : EV _ (fv 19) w1 := hp 19 (LC (by kernel_rfl))
   refine tyAt_yes (by simp [Region.wanted, yielded, h23, h24, h25, h19]) ?_
   refine ty_call (f := 10) (args := #[fv 22, .agg #[.int .u64 ((zl ux.num : Nat) : Int), .string (zh ux.num), .bool (zs ux.num), .int .u64 ((lo (fe ux) : Nat) : Int), .string (hs (fe ux)), .int .u64 ((zl uy.num : Nat) : Int), .string (zh uy.num), .bool (zs uy.num), .int .u64 ((lo (fe uy) : Nat) : Int), .string (hs (fe uy))], .agg #[.int .u64 ((zl vx.num : Nat) : Int), .string (zh vx.num), .bool (zs vx.num), .int .u64 ((lo (fe vx) : Nat) : Int), .string (hs (fe vx)), .int .u64 ((zl vy.num : Nat) : Int), .string (zh vy.num), .bool (zs vy.num), .int .u64 ((lo (fe vy) : Nat) : Int), .string (hs (fe vy))], .agg #[.int .u64 ((zl wx.num : Nat) : Int), .string (zh wx.num), .bool (zs wx.num), .int .u64 ((lo (fe wx) : Nat) : Int), .string (hs (fe wx)), .int .u64 ((zl wy.num : Nat) : Int), .string (zh wy.num), .bool (zs wy.num), .int .u64 ((lo (fe wy) : Nat) : Int), .string (hs (fe wy))]]) (by simp [execOp, go_sem, Act.eval, h23, h24, h25, h19]) ?_
   exact (T5.out (fv 22) w1 h22).mono fun e w2 ⟨h1, h2⟩ => ⟨_, h1, rfl, h2⟩
  ·have h19 : EV _ (fv 19) w1 := hp 19 (LC (by kernel_rfl))
   refine tyAt_yes (by simp [Region.wanted, yielded, h19]) ?_
   simp [tyUpon, execOp, go_sem, Act.eval, hc, h19, Below.refl]
  ·have h19 : EV _ (fv 19) w1 := hp 19 (LC (by kernel_rfl))
   refine tyAt_yes (by simp [Region.wanted, yielded, h19]) ?_
   simp [tyUpon, execOp, go_sem, Act.eval, h19, Below.refl]
  ·have h19 : EV _ (fv 19) w1 := hp 19 (LC (by kernel_rfl))
   refine tyAt_yes (by simp [Region.wanted, yielded, h19]) ?_
   simp [tyUpon, execOp, go_sem, Act.eval, hc, h19, Below.refl]
  ·have h19 : EV _ (fv 19) w1 := hp 19 (LC (by kernel_rfl))
   refine tyAt_yes (by simp [Region.wanted, yielded, h19]) ?_
   simp [tyUpon, execOp, go_sem, Act.eval, hc, h19, Below.refl]
  ·have h19 : EV _ (fv 19) w1 := hp 19 (LC (by kernel_rfl))
   refine tyAt_yes (by simp [Region.wanted, yielded, h19]) ?_
   simp [tyUpon, execOp, go_sem, Act.eval, hc, h19, Below.refl]
  ·have h28 : EV _ (fv 28) w1 := hp 28 (LC (by kernel_rfl))
   have h29 : EV _ (fv 29) w1 := hp 29 (LC (by kernel_rfl))
   have h30 : EV _ (fv 30) w1 := hp 30 (LC (by kernel_rfl))
   have h31 : EV _ (fv 31) w1 := hp 31 (LC (by kernel_rfl))
   have h19 : EV _ (fv 19) w1 := hp 19 (LC (by kernel_rfl))
   refine tyAt_yes (by simp [Region.wanted, yielded, h28, h29, h30, h31, h19]) ?_
   refine ty_call (f := 10) (args := #[.slice g2 d2 g2c, .agg #[.int .u64 ((zl ux.num : Nat) : Int), .string (zh ux.num), .bool (zs ux.num), .int .u64 ((lo (fe ux) : Nat) : Int), .string (hs (fe ux)), .int .u64 ((zl uy.num : Nat) : Int), .string (zh uy.num), .bool (zs uy.num), .int .u64 ((lo (fe uy) : Nat) : Int), .string (hs (fe uy))], .agg #[.int .u64 ((zl vx.num : Nat) : Int), .string (zh vx.num), .bool (zs vx.num), .int .u64 ((lo (fe vx) : Nat) : Int), .string (hs (fe vx)), .int .u64 ((zl vy.num : Nat) : Int), .string (zh vy.num), .bool (zs vy.num), .int .u64 ((lo (fe vy) : Nat) : Int), .string (hs (fe vy))], .agg #[.int .u64 ((zl wx.num : Nat) : Int), .string (zh wx.num), .bool (zs wx.num), .int .u64 ((lo (fe wx) : Nat) : Int), .string (hs (fe wx)), .int .u64 ((zl wy.num : Nat) : Int), .string (zh wy.num), .bool (zs wy.num), .int .u64 ((lo (fe wy) : Nat) : Int), .string (hs (fe wy))]]) (by simp [execOp, go_sem, Act.eval, h28, h29, h30, h31, h19]) ?_
   exact (T6.out (.slice g2 d2 g2c) w1 (PT.below (hT.get mZ) (below_drew hb1))).mono fun e w2 ⟨h1, h2⟩ => ⟨_, h1, rfl, h2⟩
  ·have h27 : EV _ (fv 27) w1 := hp 27 (LC (by kernel_rfl))
   have h32 : EV _ (fv 32) w1 := hp 32 (LC (by kernel_rfl))
   have h19 : EV _ (fv 19) w1 := hp 19 (LC (by kernel_rfl))
   refine tyAt_yes (by simp [Region.wanted, yielded, h27, h32, h19]) ?_
   refine ty_call (f := 16) (args := #[.agg #[.int .u64 ((zl aw.num : Nat) : Int), .string (zh aw.num), .bool (zs aw.num), .int .u64 ((lo (fe aw) : Nat) : Int), .string (hs (fe aw))], .agg #[.int .u64 ((zl bw.num : Nat) : Int), .string (zh bw.num), .bool (zs bw.num), .int .u64 ((lo (fe bw) : Nat) : Int), .string (hs (fe bw))]]) (by simp [execOp, go_sem, Act.eval, h27, h32, h19]) ?_
   exact (A1.out w1).mono fun e w2 ⟨h1, h2⟩ => ⟨_, h1, rfl, h2⟩
  ·have h26 : EV _ (fv 26) w1 := hp 26 (LC (by kernel_rfl))
   have h33 : EV _ (fv 33) w1 := hp 33 (LC (by kernel_rfl))
   have h19 : EV _ (fv 19) w1 := hp 19 (LC (by kernel_rfl))
   refine tyAt_yes (by simp [Region.wanted, yielded, h26, h33, h19]) ?_
   simp [tyUpon, execOp, go_sem, Act.eval, h26, h33, h19, Below.refl]
  ·have h19 : EV _ (fv 19) w1 := hp 19 (LC (by kernel_rfl))
   have h34 : EV _ (fv 34) w1 := hp 34 (LC (by kernel_rfl))
   refine tyAt_none rfl ?_
   simp [tyUpon, execOp, go_sem, Act.eval, h19, h34, Below.refl]
  ·have h35 : EV _ (fv 35) w1 := hp 35 (LC (by kernel_rfl))
   refine tyAt_none rfl ?_
   simp [tyUpon, execOp, go_sem, Act.eval, h35, Below.refl]
  ·have h36 : EV _ (fv 36) w1 := hp 36 (LC (by kernel_rfl))
   refine tyAt_yes (by simp [Region.wanted, yielded, h36]) ?_
   simp [tyUpon, execOp, go_sem, Act.eval, h36, Below.refl]
  ·have h36 : EV _ (fv 36) w1 := hp 36 (LC (by kernel_rfl))
   refine tyAt_yes (by simp [Region.wanted, yielded, h36]) ?_
   simp [tyUpon, execOp, go_sem, Act.eval, hc, h36, Below.refl]
  ·have h36 : EV _ (fv 36) w1 := hp 36 (LC (by kernel_rfl))
   refine tyAt_yes (by simp [Region.wanted, yielded, h36]) ?_
   simp [tyUpon, execOp, go_sem, Act.eval, hc, h36, Below.refl]
  ·have h36 : EV _ (fv 36) w1 := hp 36 (LC (by kernel_rfl))
   refine tyAt_yes (by simp [Region.wanted, yielded, h36]) ?_
   simp [tyUpon, execOp, go_sem, Act.eval, hc, h36, Below.refl]
  ·have h37 : EV _ (fv 37) w1 := hp 37 (LC (by kernel_rfl))
   have h38 : EV _ (fv 38) w1 := hp 38 (LC (by kernel_rfl))
   have h39 : EV _ (fv 39) w1 := hp 39 (LC (by kernel_rfl))
   have h40 : EV _ (fv 40) w1 := hp 40 (LC (by kernel_rfl))
   have h36 : EV _ (fv 36) w1 := hp 36 (LC (by kernel_rfl))
   refine tyAt_yes (by simp [Region.wanted, yielded, h37, h38, h39, h40, h36]) ?_
   refine ty_call (f := 10) (args := #[.slice g1 d1 g1c, .agg #[.int .u64 ((zl vx.num : Nat) : Int), .string (zh vx.num), .bool (zs vx.num), .int .u64 ((lo (fe vx) : Nat) : Int), .string (hs (fe vx)), .int .u64 ((zl vy.num : Nat) : Int), .string (zh vy.num), .bool (zs vy.num), .int .u64 ((lo (fe vy) : Nat) : Int), .string (hs (fe vy))], .agg #[.int .u64 ((zl wx.num : Nat) : Int), .string (zh wx.num), .bool (zs wx.num), .int .u64 ((lo (fe wx) : Nat) : Int), .string (hs (fe wx)), .int .u64 ((zl wy.num : Nat) : Int), .string (zh wy.num), .bool (zs wy.num), .int .u64 ((lo (fe wy) : Nat) : Int), .string (hs (fe wy))], .agg #[.int .u64 ((zl ux.num : Nat) : Int), .string (zh ux.num), .bool (zs ux.num), .int .u64 ((lo (fe ux) : Nat) : Int), .string (hs (fe ux)), .int .u64 ((zl uy.num : Nat) : Int), .string (zh uy.num), .bool (zs uy.num), .int .u64 ((lo (fe uy) : Nat) : Int), .string (hs (fe uy))]]) (by simp [execOp, go_sem, Act.eval, h37, h38, h39, h40, h36]) ?_
   exact (T7.out (.slice g1 d1 g1c) w1 (PT.below (hT.get (mK mZ)) (below_drew hb1))).mono fun e w2 ⟨h1, h2⟩ => ⟨_, h1, rfl, h2⟩
  ·have h36 : EV _ (fv 36) w1 := hp 36 (LC (by kernel_rfl))
   refine tyAt_yes (by simp [Region.wanted, yielded, h36]) ?_
   simp [tyUpon, execOp, go_sem, Act.eval, hc, h36, Below.refl]
  ·have h41 : EV _ (fv 41) w1 := hp 41 (LC (by kernel_rfl))
   have h42 : EV _ (fv 42) w1 := hp 42 (LC (by kernel_rfl))
   have h36 : EV _ (fv 36) w1 := hp 36 (LC (by kernel_rfl))
   refine tyAt_yes (by simp [Region.wanted, yielded, h41, h42, h36]) ?_
   simp [tyUpon, execOp, go_sem, Act.eval, h41, h42, h36, Below.refl]
  ·have h36 : EV _ (fv 36) w1 := hp 36 (LC (by kernel_rfl))
   have h43 : EV _ (fv 43) w1 := hp 43 (LC (by kernel_rfl))
   refine tyAt_none rfl ?_
   simp [tyUpon, execOp, go_sem, Act.eval, h36, h43, Below.refl]
  ·have h44 : EV _ (fv 44) w1 := hp 44 (LC (by kernel_rfl))
   refine tyAt_none rfl ?_
   simp [tyUpon, execOp, go_sem, Act.eval, h44, Below.refl]
  ·have h45 : EV _ (fv 45) w1 := hp 45 (LC (by kernel_rfl))
   refine tyAt_yes (by simp [Region.wanted, yielded, h45]) ?_
   simp [tyUpon, execOp, go_sem, Act.eval, h45, Below.refl]
  ·have h45 : EV _ (fv 45) w1 := hp 45 (LC (by kernel_rfl))
   refine tyAt_yes (by simp [Region.wanted, yielded, h45]) ?_
   simp [tyUpon, execOp, go_sem, Act.eval, hc, h45, Below.refl]
  ·have h45 : EV _ (fv 45) w1 := hp 45 (LC (by kernel_rfl))
   refine tyAt_yes (by simp [Region.wanted, yielded, h45]) ?_
   simp [tyUpon, execOp, go_sem, Act.eval, hc, h45, Below.refl]
  ·have h45 : EV _ (fv 45) w1 := hp 45 (LC (by kernel_rfl))
   refine tyAt_yes (by simp [Region.wanted, yielded, h45]) ?_
   simp [tyUpon, execOp, go_sem, Act.eval, hc, h45, Below.refl]
  ·have h46 : EV _ (fv 46) w1 := hp 46 (LC (by kernel_rfl))
   have h47 : EV _ (fv 47) w1 := hp 47 (LC (by kernel_rfl))
   have h48 : EV _ (fv 48) w1 := hp 48 (LC (by kernel_rfl))
   have h49 : EV _ (fv 49) w1 := hp 49 (LC (by kernel_rfl))
   have h45 : EV _ (fv 45) w1 := hp 45 (LC (by kernel_rfl))
   refine tyAt_yes (by simp [Region.wanted, yielded, h46, h47, h48, h49, h45]) ?_
   refine ty_call (f := 10) (args := #[.slice g1 d1 g1c, .agg #[.int .u64 ((zl ux.num : Nat) : Int), .string (zh ux.num), .bool (zs ux.num), .int .u64 ((lo (fe ux) : Nat) : Int), .string (hs (fe ux)), .int .u64 ((zl uy.num : Nat) : Int), .string (zh uy.num), .bool (zs uy.num), .int .u64 ((lo (fe uy) : Nat) : Int), .string (hs (fe uy))], .agg #[.int .u64 ((zl wx.num : Nat) : Int), .string (zh wx.num), .bool (zs wx.num), .int .u64 ((lo (fe wx) : Nat) : Int), .string (hs (fe wx)), .int .u64 ((zl wy.num : Nat) : Int), .string (zh wy.num), .bool (zs wy.num), .int .u64 ((lo (fe wy) : Nat) : Int), .string (hs (fe wy))], .agg #[.int .u64 ((zl vx.num : Nat) : Int), .string (zh vx.num), .bool (zs vx.num), .int .u64 ((lo (fe vx) : Nat) : Int), .string (hs (fe vx)), .int .u64 ((zl vy.num : Nat) : Int), .string (zh vy.num), .bool (zs vy.num), .int .u64 ((lo (fe vy) : Nat) : Int), .string (hs (fe vy))]]) (by simp [execOp, go_sem, Act.eval, h46, h47, h48, h49, h45]) ?_
   exact (T8.out (.slice g1 d1 g1c) w1 (PT.below (hT.get (mK mZ)) (below_drew hb1))).mono fun e w2 ⟨h1, h2⟩ => ⟨_, h1, rfl, h2⟩
  ·have h45 : EV _ (fv 45) w1 := hp 45 (LC (by kernel_rfl))
   refine tyAt_yes (by simp [Region.wanted, yielded, h45]) ?_
   simp [tyUpon, execOp, go_sem, Act.eval, hc, h45, Below.refl]
  ·have h51 : EV _ (fv 51) w1 := hp 51 (LC (by kernel_rfl))
   have h45 : EV _ (fv 45) w1 := hp 45 (LC (by kernel_rfl))
   refine tyAt_yes (by simp [Region.wanted, yielded, h51, h45]) ?_
   refine ty_call (f := 17) (args := #[.agg #[.int .u64 ((zl aw.num : Nat) : Int), .string (zh aw.num), .bool (zs aw.num), .int .u64 ((lo (fe aw) : Nat) : Int), .string (hs (fe aw))]]) (by simp [execOp, go_sem, Act.eval, h51, h45]) ?_
   exact (N1.out w1).mono fun e w2 ⟨h1, h2⟩ => ⟨_, h1, rfl, h2⟩
  ·have h50 : EV _ (fv 50) w1 := hp 50 (LC (by kernel_rfl))
   have h52 : EV _ (fv 52) w1 := hp 52 (LC (by kernel_rfl))
   have h45 : EV _ (fv 45) w1 := hp 45 (LC (by kernel_rfl))
   refine tyAt_yes (by simp [Region.wanted, yielded, h50, h52, h45]) ?_
   simp [tyUpon, execOp, go_sem, Act.eval, h50, h52, h45, Below.refl]
  ·have h45 : EV _ (fv 45) w1 := hp 45 (LC (by kernel_rfl))
   have h53 : EV _ (fv 53) w1 := hp 53 (LC (by kernel_rfl))
   refine tyAt_none rfl ?_
   simp [tyUpon, execOp, go_sem, Act.eval, h45, h53, Below.refl]
 ·intro fv x7 hb1 hv
  have e0 : fv 0 = _ := hv 0 (by omega)
  have e1 : fv 1 = _ := hv 1 (by omega)
  have e2 : fv 2 = _ := hv 2 (by omega)
  have e3 : fv 3 = _ := hv 3 (by omega)
  have e4 : fv 4 = _ := hv 4 (by omega)
  have e5 : fv 5 = _ := hv 5 (by omega)
  have e6 : fv 6 = _ := hv 6 (by omega)
  have e7 : fv 7 = _ := hv 7 (by omega)
  have e8 : fv 8 = _ := hv 8 (by omega)
  have e9 : fv 9 = _ := hv 9 (by omega)
  have e10 : fv 10 = _ := hv 10 (by omega)
  have e11 : fv 11 = _ := hv 11 (by omega)
  have e12 : fv 12 = _ := hv 12 (by omega)
  have e13 : fv 13 = _ := hv 13 (by omega)
  have e14 : fv 14 = _ := hv 14 (by omega)
  have e15 : fv 15 = _ := hv 15 (by omega)
  have q16 : SlQ x7 (fv 16) ([ta, tb, tc]) := hv 16 (by omega)
  obtain ⟨g3, d3, g3c, e16⟩ := slq_form8 q16
  rw [e16] at q16
  have e17 : fv 17 = _ := hv 17 (by omega)
  have e18 : fv 18 = _ := hv 18 (by omega)
  have e19 : fv 19 = _ := hv 19 (by omega)
  have e20 : fv 20 = _ := hv 20 (by omega)
  have e21 : fv 21 = _ := hv 21 (by omega)
  have q22 : PT x7 (fv 22) ps := hv 22 (by omega)
  obtain ⟨g4, d4, g4c, e22, -⟩ := pt_form q22
  rw [e22] at q22
  have e23 : fv 23 = _ := hv 23 (by omega)
  have e24 : fv 24 = _ := hv 24 (by omega)
  have e25 : fv 25 = _ := hv 25 (by omega)
  have e26 : fv 26 = _ := hv 26 (by omega)
  have e27 : fv 27 = _ := hv 27 (by omega)
  have e28 : fv 28 = _ := hv 28 (by omega)
  have e29 : fv 29 = _ := hv 29 (by omega)
  have e30 : fv 30 = _ := hv 30 (by omega)
  have e31 : fv 31 = _ := hv 31 (by omega)
  have e32 : fv 32 = _ := hv 32 (by omega)
  have e33 : fv 33 = _ := hv 33 (by omega)
  have e34 : fv 34 = _ := hv 34 (by omega)
  have e35 : fv 35 = _ := hv 35 (by omega)
  have e36 : fv 36 = _ := hv 36 (by omega)
  have e37 : fv 37 = _ := hv 37 (by omega)
  have e38 : fv 38 = _ := hv 38 (by omega)
  have e39 : fv 39 = _ := hv 39 (by omega)
  have e40 : fv 40 = _ := hv 40 (by omega)
  have e41 : fv 41 = _ := hv 41 (by omega)
  have e42 : fv 42 = _ := hv 42 (by omega)
  have e43 : fv 43 = _ := hv 43 (by omega)
  have e44 : fv 44 = _ := hv 44 (by omega)
  have e45 : fv 45 = _ := hv 45 (by omega)
  have e46 : fv 46 = _ := hv 46 (by omega)
  have e47 : fv 47 = _ := hv 47 (by omega)
  have e48 : fv 48 = _ := hv 48 (by omega)
  have e49 : fv 49 = _ := hv 49 (by omega)
  have e50 : fv 50 = _ := hv 50 (by omega)
  have e51 : fv 51 = _ := hv 51 (by omega)
  have e52 : fv 52 = _ := hv 52 (by omega)
  have e53 : fv 53 = _ := hv 53 (by omega)
  have e54 : fv 54 = _ := hv 54 (by omega)
  simp only [List.take_succ_cons, List.take_zero, putsV, Act.put, zP, List.drop_succ_cons, List.drop_zero, Nat.zero_add, Nat.reduceAdd, e0, e1, e2, e3, e4, e5, e6, e7, e8, e9, e10, e11, e12, e13, e14, e15, e16, e17, e18, e19, e20, e21, e22, e23, e24, e25, e26, e27, e28, e29, e30, e31, e32, e33, e34, e35, e36, e37, e38, e39, e40, e41, e42, e43, e44, e45, e46, e47, e48, e49, e50, e51, e52, e53, e54]
  replace hL0 := hL0.call (below_drew hb1)
  replace hT := hT.call (below_drew hb1)
  replace hT := hT.cons q22
  clear e0 e1 e2 e3 e4 e5 e6 e7 e8 e9 e10 e11 e12 e13 e14 e15 e16 e17 e18 e19 e20 e21 e22 e23 e24 e25 e26 e27 e28 e29 e30 e31 e32 e33 e34 e35 e36 e37 e38 e39 e40 e41 e42 e43 e44 e45 e46 e47 e48 e49 e50 e51 e52 e53 e54 hb1 hv q16 q22 fv
  have hN0 := cells_of _ 0 [] rfl (hL0.get _ _ (mK (mK mZ)))
  simp only [zF, Nat.reduceAdd] at hN0
  have hN1 := cells_of _ 0 [] rfl (hL0.get _ _ (mK (mK (mK mZ))))
  simp only [zF, Nat.reduceAdd] at hN1
  have hN2 := cells_of _ 0 [] rfl (hL0.get _ _ (mK (mK (mK (mK mZ)))))
  simp only [zF, Nat.reduceAdd] at hN2
  go_wp2_with fail
  clear hN0 hN1 hN2
  with_reducible refine Calls.mono (Ar1.out _) ?_
  rintro e x8 ⟨rfl, hb⟩
  replace hL0 := hL0.call hb
  replace hT := hT.call hb
  clear hb
  replace hT := (hT.new (.cells #[.int .u64 ((zl ar.num : Nat) : Int), .string (zh ar.num), .bool (zs ar.num), .int .u64 ((lo (fe ar) : Nat) : Int), .string (hs (fe ar))] 38))
  replace hL0 := (hL0.new rfl [.int .u64 ((zl ar.num : Nat) : Int), .string (zh ar.num), .bool (zs ar.num), .int .u64 ((lo (fe ar) : Nat) : Int), .string (hs (fe ar))] 38)
  generalize hweq : (x8.alloc (.cells #[.int .u64 ((zl ar.num : Nat) : Int), .string (zh ar.num), .bool (zs ar.num), .int .u64 ((lo (fe ar) : Nat) : Int), .string (hs (fe ar))] 38)) = x9 at hL0 hT
  go_upto_region 9 with fail
  clear hweq
  refine region_tl 17 [EV (.agg #[.int .u64 ((zl on.num : Nat) : Int), .string (zh on.num), .bool (zs on.num), .int .u64 ((lo (fe on) : Nat) : Int), .string (hs (fe on))]), PP pk, EV (.agg #[.int .u64 ((zl ux.num : Nat) : Int), .string (zh ux.num), .bool (zs ux.num), .int .u64 ((lo (fe ux) : Nat) : Int), .string (hs (fe ux)), .int .u64 ((zl uy.num : Nat) : Int), .string (zh uy.num), .bool (zs uy.num), .int .u64 ((lo (fe uy) : Nat) : Int), .string (hs (fe uy))]), EV (.agg #[.int .u64 ((zl vx.num : Nat) : Int), .string (zh vx.num), .bool (zs vx.num), .int .u64 ((lo (fe vx) : Nat) : Int), .string (hs (fe vx)), .int .u64 ((zl vy.num : Nat) : Int), .string (zh vy.num), .bool (zs vy.num), .int .u64 ((lo (fe vy) : Nat) : Int), .string (hs (fe vy))]), EV (.agg #[.int .u64 ((zl wx.num : Nat) : Int), .string (zh wx.num), .bool (zs wx.num), .int .u64 ((lo (fe wx) : Nat) : Int), .string (hs (fe wx)), .int .u64 ((zl wy.num : Nat) : Int), .string (zh wy.num), .bool (zs wy.num), .int .u64 ((lo (fe wy) : Nat) : Int), .string (hs (fe wy))]), EV (.agg #[.int .u64 ((zl ar.num : Nat) : Int), .string (zh ar.num), .bool (zs ar.num), .int .u64 ((lo (fe ar) : Nat) : Int), .string (hs (fe ar))]), EV (.agg #[.int .u64 ((zl ar.num : Nat) : Int), .string (zh ar.num), .bool (zs ar.num), .int .u64 ((lo (fe ar) : Nat) : Int), .string (hs (fe ar))]), EV (.bool false), EV (.bool false), EV (.agg #[.int .u64 ((zl vx.num : Nat) : Int), .string (zh vx.num), .bool (zs vx.num), .int .u64 ((lo (fe vx) : Nat) : Int), .string (hs (fe vx)), .int .u64 ((zl vy.num : Nat) : Int), .string (zh vy.num), .bool (zs vy.num), .int .u64 ((lo (fe vy) : Nat) : Int), .string (hs (fe vy))]), EV (.agg #[.int .u64 ((zl ux.num : Nat) : Int), .string (zh ux.num), .bool (zs ux.num), .int .u64 ((lo (fe ux) : Nat) : Int), .string (hs (fe ux)), .int .u64 ((zl uy.num : Nat) : Int), .string (zh uy.num), .bool (zs uy.num), .int .u64 ((lo (fe uy) : Nat) : Int), .string (hs (fe uy))]), EV (.agg #[.int .u64 ((zl wx.num : Nat) : Int), .string (zh wx.num), .bool (zs wx.num), .int .u64 ((lo (fe wx) : Nat) : Int), .string (hs (fe wx)), .int .u64 ((zl wy.num : Nat) : Int), .string (zh wy.num), .bool (zs wy.num), .int .u64 ((lo (fe wy) : Nat) : Int), .string (hs (fe wy))]), EV (.agg #[.int .u64 ((zl na.num : Nat) : Int), .string (zh na.num), .bool (zs na.num), .int .u64 ((lo (fe na) : Nat) : Int), .string (hs (fe na))]), EV (.agg #[.int .u64 ((zl ar.num : Nat) : Int), .string (zh ar.num), .bool (zs ar.num), .int .u64 ((lo (fe ar) : Nat) : Int), .string (hs (fe ar))]), EV (.agg #[.int .u64 ((zl na.num : Nat) : Int), .string (zh na.num), .bool (zs na.num), .int .u64 ((lo (fe na) : Nat) : Int), .string (hs (fe na))]), EV (.bool false), EV (.bool false)] (by kernel_rfl) (by kernel_rfl) ?_ ?_ ?_
  ·repeat' first | exact stays_nil | apply stays_cons | exact stays_eq _ | exact stays_pt _
  ·simp only [List.take_succ_cons, List.take_zero, hopsR, and_true]
   refine ⟨?_, ?_, ?_, ?_, ?_, ?_, ?_, ?_, ?_, ?_, ?_, ?_, ?_, ?_, ?_, ?_, ?_⟩ <;> intro fv w1 hb1 hp
   all_goals (have hc := (hL0.call (below_drew hb1)).fc; simp only [zF, Nat.reduceAdd] at hc; simp only [putsV, Act.put, zP, Nat.zero_add, Nat.reduceAdd])
   ·refine tyAt_none rfl ?_
    refine ty_call (f := 20) (args := #[.int .i64 1]) (by simp [execOp, go_sem, Act.eval]) ?_
    exact (I1.out w1).mono fun e w2 ⟨h1, h2⟩ => ⟨_, h1, rfl, h2⟩
   ·have h0 : EV _ (fv 0) w1 := hp 0 (LC (by kernel_rfl))
    refine tyAt_none rfl ?_
    refine ty_call (f := 19) (args := #[.agg #[.int .u64 ((zl on.num : Nat) : Int), .string (zh on.num), .bool (zs on.num), .int .u64 ((lo (fe on) : Nat) : Int), .string (hs (fe on))]]) (by simp [execOp, go_sem, Act.eval, h0]) ?_
    exact (Ck.out w1).mono fun e w2 ⟨pv, h1, h2, h3⟩ => ⟨pv, h1, h2, h3⟩
   ·refine tyAt_none rfl ?_
    simp [tyUpon, execOp, go_sem, Act.eval, hc, Below.refl]
   ·refine tyAt_none rfl ?_
    simp [tyUpon, execOp, go_sem, Act.eval, hc, Below.refl]
   ·refine tyAt_none rfl ?_
    simp [tyUpon, execOp, go_sem, Act.eval, hc, Below.refl]
   ·have h1 : (PP pk) (fv 1) w1 := hp 1 (LC (by kernel_rfl))
    have h2 : EV _ (fv 2) w1 := hp 2 (LC (by kernel_rfl))
    have h3 : EV _ (fv 3) w1 := hp 3 (LC (by kernel_rfl))
    have h4 : EV _ (fv 4) w1 := hp 4 (LC (by kernel_rfl))
    refine tyAt_none rfl ?_
    refine ty_call (f := 10) (args := #[fv 1, .agg #[.int .u64 ((zl ux.num : Nat) : Int), .string (zh ux.num), .bool (zs ux.num), .int .u64 ((lo (fe ux) : Nat) : Int), .string (hs (fe ux)), .int .u64 ((zl uy.num : Nat) : Int), .string (zh uy.num), .bool (zs uy.num), .int .u64 ((lo (fe uy) : Nat) : Int), .string (hs (fe uy))], .agg #[.int .u64 ((zl vx.num : Nat) : Int), .string (zh vx.num), .bool (zs vx.num), .int .u64 ((lo (fe vx) : Nat) : Int), .string (hs (fe vx)), .int .u64 ((zl vy.num : Nat) : Int), .string (zh vy.num), .bool (zs vy.num), .int .u64 ((lo (fe vy) : Nat) : Int), .string (hs (fe vy))], .agg #[.int .u64 ((zl wx.num : Nat) : Int), .string (zh wx.num), .bool (zs wx.num), .int .u64 ((lo (fe wx) : Nat) : Int), .string (hs (fe wx)), .int .u64 ((zl wy.num : Nat) : Int), .string (zh wy.num), .bool (zs wy.num), .int .u64 ((lo (fe wy) : Nat) : Int), .string (hs (fe wy))]]) (by simp [execOp, go_sem, Act.eval, h2, h3, h4]) ?_
    exact (T9.out (fv 1) w1 h1).mono fun e w2 ⟨h1, h2⟩ => ⟨_, h1, rfl, h2⟩
   ·refine tyAt_none rfl ?_
    simp [tyUpon, execOp, go_sem, Act.eval, hc, Below.refl]
   ·have h5 : EV _ (fv 5) w1 := hp 5 (LC (by kernel_rfl))
    have h6 : EV _ (fv 6) w1 := hp 6 (LC (by kernel_rfl))
    refine tyAt_none rfl ?_
    simp [tyUpon, execOp, go_sem, Act.eval, h5, h6, Below.refl]
   ·have h7 : EV _ (fv 7) w1 := hp 7 (LC (by kernel_rfl))
    refine tyAt_none rfl ?_
    simp [tyUpon, execOp, go_sem, Act.eval, h7, Below.refl]
   ·have h8 : EV _ (fv 8) w1 := hp 8 (LC (by kernel_rfl))
    refine tyAt_yes (by simp [Region.wanted, yielded, h8]) ?_
    simp [tyUpon, execOp, go_sem, Act.eval, hc, h8, Below.refl]
   ·have h8 : EV _ (fv 8) w1 := hp 8 (LC (by kernel_rfl))
    refine tyAt_yes (by simp [Region.wanted, yielded, h8]) ?_
    simp [tyUpon, execOp, go_sem, Act.eval, hc, h8, Below.refl]
   ·have h8 : EV _ (fv 8) w1 := hp 8 (LC (by kernel_rfl))
    refine tyAt_yes (by simp [Region.wanted, yielded, h8]) ?_
    simp [tyUpon, execOp, go_sem, Act.eval, hc, h8, Below.refl]
   ·have h9 : EV _ (fv 9) w1 := hp 9 (LC (by kernel_rfl))
    have h10 : EV _ (fv 10) w1 := hp 10 (LC (by kernel_rfl))
    have h11 : EV _ (fv 11) w1 := hp 11 (LC (by kernel_rfl))
    have h8 : EV _ (fv 8) w1 := hp 8 (LC (by kernel_rfl))
    refine tyAt_yes (by simp [Region.wanted, yielded, h9, h10, h11, h8]) ?_
    refine ty_call (f := 18) (args := #[.agg #[.int .u64 ((zl vx.num : Nat) : Int), .string (zh vx.num), .bool (zs vx.num), .int .u64 ((lo (fe vx) : Nat) : Int), .string (hs (fe vx)), .int .u64 ((zl vy.num : Nat) : Int), .string (zh vy.num), .bool (zs vy.num), .int .u64 ((lo (fe vy) : Nat) : Int), .string (hs (fe vy))], .agg #[.int .u64 ((zl ux.num : Nat) : Int), .string (zh ux.num), .bool (zs ux.num), .int .u64 ((lo (fe ux) : Nat) : Int), .string (hs (fe ux)), .int .u64 ((zl uy.num : Nat) : Int), .string (zh uy.num), .bool (zs uy.num), .int .u64 ((lo (fe uy) : Nat) : Int), .string (hs (fe uy))], .agg #[.int .u64 ((zl wx.num : Nat) : Int), .string (zh wx.num), .bool (zs wx.num), .int .u64 ((lo (fe wx) : Nat) : Int), .string (hs (fe wx)), .int .u64 ((zl wy.num : Nat) : Int), .string (zh wy.num), .bool (zs wy.num), .int .u64 ((lo (fe wy) : Nat) : Int), .string (hs (fe wy))]]) (by simp [execOp, go_sem, Act.eval, h9, h10, h11, h8]) ?_
    exact (Ar2.out w1).mono fun e w2 ⟨h1, h2⟩ => ⟨_, h1, rfl, h2⟩
   ·have h8 : EV _ (fv 8) w1 := hp 8 (LC (by kernel_rfl))
    refine tyAt_yes (by simp [Region.wanted, yielded, h8]) ?_
    simp [tyUpon, execOp, go_sem, Act.eval, hc, h8, Below.refl]
   ·have h13 : EV _ (fv 13) w1 := hp 13 (LC (by kernel_rfl))
    have h8 : EV _ (fv 8) w1 := hp 8 (LC (by kernel_rfl))
    refine tyAt_yes (by simp [Region.wanted, yielded, h13, h8]) ?_
    refine ty_call (f := 17) (args := #[.agg #[.int .u64 ((zl ar.num : Nat) : Int), .string (zh ar.num), .bool (zs ar.num), .int .u64 ((lo (fe ar) : Nat) : Int), .string (hs (fe ar))]]) (by simp [execOp, go_sem, Act.eval, h13, h8]) ?_
    exact (N2.out w1).mono fun e w2 ⟨h1, h2⟩ => ⟨_, h1, rfl, h2⟩
   ·have h12 : EV _ (fv 12) w1 := hp 12 (LC (by kernel_rfl))
    have h14 : EV _ (fv 14) w1 := hp 14 (LC (by kernel_rfl))
    have h8 : EV _ (fv 8) w1 := hp 8 (LC (by kernel_rfl))
    refine tyAt_yes (by simp [Region.wanted, yielded, h12, h14, h8]) ?_
    simp [tyUpon, execOp, go_sem, Act.eval, h12, h14, h8, Below.refl]
   ·have h8 : EV _ (fv 8) w1 := hp 8 (LC (by kernel_rfl))
    have h15 : EV _ (fv 15) w1 := hp 15 (LC (by kernel_rfl))
    refine tyAt_none rfl ?_
    simp [tyUpon, execOp, go_sem, Act.eval, h8, h15, Below.refl]
  ·intro fv x10 hb1 hv
   have e0 : fv 0 = _ := hv 0 (by omega)
   have q1 : PT x10 (fv 1) pk := hv 1 (by omega)
   obtain ⟨g5, d5, g5c, e1, -⟩ := pt_form q1
   rw [e1] at q1
   have e2 : fv 2 = _ := hv 2 (by omega)
   have e3 : fv 3 = _ := hv 3 (by omega)
   have e4 : fv 4 = _ := hv 4 (by omega)
   have e5 : fv 5 = _ := hv 5 (by omega)
   have e6 : fv 6 = _ := hv 6 (by omega)
   have e7 : fv 7 = _ := hv 7 (by omega)
   have e8 : fv 8 = _ := hv 8 (by omega)
   have e9 : fv 9 = _ := hv 9 (by omega)
   have e10 : fv 10 = _ := hv 10 (by omega)
   have e11 : fv 11 = _ := hv 11 (by omega)
   have e12 : fv 12 = _ := hv 12 (by omega)
   have e13 : fv 13 = _ := hv 13 (by omega)
   have e14 : fv 14 = _ := hv 14 (by omega)
   have e15 : fv 15 = _ := hv 15 (by omega)
   have e16 : fv 16 = _ := hv 16 (by omega)
   simp only [List.take_succ_cons, List.take_zero, putsV, Act.put, zP, List.drop_succ_cons, List.drop_zero, Nat.zero_add, Nat.reduceAdd, e0, e1, e2, e3, e4, e5, e6, e7, e8, e9, e10, e11, e12, e13, e14, e15, e16]
   replace hL0 := hL0.call (below_drew hb1)
   replace hT := hT.call (below_drew hb1)
   replace hT := hT.cons q1
   clear e0 e1 e2 e3 e4 e5 e6 e7 e8 e9 e10 e11 e12 e13 e14 e15 e16 hb1 hv q1 fv
   go_upto_region 11 with fail
   refine region_gh (by kernel_rfl) (by kernel_rfl) ?_
   refine lex_seg (gl := []) 10 (by kernel_rfl) ?_
   intro α iα F hF1 hF2
   have hq := GL.seg hF1 hL0
   simp only [zC, Nat.reduceAdd] at hq
   simp only [zT]
   repeat (go_big_quiet_step (first | fail | (go_at_call 21; with_reducible exact seg_call hF2 B1.out _) | (go_at_call 21; with_reducible exact seg_call hF2 B2.out _)))
   refine wpQuiet_nil ?_
   clear hq hF1 hF2 iα F α
   refine lex_new [.int .u64 0, .string ⟨#[]⟩, .bool false, .int .u64 0, .string ⟨#[]⟩] 21 38 38 rfl rfl (of_decide_eq_true (by kernel_rfl)) (by kernel_rfl) rfl new_frac ?_
   simp only [Act.put, zP]
   refine lex_new [.int .u64 0, .string ⟨#[]⟩, .bool false, .int .u64 0, .string ⟨#[]⟩] 22 38 38 rfl rfl (of_decide_eq_true (by kernel_rfl)) (by kernel_rfl) rfl new_frac ?_
   simp only [Act.put, zP]
   refine lex_put [.int .u64 ((zl kx.num : Nat) : Int), .string (zh kx.num), .bool (zs kx.num), .int .u64 ((lo (fe kx) : Nat) : Int), .string (hs (fe kx))] [.int .u64 0, .string ⟨#[]⟩, .bool false, .int .u64 0, .string ⟨#[]⟩] 21 38 (.tmp 132) rfl (by kernel_rfl) (by simp [toG, upd]) rfl (fun w k h => put_frac _ _ _ _ _ _ _ _ _ _ w k h) ?_
   simp only [Act.put]
   refine lex_put [.int .u64 ((zl ky.num : Nat) : Int), .string (zh ky.num), .bool (zs ky.num), .int .u64 ((lo (fe ky) : Nat) : Int), .string (hs (fe ky))] [.int .u64 0, .string ⟨#[]⟩, .bool false, .int .u64 0, .string ⟨#[]⟩] 22 38 (.tmp 137) rfl (by kernel_rfl) (by simp [toG, upd]) rfl (fun w k h => put_frac _ _ _ _ _ _ _ _ _ _ w k h) ?_
   simp only [Act.put]
   refine lexG_nil ?_
   intro κ x11 hSim
   replace hL0 := hL0.ghs hSim [(22, [.int .u64 ((zl ky.num : Nat) : Int), .string (zh ky.num), .bool (zs ky.num), .int .u64 ((lo (fe ky) : Nat) : Int), .string (hs (fe ky))]), (21, [.int .u64 ((zl kx.num : Nat) : Int), .string (zh kx.num), .bool (zs kx.num), .int .u64 ((lo (fe kx) : Nat) : Int), .string (hs (fe kx))])] (by simp) (by intro p hp; simp only [List.mem_cons, List.not_mem_nil, or_false] at hp; rcases hp with rfl | rfl <;> exact ⟨_, by simp only [toG, upd]; rfl⟩)
   simp only [List.map_cons, List.map_nil, List.cons_append, List.nil_append] at hL0
   simp only [over_toG, over_nil, Act.put, zP]
   replace hT := hT.call (below_drew hSim.base)
   clear hSim
   generalize κ 22 = k11_22 at *
   generalize κ 21 = k11_21 at *
   go_upto_region 12 with fail
   refine region_gh (by kernel_rfl) (by kernel_rfl) ?_
   refine lex_seg (gl := []) 10 (by kernel_rfl) ?_
   intro α iα F hF1 hF2
   have hq := GL.seg hF1 hL0
   simp only [zC, Nat.reduceAdd] at hq
   simp only [zT]
   repeat (go_big_quiet_step (first | fail | (go_at_call 21; with_reducible exact seg_call hF2 B3.out _) | (go_at_call 21; with_reducible exact seg_call hF2 B4.out _)))
   refine wpQuiet_nil ?_
   clear hq hF1 hF2 iα F α
   refine lex_new [.int .u64 0, .string ⟨#[]⟩, .bool false, .int .u64 0, .string ⟨#[]⟩] 23 38 38 rfl rfl (of_decide_eq_true (by kernel_rfl)) (by kernel_rfl) rfl new_frac ?_
   simp only [Act.put, zP]
   refine lex_new [.int .u64 0, .string ⟨#[]⟩, .bool false, .int .u64 0, .string ⟨#[]⟩] 24 38 38 rfl rfl (of_decide_eq_true (by kernel_rfl)) (by kernel_rfl) rfl new_frac ?_
   simp only [Act.put, zP]
   refine lex_put [.int .u64 ((zl jx.num : Nat) : Int), .string (zh jx.num), .bool (zs jx.num), .int .u64 ((lo (fe jx) : Nat) : Int), .string (hs (fe jx))] [.int .u64 0, .string ⟨#[]⟩, .bool false, .int .u64 0, .string ⟨#[]⟩] 23 38 (.tmp 142) rfl (by kernel_rfl) (by simp [toG, upd]) rfl (fun w k h => put_frac _ _ _ _ _ _ _ _ _ _ w k h) ?_
   simp only [Act.put]
   refine lex_put [.int .u64 ((zl jy.num : Nat) : Int), .string (zh jy.num), .bool (zs jy.num), .int .u64 ((lo (fe jy) : Nat) : Int), .string (hs (fe jy))] [.int .u64 0, .string ⟨#[]⟩, .bool false, .int .u64 0, .string ⟨#[]⟩] 24 38 (.tmp 147) rfl (by kernel_rfl) (by simp [toG, upd]) rfl (fun w k h => put_frac _ _ _ _ _ _ _ _ _ _ w k h) ?_
   simp only [Act.put]
   refine lexG_nil ?_
   intro κ x12 hSim
   replace hL0 := hL0.ghs hSim [(24, [.int .u64 ((zl jy.num : Nat) : Int), .string (zh jy.num), .bool (zs jy.num), .int .u64 ((lo (fe jy) : Nat) : Int), .string (hs (fe jy))]), (23, [.int .u64 ((zl jx.num : Nat) : Int), .string (zh jx.num), .bool (zs jx.num), .int .u64 ((lo (fe jx) : Nat) : Int), .string (hs (fe jx))])] (by simp) (by intro p hp; simp only [List.mem_cons, List.not_mem_nil, or_false] at hp; rcases hp with rfl | rfl <;> exact ⟨_, by simp only [toG, upd]; rfl⟩)
   simp only [List.map_cons, List.map_nil, List.cons_append, List.nil_append] at hL0
   simp only [over_toG, over_nil, Act.put, zP]
   replace hT := hT.call (below_drew hSim.base)
   clear hSim
   generalize κ 24 = k12_24 at *
   generalize κ 23 = k12_23 at *
   have hN0 := cells_of _ 0 [] rfl (hL0.get _ _ mZ)
   simp only [zF, Nat.reduceAdd] at hN0
   have hN1 := cells_of _ 0 [] rfl (hL0.get _ _ (mK mZ))
   simp only [zF, Nat.reduceAdd] at hN1
   have hN2 := cells_of _ 0 [] rfl (hL0.get _ _ (mK (mK mZ)))
   simp only [zF, Nat.reduceAdd] at hN2
   have hN3 := cells_of _ 0 [] rfl (hL0.get _ _ (mK (mK (mK mZ))))
   simp only [zF, Nat.reduceAdd] at hN3
   have hN4 := cells_of _ 0 [] rfl (hL0.get _ _ (mK (mK (mK (mK (mK (mK (mK (mK (mK mZ))))))))))
   simp only [zF, Nat.reduceAdd] at hN4
   go_wp2_with fail
   clear hN0 hN1 hN2 hN3 hN4
   with_reducible refine Calls.mono (Sh.out (.slice g1 d1 g1c) _ (hT.get (mK (mK (mK mZ))))) ?_
   rintro e x13 ⟨v0, rfl, q0, hb⟩
   replace hL0 := hL0.call hb
   replace hT := hT.call hb
   clear hb
   obtain ⟨g6, d6, g6c, rfl, -⟩ := pt_form q0
   replace hT := hT.cons q0
   clear q0
   go_wp2_with fail
   with_reducible refine Calls.mono (P1.out _) ?_
   rintro e x14 ⟨rfl, hb⟩
   replace hL0 := hL0.call hb
   replace hT := hT.call hb
   clear hb
   go_wp2_with fail
   with_reducible refine Calls.mono (P2.out _) ?_
   rintro e x15 ⟨rfl, hb⟩
   replace hL0 := hL0.call hb
   replace hT := hT.call hb
   clear hb
   go_wp2_with fail
   with_reducible refine Calls.mono (P3.out _) ?_
   rintro e x16 ⟨rfl, hb⟩
   replace hL0 := hL0.call hb
   replace hT := hT.call hb
   clear hb
   go_wp2_with fail
   with_reducible refine Calls.mono (T0.out (.slice g6 d6 g6c) _ (hT.get mZ)) ?_
   rintro e x17 ⟨rfl, hb⟩
   replace hL0 := hL0.call hb
   replace hT := hT.call hb
   clear hb
   replace hT := (hT.new (.cells #[.int .u64 ((zl un.num : Nat) : Int), .string (zh un.num), .bool (zs un.num), .int .u64 ((lo (fe un) : Nat) : Int), .string (hs (fe un))] 38))
   replace hL0 := (hL0.new rfl [.int .u64 ((zl un.num : Nat) : Int), .string (zh un.num), .bool (zs un.num), .int .u64 ((lo (fe un) : Nat) : Int), .string (hs (fe un))] 38)
   generalize hweq : (x17.alloc (.cells #[.int .u64 ((zl un.num : Nat) : Int), .string (zh un.num), .bool (zs un.num), .int .u64 ((lo (fe un) : Nat) : Int), .string (hs (fe un))] 38)) = x18 at hL0 hT
   go_upto_region 14 with fail
   have kKT1 := hKT.out.at hL0.bl kKT
   clear hweq
   obtain ⟨α, iα, F, hF1, hF2⟩ := cls x18
   have hq0 := cls_box hF1 hL0 _ _ mZ
   simp only [zC, Nat.reduceAdd] at hq0
   have hq1 := cls_box hF1 hL0 _ _ (mK (mK (mK (mK (mK mZ)))))
   simp only [zC, Nat.reduceAdd] at hq1
   have hq2 := cls_box hF1 hL0 _ _ (mK (mK (mK (mK (mK (mK mZ))))))
   simp only [zC, Nat.reduceAdd] at hq2
   refine region_qs 11 (C := fun w' => ∃ x, w' = F x) (by kernel_rfl) (by kernel_rfl) (cls_drew hF2) ?_
   simp only [zT]
   repeat (go_big_quiet_step (first | fail | (go_at_call 20; with_reducible exact cls_call hF1 hF2 I2.out _) | (go_at_call 24; with_reducible exact cls_call hF1 hF2 M1.out _) | (go_at_call 24; with_reducible exact cls_call hF1 hF2 M2.out _) | (go_at_call 7; with_reducible exact cls_callK hKT.out hF1 hF2 kKT1 HW.out _)))
   refine wpQuiet_nil ?_
   rintro wq ⟨xq, rfl⟩
   replace hL0 := hL0.call (hF1 xq)
   replace hT := hT.call (hF1 xq)
   clear  hq0 hq1 hq2 hF2
   generalize F xq = x19 at hL0 hT ⊢
   clear hF1 xq iα F α
   clear kKT1
   go_wp2_with fail
   exact bodyPost_ret (v := .bool true) (by simp [results, Tryz.results4, go_sem]) rfl ⟨rfl, hL0.bl⟩
end Go.Proofs.YtkdbhacimoaohaaGreatDoor
namespace Go.Proofs.YtkdbhacimoaohaaGreatDoor
open Go.RowKit
attribute [local irreducible] lo hs sm s64 c64 d64 b64 mh ml pd pc qd qc val hiB str cmpI srD lz nb zl zh zs fe klT ordZ Bs
theorem iparts_any (l m : List RI) (hl : RO l) (hm : RO m) (iun iud ium iue ivn ivd ivm ive iwn iwd iwm iwe izn izd izm ize : Int) (bu : PB9 iun iud ium iue) (bv : PB9 ivn ivd ivm ive) (bw : PB9 iwn iwd iwm iwe) (bz : PB9 izn izd izm ize) (al am : Option Addr) (nl cl nm cm : Nat) (w : World) (hv : RW8 w (.slice al nl cl) l) (hu : RW8 w (.slice am nm cm) m) (ht : Tab w) :
  Calls Tryz.prog 4 #[.slice al nl cl, .slice am nm cm, .agg #[.int .i64 iun, .int .u32 iud, .int .i64 ium, .int .u32 iue], .agg #[.int .i64 ivn, .int .u32 ivd, .int .i64 ivm, .int .u32 ive], .agg #[.int .i64 iwn, .int .u32 iwd, .int .i64 iwm, .int .u32 iwe], .agg #[.int .i64 izn, .int .u32 izd, .int .i64 izm, .int .u32 ize]] w fun e w' => e = .returned (.bool true) ∧ Below w.heap.size w w' := by
 have n1 := (rt_parts hv).1
 have n2 := (rt_parts hu).1
 by_cases g1 : 6 < nl
 ·exact iparts_l1 al am nl cl nm cm iun iud ium iue ivn ivd ivm ive iwn iwd iwm iwe izn izd izm ize Tab Keeps.tab works9_any (decide_eq_true (by omega)) (decide_eq_true g1) w ht
 by_cases g2 : 6 < nm
 ·exact iparts_l2 al am nl cl nm cm iun iud ium iue ivn ivd ivm ive iwn iwd iwm iwe izn izd izm ize Tab Keeps.tab works9_any (decide_eq_false (by omega)) (decide_eq_false g1) (decide_eq_true (by omega)) (decide_eq_true g2) w ht
 have ga := made_gp hl (by omega) (D := 4) (by omega)
 have gb := made_gp hm (by omega) (D := 4) (by omega)
 have hA := fun w hv => made_any hl (by omega) (D := 4) (by omega) al nl cl w hv
 have hB := fun w hv => made_any hm (by omega) (D := 4) (by omega) am nm cm w hv
 generalize nrm (madeL l 4) = A at ga hA
 generalize nrm (madeL m 4) = B at gb hB
 have ou := fun w => pofG bu w
 have qu := ps_pq bu
 generalize pq9 iun iud ium iue = U at ou qu
 have ov := fun w => pofG bv w
 have qv := ps_pq bv
 generalize pq9 ivn ivd ivm ive = V at ov qv
 have ow := fun w => pofG bw w
 have qw := ps_pq bw
 generalize pq9 iwn iwd iwm iwe = W at ow qw
 have oz := fun w => pofG bz w
 have qz := ps_pq bz
 generalize pq9 izn izd izm ize = Z at oz qz
 have f1 : Fit 5 3 17 4 800 := ⟨by omega, by omega, by omega, by omega, by omega, by omega, by unfold shK; omega, by omega⟩
 have f2 : Fit 5 3 35 4 1300 := ⟨by omega, by omega, by omega, by omega, by omega, by omega, by unfold shK; omega, by omega⟩
 have f3 : Fit 5 3 17 4 900 := ⟨by omega, by omega, by omega, by omega, by omega, by omega, by unfold shK; omega, by omega⟩
 have f4 : Fit 5 3 800 4 20400 := ⟨by omega, by omega, by omega, by omega, by omega, by omega, by unfold shK; omega, by omega⟩
 have gs := (ga.add gb).mono (show max 4 4 ≤ 4 by omega) (show 17 + 17 + 1 ≤ 35 by omega)
 have gk : GP (conN 1) 4 17 := (GP.con sz1).mono (by omega) (by omega)
 have jx := (qw.x.sub qu.x).mono (show 1 + 1 + 1 ≤ 3 by omega)
 have jy := (qw.y.sub qu.y).mono (show 1 + 1 + 1 ≤ 3 by omega)
 have kx := (qv.x.sub qu.x).mono (show 1 + 1 + 1 ≤ 3 by omega)
 have ky := (qv.y.sub qu.y).mono (show 1 + 1 + 1 ≤ 3 by omega)
 have x3 := qu.x.mono (show 1 ≤ 3 by omega)
 have y3 := qu.y.mono (show 1 ≤ 3 by omega)
 have gq := f1.gp ga kx jx x3 ky jy y3
 have po := ps_int (m := 0) (n := 0) (by omega) (by omega) (by omega) (by omega)
 have pl := ps_int (m := 1) (n := 0) (by omega) (by omega) (by omega) (by omega)
 have pn := ps_int (m := 0) (n := 1) (by omega) (by omega) (by omega) (by omega)
 have z1 := (tri_sz (k := 1) f1 ga qu qv qz).mono (show 169 * (800 + 62) + 1 ≤ 200000 by omega)
 have z2 := (tri_sz (k := 1) f1 ga qv qw qz).mono (show 169 * (800 + 62) + 1 ≤ 200000 by omega)
 have z3 := (tri_sz (k := 1) f1 ga qw qu qz).mono (show 169 * (800 + 62) + 1 ≤ 200000 by omega)
 have za := (tri_sz (k := 1) f1 ga qu qv qw).mono (show 169 * (800 + 62) + 1 ≤ 200000 by omega)
 have zb := (tri_sz (k := 1) f1 gb qu qv qw).mono (show 169 * (800 + 62) + 1 ≤ 200000 by omega)
 have zu := (tri_sz (k := 1) f4 gq po pl pn).mono (show 169 * (20400 + 62) + 1 ≤ 4000000 by omega)
 have zr := area_sz qu qv qw
 have e1 : triV A U V Z + triV A V W Z + triV A W U Z = triV A U V W := (tri_parts A U V W Z).symm
 have e2 : triV A U V W + triV B U V W = triV (addN A B) U V W := (triV_add A B U V W).symm.trans (triV_eqv (addN_eqv A B) U V W).symm
 have e3 : triV (conN 1) U V W = areaV U V W := (triV_eqv (con_eqv 1) U V W).trans (tri_one U V W)
 have e4 : triV (shf A (V.x - U.x) (W.x - U.x) U.x (V.y - U.y) (W.y - U.y) U.y) (P9 0 0) (P9 1 0) (P9 0 1) * (2 * areaV U V W) = triV A U V W := by
  rw [triV_eqv (shf_eqv ga.nf _ _ _ _ _ _) (P9 0 0) (P9 1 0) (P9 0 1)]
  exact tri_unit A U V W
 refine iparts_w al am nl cl nm cm iun iud ium iue ivn ivd ivm ive iwn iwd iwm iwe izn izd izm ize (ofL A) (ofL B) (ofL (addN A B)) (ofL (conN 1)) (ofL (shf A (V.x - U.x) (W.x - U.x) U.x (V.y - U.y) (W.y - U.y) U.y)) U.x U.y V.x V.y W.x W.y Z.x Z.y ((0 : Int) : Rat) ((0 : Int) : Rat) ((1 : Int) : Rat) ((0 : Int) : Rat) ((0 : Int) : Rat) ((1 : Int) : Rat) (triV A U V W) (triV A U V Z) (triV A V W Z) (triV A W U Z) (triV (addN A B) U V W) (triV B U V W) (triV A U W V) (areaV U V W) 1 (areaV V U W)
  (V.x - U.x) (V.y - U.y) (W.x - U.x) (W.y - U.y) (triV (shf A (V.x - U.x) (W.x - U.x) U.x (V.y - U.y) (W.y - U.y) U.y) (P9 0 0) (P9 1 0) (P9 0 1)) 2 (2 * areaV U V W)
  (fun w => RW8 w (.slice al nl cl) l) (rtKeeps _ _) hA (fun w => RW8 w (.slice am nm cm) m) (rtKeeps _ _) hB
  ou ov ow oz
  (fun p w h => triG (k := 1) f1 ga qu qv qw w p h)
  (fun p w h => triG (k := 1) f1 ga qu qv qz w p h)
  (fun p w h => triG (k := 1) f1 ga qv qw qz w p h)
  (fun p w h => triG (k := 1) f1 ga qw qu qz w p h)
  (fun v w h => by have := sum39 z1 z2 z3 (by omega) v w h; rwa [e1] at this)
  (fun p q w h g => addG ga gb (by omega) (by omega) (by omega) w p q h g)
  (fun p w h => triG (k := 1) f2 gs qu qv qw w p h)
  (fun p w h => triG (k := 1) f1 gb qu qv qw w p h)
  (fun w => by have := addF _ _ _ za zb (by omega) w; rwa [e2] at this)
  (fun p w h => by have := triG (k := 1) f1 ga qv qw qu w p h; rwa [tri_turn] at this)
  (fun p w h => triG (k := 1) f1 ga qu qw qv w p h)
  (fun w => by have := negF (triV A U V W) w; rwa [← tri_back] at this)
  (fun w => areaG qu qv qw (by omega) w) int1 (fun w => conG sz1 (by omega) (by omega) w)
  (fun p w h => by have := triG (k := 1) f1 gk qu qv qw w p h; rwa [e3] at this)
  (fun w => areaG qv qu qw (by omega) w) (fun w => by have := negF (areaV U V W) w; rwa [← area_back] at this)
  (fun w => subF _ _ 1 qv.x qu.x (by omega) w)
  (fun w => subF _ _ 1 qv.y qu.y (by omega) w)
  (fun w => subF _ _ 1 qw.x qu.x (by omega) w)
  (fun w => subF _ _ 1 qw.y qu.y (by omega) w)
  (fun p w h => f1.sh ga kx jx x3 ky jy y3 w p h)
  (fun w => at9G 0 0 (by omega) (by omega) (by omega) (by omega) w) (fun w => at9G 1 0 (by omega) (by omega) (by omega) (by omega) w) (fun w => at9G 0 1 (by omega) (by omega) (by omega) (by omega) w)
  (fun p w h => triG (k := 1) f4 gq po pl pn w p h)
  int2 (fun w => mulF _ _ _ (sz_two.mono (show 1 ≤ 8 * 1 + 6 by omega)) zr (by omega) w) (fun w => by have := mulF _ _ 4000000 zu ((sz_two.mul zr).mono (by omega)) (by omega) w; rwa [e4] at this)
  Tab Keeps.tab works9_any (decide_eq_false (by omega)) (decide_eq_false g1) (decide_eq_false (by omega)) (decide_eq_false g2) w hv hu ht
end Go.Proofs.YtkdbhacimoaohaaGreatDoor
