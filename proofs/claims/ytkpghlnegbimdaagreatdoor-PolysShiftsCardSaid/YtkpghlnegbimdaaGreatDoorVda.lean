/-
  The law answers true at every input, and leaves its arguments as they were: a part of the proof. CONDITIONS: the package-level tables start as the program's text lays them (the card ties them).
-/
import Derived.Test.YtkpghlnegbimdaaGreatDoorZae
set_option linter.unusedVariables false
set_option linter.unusedSimpArgs false
set_option maxHeartbeats 16000000
set_option maxRecDepth 100000
namespace Go.Proofs.YtkpghlnegbimdaaGreatDoor
open Go.RowKit
theorem new_frac (w : World) : (Instr.alloc 47 true (.tuple #[])).run Tryz.prog w = .ok (.pointer (some ⟨w.heap.size, 0, none⟩)) (w.alloc (.cells #[.int .u64 0, .string ⟨#[]⟩, .bool false, .int .u64 0, .string ⟨#[]⟩] 47)) := by
 simp [go_sem, Instr.alloc]
theorem put_frac (i0 i : Int) (s0 s : ByteArray) (b0 b : Bool) (j0 j : Int) (t0 t : ByteArray) (w : World) (k : Nat) (h : Hd w k [.int .u64 i0, .string s0, .bool b0, .int .u64 j0, .string t0]) :
  ∃ w', (Instr.storeAt 47 (.pointer (some ⟨k, 0, none⟩)) (.agg #[.int .u64 i, .string s, .bool b, .int .u64 j, .string t])).run Tryz.prog w = .ok () w' ∧ Hd w' k [.int .u64 i, .string s, .bool b, .int .u64 j, .string t] ∧ Upd k w w' := by
 have h0 : w.cell? ⟨k, 0, none⟩ = some (.int .u64 i0) := h.cell 0 (by simp)
 have h1 : w.cell? ⟨k, 1, none⟩ = some (.string s0) := h.cell 1 (by simp)
 have h2 : w.cell? ⟨k, 2, none⟩ = some (.bool b0) := h.cell 2 (by simp)
 have h3 : w.cell? ⟨k, 3, none⟩ = some (.int .u64 j0) := h.cell 3 (by simp)
 have h4 : w.cell? ⟨k, 4, none⟩ = some (.string t0) := h.cell 4 (by simp)
 have hf := h.frz
 refine ⟨_, ?_, setAll_hd [.int .u64 i, .string s, .bool b, .int .u64 j, .string t] 0 w k [] [.int .u64 i0, .string s0, .bool b0, .int .u64 j0, .string t0] rfl rfl h, ((((((Upd.refl k w).setCell 0 _).setCell 1 _).setCell 2 _).setCell 3 _).setCell 4 _)⟩
 simp [go_sem, Instr.storeAt, Instr.sureAddr, h0, h1, h2, h3, h4, hf, setAll]
end Go.Proofs.YtkpghlnegbimdaaGreatDoor
namespace Go.Proofs.YtkpghlnegbimdaaGreatDoor
open Go.RowKit
theorem prod_add (p q r : TL) : Eqv (prodL p (q ++ r)) (prodL p q ++ prodL p r) := fun F => by
 rw [pair_append, pair_prod, pair_prod, pair_prod, ← pair_add]
 exact congrArg (pair p) (funext fun i => funext fun j => pair_append q r _)
theorem add_eqv {p p' q q' : TL} (h : Eqv p p') (g : Eqv q q') : Eqv (p ++ q) (p' ++ q') := fun F => by rw [pair_append, pair_append, h, g]
theorem powQ_add (x : Rat) (i k : Nat) : x ^ (i + k) = x ^ i * x ^ k := by
 induction k with
 | zero => rw [Nat.add_zero, Rat.pow_zero, Rat.mul_one]
 | succ k ih => rw [Nat.add_succ, Rat.pow_succ, ih, Rat.pow_succ, Rat.mul_assoc]
theorem at_prod (p q : TL) (x y : Rat) : atL (prodL p q) x y = atL p x y * atL q x y := by
 unfold atL
 rw [pair_prod]
 have h : (fun i j => pair q fun k l => x ^ (i + k) * y ^ (j + l)) = fun i j => pair q (fun k l => x ^ k * y ^ l) * (x ^ i * y ^ j) := by
  funext i j
  rw [Rat.mul_comm, ← pair_mul]
  exact congrArg (pair q) (funext fun k => funext fun l => by rw [powQ_add, powQ_add]; grind)
 rw [h, pair_mul, Rat.mul_comm]
theorem at_eqv {p q : TL} (h : Eqv p q) (x y : Rat) : atL p x y = atL q x y := h _
theorem dxF_split (F : Nat → Nat → Rat) (i j k l : Nat) : dxF F (i + k) (j + l) = ((i : Nat) : Rat) * F (i - 1 + k) (j + l) + ((k : Nat) : Rat) * F (i + (k - 1)) (j + l) := by
 unfold dxF
 rw [Rat.natCast_add]
 cases i with
 | zero =>
  cases k with
  | zero => simp; grind
  | succ k => rw [show 0 + (k + 1) - 1 = 0 + (k + 1 - 1) by omega]; simp; grind
 | succ i =>
  rw [show i + 1 + k - 1 = i + 1 - 1 + k by omega]
  cases k with
  | zero => simp; grind
  | succ k => rw [show i + 1 + (k + 1 - 1) = i + 1 - 1 + (k + 1) by omega]; grind
theorem dx_prod (p q : TL) : Eqv (dxL (prodL p q)) (prodL (dxL p) q ++ prodL p (dxL q)) := fun F => by
 rw [pair_dx, pair_prod, pair_append, pair_prod, pair_prod, pair_dx, ← pair_add]
 refine congrArg (pair p) (funext fun i => funext fun j => ?_)
 rw [pair_dx]
 show pair q (fun k l => dxF F (i + k) (j + l)) = ((i : Nat) : Rat) * pair q (fun k l => F (i - 1 + k) (j + l)) + pair q (dxF fun k l => F (i + k) (j + l))
 rw [← pair_mul, ← pair_add]
 exact congrArg (pair q) (funext fun k => funext fun l => dxF_split F i j k l)
end Go.Proofs.YtkpghlnegbimdaaGreatDoor
namespace Go.Proofs.YtkpghlnegbimdaaGreatDoor
open Go.RowKit
theorem one_prod (p : TL) : Eqv (prodL oneL p) p := fun F => by
 rw [pair_prod, pair_one]
 exact congrArg (pair p) (funext fun i => funext fun j => by rw [Nat.zero_add, Nat.zero_add])
theorem sub_eqv {p q : TL} (h : Eqv p q) (u v : TL) : Eqv (subL p u v) (subL q u v) := fun F => by rw [pair_sub, pair_sub, h]
theorem powL_eqv {u u' : TL} (h : Eqv u u') : ∀ n, Eqv (powL u n) (powL u' n)
 | 0 => Eqv.refl _
 | n + 1 => prod_eqv (powL_eqv h n) h
theorem sub_eqv2 (p : TL) {u u' v v' : TL} (h : Eqv u u') (g : Eqv v v') : Eqv (subL p u v) (subL p u' v') := fun F => by
 rw [pair_sub, pair_sub]
 exact congrArg (pair p) (funext fun i => funext fun j => prod_eqv (powL_eqv h i) (powL_eqv g j) F)
theorem at_one (x y : Rat) : atL oneL x y = 1 := by unfold atL; rw [pair_one, Rat.pow_zero, Rat.pow_zero]; grind
theorem at_pow (u : TL) (x y : Rat) : ∀ n, atL (powL u n) x y = atL u x y ^ n
 | 0 => by rw [Rat.pow_zero]; exact at_one x y
 | n + 1 => by show atL (prodL (powL u n) u) x y = _; rw [at_prod, at_pow u x y n, Rat.pow_succ]
/-- The value of a substitution is the value at the image. -/
theorem at_sub (p u v : TL) (x y : Rat) : atL (subL p u v) x y = atL p (atL u x y) (atL v x y) := by
 unfold atL
 rw [pair_sub]
 refine congrArg (pair p) (funext fun i => funext fun j => ?_)
 have h := at_prod (powL u i) (powL v j) x y
 rw [at_pow, at_pow] at h
 exact h
theorem pow_x : ∀ i, Eqv (powL [(1, 0, 1)] i) [(i, 0, 1)]
 | 0 => Eqv.refl _
 | i + 1 => fun F => by
  show pair (prodL (powL [(1, 0, 1)] i) [(1, 0, 1)]) F = _
  rw [prod_eqv (pow_x i) (Eqv.refl _) F, pair_prod]
  simp only [pair, Nat.add_zero]; grind
theorem pow_y : ∀ i, Eqv (powL [(0, 1, 1)] i) [(0, i, 1)]
 | 0 => Eqv.refl _
 | i + 1 => fun F => by
  show pair (prodL (powL [(0, 1, 1)] i) [(0, 1, 1)]) F = _
  rw [prod_eqv (pow_y i) (Eqv.refl _) F, pair_prod]
  simp only [pair, Nat.add_zero]; grind
theorem sub_id (p : TL) : Eqv (subL p [(1, 0, 1)] [(0, 1, 1)]) p := fun F => by
 rw [pair_sub]
 refine congrArg (pair p) (funext fun i => funext fun j => ?_)
 unfold mono
 rw [prod_eqv (pow_x i) (pow_y j) F, pair_prod]
 simp only [pair, Nat.add_zero, Nat.zero_add]; grind
theorem dy_pow_of {u : TL} {a : Rat} (D : TL → TL) (DF : (Nat → Nat → Rat) → Nat → Nat → Rat) (hD : ∀ p F, pair (D p) F = pair p (DF F)) (h0 : ∀ F, DF F 0 0 = 0) (hp : ∀ p q, Eqv (D (prodL p q)) (prodL (D p) q ++ prodL p (D q))) (h : Eqv (D u) [(0, 0, a)]) : ∀ n, Eqv (D (powL u n)) (scaleL (((n : Nat) : Rat) * a) (powL u (n - 1)))
 | 0 => fun F => by
  rw [hD, pair_scale]
  show pair oneL (DF F) = _
  rw [pair_one, h0]; first | (simp; done) | (simp; grind)
 | n + 1 => fun F => by
  show pair (D (prodL (powL u n) u)) F = _
  rw [hp, pair_append, prod_eqv (dy_pow_of D DF hD h0 hp h n) (Eqv.refl u) F, prod_eqv (Eqv.refl (powL u n)) h F, pair_prod, pair_scale, pair_scale, pair_prod (p := powL u n)]
  have e2 : pair (powL u n) (fun i j => pair [(0, 0, a)] fun k l => F (i + k) (j + l)) = a * pair (powL u n) F := by
   rw [← pair_mul]
   exact congrArg (pair (powL u n)) (funext fun i => funext fun j => by simp only [pair, Nat.add_zero]; grind)
  rw [e2, Nat.add_sub_cancel, Rat.natCast_add]
  cases n with
  | zero => first | (simp; done) | (simp; grind)
  | succ n =>
   have e1 : pair (powL u (n + 1 - 1)) (fun i j => pair u fun k l => F (i + k) (j + l)) = pair (powL u (n + 1)) F := (pair_prod (powL u n) u F).symm
   rw [e1]; grind
/-- The chain rule. -/
theorem chain {u v : TL} {a b : Rat} (D : TL → TL) (DF : (Nat → Nat → Rat) → Nat → Nat → Rat) (hD : ∀ p F, pair (D p) F = pair p (DF F)) (h0 : ∀ F, DF F 0 0 = 0) (hp : ∀ p q, Eqv (D (prodL p q)) (prodL (D p) q ++ prodL p (D q)))
  (hu : Eqv (D u) [(0, 0, a)]) (hv : Eqv (D v) [(0, 0, b)]) (p : TL) : Eqv (D (subL p u v)) (scaleL a (subL (dxL p) u v) ++ scaleL b (subL (dyL p) u v)) := fun F => by
 rw [hD, pair_sub, pair_append, pair_scale, pair_scale, pair_sub, pair_sub, pair_dx, pair_dy, ← pair_mul, ← pair_mul, ← pair_add]
 refine congrArg (pair p) (funext fun i => funext fun j => ?_)
 have h : pair (mono u v i j) (DF F) = pair (D (mono u v i j)) F := (hD _ F).symm
 rw [h]
 unfold mono
 rw [hp, pair_append, prod_eqv (dy_pow_of D DF hD h0 hp hu i) (Eqv.refl (powL v j)) F, prod_eqv (Eqv.refl (powL u i)) (dy_pow_of D DF hD h0 hp hv j) F, pair_prod, pair_scale, pair_prod]
 have e2 : pair (powL u i) (fun m n => pair (scaleL (((j : Nat) : Rat) * b) (powL v (j - 1))) fun k l => F (m + k) (n + l)) = ((j : Nat) : Rat) * b * pair (powL u i) (fun m n => pair (powL v (j - 1)) fun k l => F (m + k) (n + l)) := by
  rw [← pair_mul]
  exact congrArg (pair (powL u i)) (funext fun m => funext fun n => pair_scale _ _ _)
 rw [e2]
 unfold dxF dyF
 simp only []
 rw [pair_prod, pair_prod]
 grind
theorem tb_one : TB oneL 0 := by
 intro t ht
 unfold oneL at ht
 have : t = (0, 0, 1) := by simpa using ht
 rw [this]; decide
theorem tb_pow {u : TL} (h : TB u 1) : ∀ n, TB (powL u n) n
 | 0 => tb_one
 | n + 1 => tb_prod (tb_pow h n) h
theorem tb_sub {p u v : TL} {d : Nat} (hp : TB p d) (hu : TB u 1) (hv : TB v 1) : TB (subL p u v) d := by
 intro t ht
 obtain ⟨s, hs, h1⟩ := List.mem_flatMap.1 ht
 obtain ⟨x, hx, rfl⟩ := List.mem_map.1 h1
 have h2 := tb_prod (tb_pow hu s.1) (tb_pow hv s.2.1) x hx
 have := hp s hs
 show x.1 + x.2.1 ≤ d
 omega
end Go.Proofs.YtkpghlnegbimdaaGreatDoor
namespace Go.Proofs.YtkpghlnegbimdaaGreatDoor
open Go.RowKit
theorem dyF_split (F : Nat → Nat → Rat) (i j k l : Nat) : dyF F (i + k) (j + l) = ((j : Nat) : Rat) * F (i + k) (j - 1 + l) + ((l : Nat) : Rat) * F (i + k) (j + (l - 1)) := by
 have h := dxF_split (fun a b => F b a) j i l k
 unfold dxF at h
 unfold dyF
 exact h
theorem dy_prod (p q : TL) : Eqv (dyL (prodL p q)) (prodL (dyL p) q ++ prodL p (dyL q)) := fun F => by
 rw [pair_dy, pair_prod, pair_append, pair_prod, pair_prod, pair_dy, ← pair_add]
 refine congrArg (pair p) (funext fun i => funext fun j => ?_)
 rw [pair_dy]
 show pair q (fun k l => dyF F (i + k) (j + l)) = ((j : Nat) : Rat) * pair q (fun k l => F (i + k) (j - 1 + l)) + pair q (dyF fun k l => F (i + k) (j + l))
 rw [← pair_mul, ← pair_add]
 exact congrArg (pair q) (funext fun k => funext fun l => dyF_split F i j k l)
theorem dxF_zero (F : Nat → Nat → Rat) : dxF F 0 0 = 0 := by unfold dxF; first | (simp; done) | (simp; grind)
theorem dyF_zero (F : Nat → Nat → Rat) : dyF F 0 0 = 0 := by unfold dyF; first | (simp; done) | (simp; grind)
theorem at_lin (a b c x y : Rat) : atL (linL a b c) x y = a * x + b * y + c := by
 unfold atL linL
 simp only [pair]
 have h1 : ∀ z : Rat, z ^ 1 = z := fun z => by rw [Rat.pow_succ, Rat.pow_zero, Rat.one_mul]
 rw [h1, h1, Rat.pow_zero, Rat.pow_zero]; grind
theorem dx_lin (a b c : Rat) : Eqv (dxL (linL a b c)) [(0, 0, a)] := fun F => by
 rw [pair_dx]; unfold linL dxF; simp only [pair]; first | (simp; done) | (simp; grind)
theorem dy_lin (a b c : Rat) : Eqv (dyL (linL a b c)) [(0, 0, b)] := fun F => by
 rw [pair_dy]; unfold linL dyF; simp only [pair]; first | (simp; done) | (simp; grind)
/-- The chain rule for affine substitutions. -/
theorem chain_x (p : TL) (a b c d f g : Rat) : Eqv (dxL (subL p (linL a b c) (linL d f g))) (scaleL a (subL (dxL p) (linL a b c) (linL d f g)) ++ scaleL d (subL (dyL p) (linL a b c) (linL d f g))) :=
 chain dxL dxF pair_dx dxF_zero dx_prod (dx_lin a b c) (dx_lin d f g) p
theorem chain_y (p : TL) (a b c d f g : Rat) : Eqv (dyL (subL p (linL a b c) (linL d f g))) (scaleL b (subL (dxL p) (linL a b c) (linL d f g)) ++ scaleL f (subL (dyL p) (linL a b c) (linL d f g))) :=
 chain dyL dyF pair_dy dyF_zero dy_prod (dy_lin a b c) (dy_lin d f g) p
theorem sumN_shift (f : Nat → Rat) : ∀ n, sumN (n + 1) f = f 0 + sumN n (fun i => f (i + 1))
 | 0 => by simp only [sumN]; grind
 | n + 1 => by
  show sumN (n + 1) f + f (n + 1) = _
  rw [sumN_shift f n]; simp only [sumN]; grind
/-- What Horner's scheme has after k rounds. -/
def hornL (d : Nat) (u : TL) (co : Nat → TL) : Nat → TL
 | 0 => []
 | k + 1 => prodL (hornL d u co k) u ++ co (d - k)
theorem horn_sum (d : Nat) (u : TL) (co : Nat → TL) (F : Nat → Nat → Rat) : ∀ k, k ≤ d + 1 → ∀ w : TL, pair (prodL (hornL d u co k) w) F = sumN k fun m => pair (prodL (prodL (co (d + 1 - k + m)) (powL u m)) w) F
 | 0, _, w => rfl
 | k + 1, hk, w => by
  have e1 : Eqv (prodL (hornL d u co (k + 1)) w) (prodL (hornL d u co k) (prodL u w) ++ prodL (co (d - k)) w) := fun F => by
   show pair (prodL (prodL (hornL d u co k) u ++ co (d - k)) w) F = _
   rw [prod_comm, prod_add, pair_append, pair_append, prod_comm w, prod_comm w, prod_assoc]
  rw [e1, pair_append, horn_sum d u co F k (by omega), sumN_shift]
  have e0 : pair (prodL (prodL (co (d + 1 - (k + 1) + 0)) (powL u 0)) w) F = pair (prodL (co (d - k)) w) F := by
   rw [show d + 1 - (k + 1) + 0 = d - k by omega]
   exact prod_eqv (prod_one _) (Eqv.refl w) F
  rw [e0, Rat.add_comm]
  congr 1
  refine sumN_congr fun m hm => ?_
  rw [show d + 1 - (k + 1) + (m + 1) = d + 1 - k + m by omega]
  show _ = pair (prodL (prodL (co (d + 1 - k + m)) (prodL (powL u m) u)) w) F
  rw [← prod_assoc _ u w F]
  exact prod_eqv (prod_assoc _ _ _) (Eqv.refl w) F
theorem horn_all (d : Nat) (u : TL) (co : Nat → TL) (F : Nat → Nat → Rat) : pair (hornL d u co (d + 1)) F = sumN (d + 1) fun m => pair (prodL (co m) (powL u m)) F := by
 rw [← prod_one (hornL d u co (d + 1)) F, horn_sum d u co F (d + 1) (Nat.le_refl _) oneL]
 refine sumN_congr fun m _ => ?_
 rw [prod_one, show d + 1 - (d + 1) + m = m by omega]
/-- Horner's scheme in both letters is the substitution. -/
theorem horn_sub (p u v : TL) (d : Nat) (hp : TB p d) : Eqv (hornL d u (fun i => hornL (d - i) v (fun j => [(0, 0, pair p (ind (i, j)))]) (d - i + 1)) (d + 1)) (subL p u v) := fun F => by
 rw [horn_all, pair_sub, expand d _ p hp]
 refine sumN_congr fun i hi => ?_
 rw [pair_prod, horn_all]
 refine sumN_congr fun j hj => ?_
 rw [pair_prod]
 simp only [pair]
 unfold mono
 rw [prod_comm, pair_prod]
 have e : ∀ a b c : Nat, a + 0 + b = a + b := fun a b _ => by omega
 simp only [Nat.zero_add]
 grind
end Go.Proofs.YtkpghlnegbimdaaGreatDoor
namespace Go.Proofs.YtkpghlnegbimdaaGreatDoor
open Go.RowKit
attribute [local irreducible] lo hs sm s64 c64 d64 b64 mh ml pd pc qd qc val hiB str cmpI srD lz nb zl zh zs fe klT ordZ
theorem mulN_eqv (p q : TL) : Eqv (mulN p q) (prodL p q) := nfL_eqv _
end Go.Proofs.YtkpghlnegbimdaaGreatDoor
namespace Go.Proofs.YtkpghlnegbimdaaGreatDoor
open Go.ChangeShapes Go.WideShapes Go.ChangeAt Go.RowKit Go.Joins
theorem cellsQ : Tryz.prog.cellsOf 59 = 2 := by kernel_rfl
theorem q_of {H : Type} {enc : TypeId × Value → H} {W : World} {base : Nat} {v : Value} {d : DataW H} {p : List MemPlace} (hv : Value.okWide Tryz.prog W .any base 59 v)
  (h : DataW.Trod enc Tryz.prog W 0 (fun _ => true) true 59 v d p) : ∃ n e : Int, v = .agg #[.int .i64 n, .int .u32 e] ∧ (-9223372036854775808 ≤ n ∧ n < 9223372036854775808) ∧ (0 ≤ e ∧ e < 4294967296) := by
 obtain ⟨v0, v1, y0, y1, m, rfl, rfl, rfl, h0, h1⟩ := open_agg2 Tryz.underlying59 (by kernel_rfl) cellsQ hv h
 obtain ⟨n, e0, -, f0⟩ := DataW.trod_int Tryz.underlying2 h0
 obtain ⟨e, e1, -, f1⟩ := DataW.trod_int Tryz.underlying57 h1
 simp only [List.cons.injEq, and_true] at e0 e1
 subst e0 e1
 have b0 := bounds_i64 f0
 have b1 := bounds_u32 f1
 exact ⟨n, e, rfl, by omega, by omega⟩
end Go.Proofs.YtkpghlnegbimdaaGreatDoor
namespace Go.Proofs.YtkpghlnegbimdaaGreatDoor
open Go.RowKit
attribute [local irreducible] lo hs sm s64 c64 d64 b64 mh ml pd pc qd qc val hiB str cmpI srD lz nb zl zh zs fe klT ordZ Bs
theorem dxN_nf (p : TL) : NF (dxN p) := nfL_nf _
theorem dyN_nf (p : TL) : NF (dyN p) := nfL_nf _
theorem scaleN_eqv (c : Rat) (p : TL) : Eqv (scaleN c p) (scaleL c p) := nfL_eqv _
theorem coef_pair : ∀ {p : TL}, NF p → ∀ i j : Nat, coefZ p (i : Int) (j : Int) = pair p (ind (i, j))
 | [], _, _, _ => rfl
 | t :: p, h, i, j => by
  have ih := coef_pair h.tail i j
  unfold coefZ at ih ⊢
  rw [List.find?_cons]
  by_cases hk : key t = (i, j)
  ·have h1 : t.1 = i := congrArg Prod.fst hk
   have h2 : t.2.1 = j := congrArg Prod.snd hk
   have hd : (decide (((t.1 : Nat) : Int) = (i : Int) ∧ ((t.2.1 : Nat) : Int) = (j : Int))) = true := decide_eq_true ⟨by omega, by omega⟩
   rw [hd, ← hk, coef_head h]
  ·have hd : (decide (((t.1 : Nat) : Int) = (i : Int) ∧ ((t.2.1 : Nat) : Int) = (j : Int))) = false := decide_eq_false fun ⟨a, b⟩ => hk (Prod.ext (show t.1 = i by omega) (show t.2.1 = j by omega))
   rw [hd]
   simp only
   rw [ih, pair, show ind (i, j) t.1 t.2.1 = 0 from if_neg hk, Rat.mul_zero, Rat.zero_add]
theorem horn_eqv {u u' : TL} (hu : Eqv u u') {co co' : Nat → TL} (D : Nat) (hc : ∀ i, i ≤ D → Eqv (co i) (co' i)) : ∀ k, k ≤ D + 1 → Eqv (hornN (D + 1) u co k) (hornL D u' co' k)
 | 0, _ => Eqv.refl _
 | k + 1, hk => by
  have e : D + 1 - 1 - k = D - k := by omega
  refine (addN_eqv _ _).trans (add_eqv ((mulN_eqv _ _).trans (prod_eqv (horn_eqv hu D hc k (by omega)) hu)) ?_)
  rw [e]
  exact hc _ (by omega)
theorem con_eqv (c : Rat) : Eqv (conN c) [(0, 0, c)] := nfL_eqv _
theorem shift_eqv {p u v u' v' : TL} (hp : NF p) (hu : Eqv u u') (hv : Eqv v v') : Eqv (shiftN p u v) (subL p u' v') := by
 rcases Nat.eq_zero_or_pos (topD p) with h0 | h0
 ·have hn : p = [] := by
   rcases p with _ | ⟨t, p⟩
   ·rfl
   ·have := topD_eq (t :: p)
    have h1 := degI_last (p := t :: p) (by simp)
    omega
  subst hn
  unfold shiftN
  rw [h0]
  exact Eqv.refl _
 ·obtain ⟨D, hD⟩ : ∃ D, topD p = D + 1 := ⟨topD p - 1, by omega⟩
  have ht : TB p D := fun t ht => by
   have h1 := degI_top hp t ht
   have h2 := topD_eq p
   omega
  unfold shiftN
  rw [hD]
  refine (horn_eqv hu D (co' := fun i => hornL (D - i) v' (fun j => [(0, 0, pair p (ind (i, j)))]) (D - i + 1)) (fun i hi => ?_) (D + 1) (Nat.le_refl _)).trans (horn_sub p u' v' D ht)
  have e : D + 1 - i = D - i + 1 := by omega
  show Eqv (hornN (D + 1 - i) v (fun j => conN (coefZ p (i : Int) (j : Int))) (D + 1 - i)) _
  rw [e]
  exact horn_eqv hv (D - i) (fun j _ => by show Eqv (conN (coefZ p (i : Int) (j : Int))) _; rw [coef_pair hp]; exact con_eqv _) (D - i + 1) (Nat.le_refl _)
theorem hornN_nf (D : Nat) (u : TL) (co : Nat → TL) : ∀ k, NF (hornN D u co k)
 | 0 => NF.nil
 | k + 1 => nfL_nf _
theorem shiftN_nf (p u v : TL) : NF (shiftN p u v) := hornN_nf _ _ _ _
theorem lin_eqv (a b c : Rat) : Eqv (linN a b c) (linL a b c) := nfL_eqv _
abbrev shf (p : TL) (a b c d e f : Rat) : TL := shiftN p (linN a b c) (linN d e f)
theorem shf_eqv {p : TL} (hp : NF p) (a b c d e f : Rat) : Eqv (shf p a b c d e f) (subL p (linL a b c) (linL d e f)) := shift_eqv hp (lin_eqv a b c) (lin_eqv d e f)
theorem shf_at {p : TL} (hp : NF p) (a b c d e f x y : Rat) : atL (shf p a b c d e f) x y = atL p (a * x + b * y + c) (d * x + e * y + f) := by
 rw [at_eqv (shf_eqv hp a b c d e f), at_sub, at_lin, at_lin]
theorem shf_tb {p : TL} (hp : NF p) {D : Nat} (ht : TB p D) (a b c d e f : Rat) : TB (shf p a b c d e f) D := by
 have h1 : shf p a b c d e f = nfL (subL p (linL a b c) (linL d e f)) := nf_uniq (shiftN_nf _ _ _) (nfL_nf _) ((shf_eqv hp a b c d e f).trans (nfL_eqv _).symm)
 rw [h1]
 exact tb_nfL (tb_sub ht (tb_lin a b c) (tb_lin d e f))
theorem shf_deg {p : TL} (hp : NF p) (a b c d e f : Rat) : degI (shf p a b c d e f) ≤ degI p := by
 by_cases h0 : p = []
 ·subst h0
  show degI [] ≤ degI []
  omega
 ·have h1 := degI_last h0
  have ht : TB p (degI p).toNat := fun t ht => by have := degI_top hp t ht; omega
  have := degI_le (shf_tb hp ht a b c d e f)
  omega
theorem shf_dx {p : TL} (hp : NF p) (a b c d e f : Rat) : dxN (shf p a b c d e f) = addN (scaleN a (shf (dxN p) a b c d e f)) (scaleN d (shf (dyN p) a b c d e f)) :=
 nf_uniq (nfL_nf _) (nfL_nf _) ((dxN_eqv _).trans ((dx_eqv (shf_eqv hp a b c d e f)).trans ((chain_x p a b c d e f).trans (Eqv.symm ((addN_eqv _ _).trans (add_eqv
  ((scaleN_eqv _ _).trans fun F => by rw [pair_scale, pair_scale, shf_eqv (dxN_nf p) a b c d e f F, sub_eqv (dxN_eqv p) _ _ F])
  ((scaleN_eqv _ _).trans fun F => by rw [pair_scale, pair_scale, shf_eqv (dyN_nf p) a b c d e f F, sub_eqv (dyN_eqv p) _ _ F])))))))
theorem shf_dy {p : TL} (hp : NF p) (a b c d e f : Rat) : dyN (shf p a b c d e f) = addN (scaleN b (shf (dxN p) a b c d e f)) (scaleN e (shf (dyN p) a b c d e f)) :=
 nf_uniq (nfL_nf _) (nfL_nf _) ((dyN_eqv _).trans ((dy_eqv (shf_eqv hp a b c d e f)).trans ((chain_y p a b c d e f).trans (Eqv.symm ((addN_eqv _ _).trans (add_eqv
  ((scaleN_eqv _ _).trans fun F => by rw [pair_scale, pair_scale, shf_eqv (dxN_nf p) a b c d e f F, sub_eqv (dxN_eqv p) _ _ F])
  ((scaleN_eqv _ _).trans fun F => by rw [pair_scale, pair_scale, shf_eqv (dyN_nf p) a b c d e f F, sub_eqv (dyN_eqv p) _ _ F])))))))
theorem powL_one (u : TL) : Eqv (powL u 1) u := one_prod u
theorem lin_sub (a b c x y : Rat) : Eqv (subL (linL a b c) (linL 1 0 x) (linL 0 1 y)) (linL a b (a * x + b * y + c)) := fun F => by
 have h10 : pair (mono (linL 1 0 x) (linL 0 1 y) 1 0) F = F 1 0 + x * F 0 0 := by
  have := (prod_eqv (powL_one (linL 1 0 x)) (Eqv.refl (powL (linL 0 1 y) 0))).trans (prod_one _) F
  refine Eq.trans this ?_
  simp only [linL, pair]; grind
 have h01 : pair (mono (linL 1 0 x) (linL 0 1 y) 0 1) F = F 0 1 + y * F 0 0 := by
  have := (prod_eqv (Eqv.refl (powL (linL 1 0 x) 0)) (powL_one (linL 0 1 y))).trans (one_prod _) F
  refine Eq.trans this ?_
  simp only [linL, pair]; grind
 have h00 : pair (mono (linL 1 0 x) (linL 0 1 y) 0 0) F = F 0 0 := (prod_one oneL F).trans (pair_one F)
 rw [pair_sub]
 show pair [(1, 0, a), (0, 1, b), (0, 0, c)] _ = pair [(1, 0, a), (0, 1, b), (0, 0, a * x + b * y + c)] F
 simp only [pair, h10, h01, h00]
 grind
theorem shf_shf {p : TL} (hp : NF p) (a b c d e f x y : Rat) : shf (shf p a b c d e f) 1 0 x 0 1 y = shf p a b (a * x + b * y + c) d e (d * x + e * y + f) :=
 nf_uniq (shiftN_nf _ _ _) (shiftN_nf _ _ _) ((shf_eqv (shiftN_nf _ _ _) 1 0 x 0 1 y).trans ((sub_eqv (shf_eqv hp a b c d e f) _ _).trans ((sub_sub p _ _ _ _).trans ((sub_eqv2 p (lin_sub a b c x y) (lin_sub d e f x y)).trans (shf_eqv hp a b _ d e _).symm))))
theorem shf_id {p : TL} (hp : NF p) : shf p 1 0 0 0 1 0 = p :=
 nf_uniq (shiftN_nf _ _ _) hp ((shf_eqv hp 1 0 0 0 1 0).trans ((sub_eqv2 p (u' := [(1, 0, 1)]) (v' := [(0, 1, 1)]) (fun F => by simp only [linL, pair]; grind) (fun F => by simp only [linL, pair]; grind)).trans (sub_id p)))
theorem GP.shf {p : TL} {d K k : Nat} (h : GP p d K) (h0 : 0 < K) (hd : d ≤ 12) {a b c a2 b2 c2 : Rat} (s1 : Sz a k) (s2 : Sz b k) (s3 : Sz c k) (s4 : Sz a2 k) (s5 : Sz b2 k) (s6 : Sz c2 k) (D : Nat) (hD : d + 1 ≤ D) :
  GP (shf p a b c a2 b2 c2) d (D * (3 * k + 2 + (D * (3 * k + 2 + K + 1) + 1) + 1) + 1) :=
 ⟨shiftN_nf _ _ _, shf_tb h.nf h.tb _ _ _ _ _ _, (GP.shift h h0 (GP.lin s1 s2 s3) (GP.lin s4 s5 s6) hd D hD).sz⟩
end Go.Proofs.YtkpghlnegbimdaaGreatDoor
namespace Go.Proofs.YtkpghlnegbimdaaGreatDoor
open Go.ChangeShapes Go.WideShapes Go.ChangeAt Go.RowKit Go.Joins
section
variable {H : Type} {enc : TypeId × Value → H} {P : Program} {w : World} {base : Nat} {spare : Nat → Bool} {held : Bool}
theorem trodAll_mk5 {t t1 t2 t3 t4 : TypeId} {v v1 v2 v3 v4 : Value} {d d1 d2 d3 d4 : DataW H} {p p1 p2 p3 p4 : List MemPlace} (h : DataW.Trod enc P w base spare held t v d p) (h1 : DataW.Trod enc P w base spare held t1 v1 d1 p1)
  (h2 : DataW.Trod enc P w base spare held t2 v2 d2 p2) (h3 : DataW.Trod enc P w base spare held t3 v3 d3 p3) (h4 : DataW.Trod enc P w base spare held t4 v4 d4 p4) : DataW.TrodAll enc P w base spare held [t, t1, t2, t3, t4] [v, v1, v2, v3, v4] [d, d1, d2, d3, d4] (p ++ (p1 ++ (p2 ++ (p3 ++ p4)))) := ⟨p, p1 ++ (p2 ++ (p3 ++ p4)), h, trodAll_mk4 h1 h2 h3 h4, rfl⟩
theorem trodAll_six {t t1 t2 t3 t4 t5 : TypeId} {args : Array Value} {ds : List (DataW H)} {ps : List MemPlace} (h : DataW.TrodAll enc P w base spare held [t, t1, t2, t3, t4, t5] args.toList ds ps) :
  ∃ v v1 v2 v3 v4 v5 d d1 d2 d3 d4 d5 p p1 p2 p3 p4 p5, args = #[v, v1, v2, v3, v4, v5] ∧ ds = [d, d1, d2, d3, d4, d5] ∧ ps = p ++ p1 ++ p2 ++ p3 ++ p4 ++ p5 ∧ DataW.Trod enc P w base spare held t v d p ∧ DataW.Trod enc P w base spare held t1 v1 d1 p1 ∧ DataW.Trod enc P w base spare held t2 v2 d2 p2 ∧ DataW.Trod enc P w base spare held t3 v3 d3 p3 ∧ DataW.Trod enc P w base spare held t4 v4 d4 p4 ∧ DataW.Trod enc P w base spare held t5 v5 d5 p5 := by
 obtain ⟨v, vs, d, ds1, p, q, hargs, rfl, rfl, hd, hr⟩ := trodAll_cons h
 obtain ⟨v1, vs1, d1, ds2, p1, q1, rfl, rfl, rfl, hd1, hr1⟩ := trodAll_cons hr
 obtain ⟨v2, vs2, d2, ds3, p2, q2, rfl, rfl, rfl, hd2, hr2⟩ := trodAll_cons hr1
 obtain ⟨v3, vs3, d3, ds4, p3, q3, rfl, rfl, rfl, hd3, hr3⟩ := trodAll_cons hr2
 obtain ⟨v4, vs4, d4, ds5, p4, q4, rfl, rfl, rfl, hd4, hr4⟩ := trodAll_cons hr3
 obtain ⟨v5, vs5, d5, ds6, p5, q5, rfl, rfl, rfl, hd5, hr5⟩ := trodAll_cons hr4
 obtain ⟨rfl, rfl, rfl⟩ := trodAll_nil hr5
 exact ⟨v, v1, v2, v3, v4, v5, d, d1, d2, d3, d4, d5, p, p1, p2, p3, p4, p5, (Array.toArray_toList (xs := args)).symm.trans (congrArg List.toArray hargs), rfl, by simp only [List.append_nil, List.append_assoc], hd, hd1, hd2, hd3, hd4, hd5⟩
theorem trodAll_mk6 {t t1 t2 t3 t4 t5 : TypeId} {v v1 v2 v3 v4 v5 : Value} {d d1 d2 d3 d4 d5 : DataW H} {p p1 p2 p3 p4 p5 : List MemPlace} (h : DataW.Trod enc P w base spare held t v d p) (h1 : DataW.Trod enc P w base spare held t1 v1 d1 p1)
  (h2 : DataW.Trod enc P w base spare held t2 v2 d2 p2) (h3 : DataW.Trod enc P w base spare held t3 v3 d3 p3) (h4 : DataW.Trod enc P w base spare held t4 v4 d4 p4) (h5 : DataW.Trod enc P w base spare held t5 v5 d5 p5) : DataW.TrodAll enc P w base spare held [t, t1, t2, t3, t4, t5] [v, v1, v2, v3, v4, v5] [d, d1, d2, d3, d4, d5] (p ++ (p1 ++ (p2 ++ (p3 ++ (p4 ++ p5))))) := ⟨p, p1 ++ (p2 ++ (p3 ++ (p4 ++ p5))), h, trodAll_mk5 h1 h2 h3 h4 h5, rfl⟩
theorem okWide_array9 {r : Reach} {b0 n : Nat} {e t : TypeId} {v : Value} (ht : P.underlying t = some (.array n e)) (h : Value.okWide P w r b0 t v) : ∃ cs, v = .agg cs ∧ cs.size = P.cellsOf t := by
 simp only [Value.okWide, ht] at h
 obtain ⟨cs, h1, h2, _⟩ := h
 exact ⟨cs, h1, h2⟩
end
/-- A struct of an int64 and a uint32, opened. -/
theorem q_cells {H : Type} {enc : TypeId × Value → H} {W : World} {m : Nat} {cs : List Value} {y : DataW H × List MemPlace} (h : DataW.trod enc Tryz.prog W 0 (fun _ => true) true m 59 cs = some y) (hc : cs.length = 2) :
  ∃ n e : Int, cs = [.int .i64 n, .int .u32 e] ∧ (-9223372036854775808 ≤ n ∧ n < 9223372036854775808) ∧ (0 ≤ e ∧ e < 4294967296) := by
 obtain ⟨zs, k2, hk2, hzy, _, hzl, hf2⟩ := DataW.trod_struct Tryz.underlying59 h
 obtain ⟨c0, c1, rfl⟩ : ∃ c0 c1, cs = [c0, c1] := by
  match cs, hc with
  | [a, b], _ => exact ⟨a, b, rfl⟩
 match zs, hzl with
 | [z0, z1], _ =>
  have q0 := hf2 0 _ rfl
  have q1 := hf2 1 _ rfl
  simp [cellsI, cellsU] at q0 q1
  obtain ⟨x2, b2, -, f2⟩ := DataW.trod_int Tryz.underlying2 q0
  obtain ⟨x3, b3, -, f3⟩ := DataW.trod_int Tryz.underlying57 q1
  simp only [List.cons.injEq, and_true] at b2 b3
  subst b2 b3
  have c2 := bounds_i64 f2
  have c3 := bounds_u32 f3
  exact ⟨x2, x3, rfl, by omega, by omega⟩
theorem cellsQ6 : Tryz.prog.cellsOf 72 = 12 := by kernel_rfl
theorem q6_of {H : Type} {enc : TypeId × Value → H} {W : World} {base : Nat} {v : Value} {d : DataW H} {p : List MemPlace} (hv : Value.okWide Tryz.prog W .any base 72 v)
  (h : DataW.Trod enc Tryz.prog W 0 (fun _ => true) true 72 v d p) : ∃ n0 e0 n1 e1 n2 e2 n3 e3 n4 e4 n5 e5 : Int, v = .agg #[.int .i64 n0, .int .u32 e0, .int .i64 n1, .int .u32 e1, .int .i64 n2, .int .u32 e2, .int .i64 n3, .int .u32 e3, .int .i64 n4, .int .u32 e4, .int .i64 n5, .int .u32 e5] ∧
   (-9223372036854775808 ≤ n0 ∧ n0 < 9223372036854775808) ∧ (0 ≤ e0 ∧ e0 < 4294967296) ∧ (-9223372036854775808 ≤ n1 ∧ n1 < 9223372036854775808) ∧ (0 ≤ e1 ∧ e1 < 4294967296) ∧ (-9223372036854775808 ≤ n2 ∧ n2 < 9223372036854775808) ∧ (0 ≤ e2 ∧ e2 < 4294967296) ∧
   (-9223372036854775808 ≤ n3 ∧ n3 < 9223372036854775808) ∧ (0 ≤ e3 ∧ e3 < 4294967296) ∧ (-9223372036854775808 ≤ n4 ∧ n4 < 9223372036854775808) ∧ (0 ≤ e4 ∧ e4 < 4294967296) ∧ (-9223372036854775808 ≤ n5 ∧ n5 < 9223372036854775808) ∧ (0 ≤ e5 ∧ e5 < 4294967296) := by
 obtain ⟨⟨l⟩, rfl, hs⟩ := okWide_array9 Tryz.underlying72 hv
 rw [cellsQ6] at hs
 obtain ⟨fuel, hf⟩ := h
 obtain ⟨xs, m, _, _, _, hn, hel⟩ := DataW.trod_array Tryz.underlying72 hf
 have each : ∀ i, i < 6 → ∃ n e : Int, (l.drop (i * 2)).take 2 = [.int .i64 n, .int .u32 e] ∧ (-9223372036854775808 ≤ n ∧ n < 9223372036854775808) ∧ (0 ≤ e ∧ e < 4294967296) := fun i hi => by
  have h1 := hel i hi
  rw [List.getElem?_eq_getElem (by omega), cellsQ] at h1
  exact q_cells (show DataW.trod enc Tryz.prog W 0 (fun _ => true) true m 59 ((l.drop (i * 2)).take 2) = _ from h1) (by
   rw [List.length_take, List.length_drop]
   have : l.length = 12 := hs
   omega)
 match l, hs with
 | [c0, c1, c2, c3, c4, c5, c6, c7, c8, c9, ca, cb], _ =>
  obtain ⟨n0, e0, h0, b0, g0⟩ := each 0 (by omega)
  obtain ⟨n1, e1, h1, b1, g1⟩ := each 1 (by omega)
  obtain ⟨n2, e2, h2, b2, g2⟩ := each 2 (by omega)
  obtain ⟨n3, e3, h3, b3, g3⟩ := each 3 (by omega)
  obtain ⟨n4, e4, h4, b4, g4⟩ := each 4 (by omega)
  obtain ⟨n5, e5, h5, b5, g5⟩ := each 5 (by omega)
  simp at h0 h1 h2 h3 h4 h5
  obtain ⟨rfl, rfl⟩ := h0
  obtain ⟨rfl, rfl⟩ := h1
  obtain ⟨rfl, rfl⟩ := h2
  obtain ⟨rfl, rfl⟩ := h3
  obtain ⟨rfl, rfl⟩ := h4
  obtain ⟨rfl, rfl⟩ := h5
  exact ⟨n0, e0, n1, e1, n2, e2, n3, e3, n4, e4, n5, e5, rfl, b0, g0, b1, g1, b2, g2, b3, g3, b4, g4, b5, g5⟩
end Go.Proofs.YtkpghlnegbimdaaGreatDoor
namespace Go.Proofs.YtkpghlnegbimdaaGreatDoor
open Go.RowKit
attribute [local irreducible] lo hs sm s64 c64 d64 b64 mh ml pd pc qd qc val hiB str cmpI srD lz nb zl zh zs fe klT ordZ
def setCells (c : List Value) : Nat → List Value → List Value
 | _, [] => c
 | i, v :: vs => setCells (c.set i v) (i + 1) vs
theorem setAll_hdn {k : Nat} : ∀ (c : List Value) (o : Nat) (W : World) (c0 : List Value), o + c.length ≤ c0.length → Hd W k c0 → Hd (setAll W k o c) k (setCells c0 o c)
 | [], _, _, _, _, h => h
 | v :: vs, o, W, c0, hl, h => setAll_hdn vs (o + 1) _ (c0.set o v) (by rw [List.length_set]; rw [List.length_cons] at hl; omega) (hd_set h o v (by rw [List.length_cons] at hl; omega))
theorem GL.putn {w0 W : World} {L : List (Nat × List Value)} (h : GL w0 W L) (i k : Nat) (c0 : List Value) (hi : L[i]? = some (k, c0)) (o : Nat) (c : List Value) (hc : o + c.length ≤ c0.length) :
  GL w0 (setAll W k o c) (L.set i (k, setCells c0 o c)) := by
 have hu := setAll_upd k c o W
 obtain ⟨hil, he⟩ := List.getElem?_eq_some_iff.1 hi
 have hm : (k, c0) ∈ L := he ▸ List.getElem_mem hil
 have hk := h.all _ hm
 have hd := setAll_hdn c o W c0 hc hk.2
 have hmap : (L.set i (k, setCells c0 o c)).map (·.1) = L.map (·.1) := by
  rw [List.map_set]
  apply List.ext_getElem?
  intro j
  by_cases e : i = j
  ·subst e
   rw [List.getElem?_set_self (by simpa using hil), List.getElem?_map, hi]; rfl
  ·rw [List.getElem?_set_ne e]
 refine ⟨h.bl.trans (hu.below hk.1), fun p hp => ?_, by rw [hmap]; exact h.nd⟩
 obtain ⟨j, hj, hpj⟩ := List.getElem_of_mem hp
 by_cases e : i = j
 ·subst e
  rw [List.getElem_set_self] at hpj
  subst hpj
  exact ⟨hk.1, hd⟩
 ·rw [List.getElem_set_ne e] at hpj
  rw [List.length_set] at hj
  have hp' : p ∈ L := hpj ▸ List.getElem_mem hj
  have hne : p.1 ≠ k := fun e2 => by
   have h1 : (L.map (·.1))[i]? = some k := by rw [List.getElem?_map, hi]; rfl
   have h2 : (L.map (·.1))[j]? = some k := by rw [List.getElem?_map, List.getElem?_eq_getElem hj, hpj]; simp [e2]
   exact e ((List.getElem?_inj (by simpa using hil) h.nd).1 (h1.trans h2.symm))
  exact ⟨(h.all p hp').1, hu.hd hne (h.all p hp').2⟩
theorem slq_of3 {w : World} {g c : Nat} {p q r : Rat} (h : Hd w g [.int .u64 ((zl p.num : Nat) : Int), .string (zh p.num), .bool (zs p.num), .int .u64 ((lo (fe p) : Nat) : Int), .string (hs (fe p)), .int .u64 ((zl q.num : Nat) : Int), .string (zh q.num), .bool (zs q.num), .int .u64 ((lo (fe q) : Nat) : Int), .string (hs (fe q)), .int .u64 ((zl r.num : Nat) : Int), .string (zh r.num), .bool (zs r.num), .int .u64 ((lo (fe r) : Nat) : Int), .string (hs (fe r))]) : SlQ w (.slice (some ⟨g, 0, none⟩) 3 c) [p, q, r] :=
 .inr ⟨g, c, rfl, ⟨fun i hi => by
  rcases (show i = 0 ∨ i = 1 ∨ i = 2 by simp at hi; omega) with rfl | rfl | rfl
  ·exact ⟨h.cell 0 (by simp), h.cell 1 (by simp), h.cell 2 (by simp), h.cell 3 (by simp), h.cell 4 (by simp)⟩
  ·exact ⟨h.cell 5 (by simp), h.cell 6 (by simp), h.cell 7 (by simp), h.cell 8 (by simp), h.cell 9 (by simp)⟩
  ·exact ⟨h.cell 10 (by simp), h.cell 11 (by simp), h.cell 12 (by simp), h.cell 13 (by simp), h.cell 14 (by simp)⟩, h.lt⟩⟩
theorem pshifts_l (al : Option Addr) (nl cl : Nat) (nx dx ny dy j0n j0d j1n j1d j2n j2d j3n j3d j4n j4d j5n j5d nu du nv dv : Int)  (KT : World → Prop) (hKT : Keeps KT) (HW : ∀ w, KT w → Calls Tryz.prog 8 #[] w fun xe w' => xe = .returned (.bool true) ∧ Below w.heap.size w w') (l_nl : decide ((6 : Int) < ((nl : Nat) : Int)) = true) (k_nl : decide (6 < nl) = true) (w : World) (kKT : KT w) :
  Calls Tryz.prog 6 #[.slice al nl cl, .agg #[.int .i64 nx, .int .u32 dx], .agg #[.int .i64 ny, .int .u32 dy], .agg #[.int .i64 j0n, .int .u32 j0d, .int .i64 j1n, .int .u32 j1d, .int .i64 j2n, .int .u32 j2d, .int .i64 j3n, .int .u32 j3d, .int .i64 j4n, .int .u32 j4d, .int .i64 j5n, .int .u32 j5d], .agg #[.int .i64 nu, .int .u32 du], .agg #[.int .i64 nv, .int .u32 dv]] w fun e w' => e = .returned (.bool true) ∧ Below w.heap.size w w' := by
 replace hKT := Lib.hid hKT
 replace HW := Lib.hid HW
 have hL0 : GL w w [] := GL.start w
 have hT : PTs w [] := PTs.nil w
 replace hT := (((((hT.new (.cells #[.int .i64 nx, .int .u32 dx] 59)).new (.cells #[.int .i64 ny, .int .u32 dy] 59)).new (.cells #[.int .i64 j0n, .int .u32 j0d, .int .i64 j1n, .int .u32 j1d, .int .i64 j2n, .int .u32 j2d, .int .i64 j3n, .int .u32 j3d, .int .i64 j4n, .int .u32 j4d, .int .i64 j5n, .int .u32 j5d] 72)).new (.cells #[.int .i64 nu, .int .u32 du] 59)).new (.cells #[.int .i64 nv, .int .u32 dv] 59))
 replace hL0 := (((((hL0.new rfl [.int .i64 nx, .int .u32 dx] 59).new (K := w.heap.size + 1) (szA _ _) [.int .i64 ny, .int .u32 dy] 59).new (K := w.heap.size + 1 + 1) (by simp only [World.size_alloc]) [.int .i64 j0n, .int .u32 j0d, .int .i64 j1n, .int .u32 j1d, .int .i64 j2n, .int .u32 j2d, .int .i64 j3n, .int .u32 j3d, .int .i64 j4n, .int .u32 j4d, .int .i64 j5n, .int .u32 j5d] 72).new (K := w.heap.size + 1 + 1 + 1) (by simp only [World.size_alloc]) [.int .i64 nu, .int .u32 du] 59).new (K := w.heap.size + 1 + 1 + 1 + 1) (by simp only [World.size_alloc]) [.int .i64 nv, .int .u32 dv] 59)
 generalize hweq : (((((w.alloc (.cells #[.int .i64 nx, .int .u32 dx] 59)).alloc (.cells #[.int .i64 ny, .int .u32 dy] 59)).alloc (.cells #[.int .i64 j0n, .int .u32 j0d, .int .i64 j1n, .int .u32 j1d, .int .i64 j2n, .int .u32 j2d, .int .i64 j3n, .int .u32 j3d, .int .i64 j4n, .int .u32 j4d, .int .i64 j5n, .int .u32 j5d] 72)).alloc (.cells #[.int .i64 nu, .int .u32 du] 59)).alloc (.cells #[.int .i64 nv, .int .u32 dv] 59)) = x1 at hL0 hT
 go_enter Tryz.func6, Tryz.ntmps6
 go_wp2_with fail
 with_reducible refine Calls.mono (HW.out _ (hKT.out.at hL0.bl kKT)) ?_
 rintro e x2 ⟨rfl, hb⟩
 replace hL0 := hL0.call hb
 replace hT := hT.call hb
 clear hb hweq
 go_wp2_with fail
 exact bodyPost_ret (v := .bool true) (by simp [results, Tryz.results6, go_sem]) rfl ⟨rfl, hL0.bl⟩
theorem pshifts_w (al : Option Addr) (nl cl : Nat) (nx dx ny dy j0n j0d j1n j1d j2n j2d j3n j3d j4n j4d j5n j5d nu du nv dv : Int) (pa pq pz px pw py r1 r2 r3 r4 s1 s2 s3 s4 mv pe pi : List TI) (dq dp : Int) (xa xb ka kb kc kd ke kf uc ud m1 m2 m3 m4 m5 m6 m7 m8 tx ty vq c1 c0 a1 a2 : Rat) (KL : World → Prop) (hKL : Keeps KL) (HMa : ∀ (w : World), KL w → Calls Tryz.prog 22 #[.slice al nl cl, .int .i64 4] w fun e w' => ∃ pv, e = .returned pv ∧ PT w' pv pa ∧ Below w.heap.size w w') (HQx : ∀ w, Calls Tryz.prog 26 #[.agg #[.int .i64 nx, .int .u32 dx]] w fun xe w' => xe = .returned (fracV xa) ∧ Below w.heap.size w w') (HQy : ∀ w, Calls Tryz.prog 26 #[.agg #[.int .i64 ny, .int .u32 dy]] w fun xe w' => xe = .returned (fracV xb) ∧ Below w.heap.size w w') (HQ0 : ∀ w, Calls Tryz.prog 26 #[.agg #[.int .i64 j0n, .int .u32 j0d]] w fun xe w' => xe = .returned (fracV ka) ∧ Below w.heap.size w w') (HQ1 : ∀ w, Calls Tryz.prog 26 #[.agg #[.int .i64 j1n, .int .u32 j1d]] w fun xe w' => xe = .returned (fracV kb) ∧ Below w.heap.size w w') (HQ2 : ∀ w, Calls Tryz.prog 26 #[.agg #[.int .i64 j2n, .int .u32 j2d]] w fun xe w' => xe = .returned (fracV kc) ∧ Below w.heap.size w w') (HQ3 : ∀ w, Calls Tryz.prog 26 #[.agg #[.int .i64 j3n, .int .u32 j3d]] w fun xe w' => xe = .returned (fracV kd) ∧ Below w.heap.size w w') (HQ4 : ∀ w, Calls Tryz.prog 26 #[.agg #[.int .i64 j4n, .int .u32 j4d]] w fun xe w' => xe = .returned (fracV ke) ∧ Below w.heap.size w w') (HQ5 : ∀ w, Calls Tryz.prog 26 #[.agg #[.int .i64 j5n, .int .u32 j5d]] w fun xe w' => xe = .returned (fracV kf) ∧ Below w.heap.size w w') (HQu : ∀ w, Calls Tryz.prog 26 #[.agg #[.int .i64 nu, .int .u32 du]] w fun xe w' => xe = .returned (fracV uc) ∧ Below w.heap.size w w') (HQv : ∀ w, Calls Tryz.prog 26 #[.agg #[.int .i64 nv, .int .u32 dv]] w fun xe w' => xe = .returned (fracV ud) ∧ Below w.heap.size w w') (Sh1 : ∀ (p0 : Value) (w : World), PT w p0 pa → Calls Tryz.prog 37 #[p0, fracV ka, fracV kb, fracV kc, fracV kd, fracV ke, fracV kf] w fun e w' => ∃ pv, e = .returned pv ∧ PT w' pv pq ∧ Below w.heap.size w w') (M1 : ∀ w, Calls Tryz.prog 28 #[fracV ka, fracV xa] w fun xe w' => xe = .returned (fracV m1) ∧ Below w.heap.size w w') (M2 : ∀ w, Calls Tryz.prog 28 #[fracV kb, fracV xb] w fun xe w' => xe = .returned (fracV m2) ∧ Below w.heap.size w w') (U1 : ∀ (p0 : Value) (w : World), SlQ w p0 ([m1, m2, kc]) → Calls Tryz.prog 38 #[p0] w fun e w' => e = .returned (fracV tx) ∧ Below w.heap.size w w') (M3 : ∀ w, Calls Tryz.prog 28 #[fracV kd, fracV xa] w fun xe w' => xe = .returned (fracV m3) ∧ Below w.heap.size w w') (M4 : ∀ w, Calls Tryz.prog 28 #[fracV ke, fracV xb] w fun xe w' => xe = .returned (fracV m4) ∧ Below w.heap.size w w') (U2 : ∀ (p0 : Value) (w : World), SlQ w p0 ([m3, m4, kf]) → Calls Tryz.prog 38 #[p0] w fun e w' => e = .returned (fracV ty) ∧ Below w.heap.size w w') (T1 : ∀ (p0 : Value) (w : World), PT w p0 pq → Calls Tryz.prog 27 #[p0, fracV xa, fracV xb] w fun e w' => e = .returned (fracV vq) ∧ Below w.heap.size w w') (T2 : ∀ (p0 : Value) (w : World), PT w p0 pa → Calls Tryz.prog 27 #[p0, fracV tx, fracV ty] w fun e w' => e = .returned (fracV vq) ∧ Below w.heap.size w w') (D1 : ∀ (p0 : Value) (w : World), PT w p0 pq → Calls Tryz.prog 15 #[p0] w fun e w' => e = .returned (.int .i64 dq) ∧ Below w.heap.size w w') (D2 : ∀ (p0 : Value) (w : World), PT w p0 pa → Calls Tryz.prog 15 #[p0] w fun e w' => e = .returned (.int .i64 dp) ∧ Below w.heap.size w w') (Dx1 : ∀ (p0 : Value) (w : World), PT w p0 pa → Calls Tryz.prog 32 #[p0] w fun e w' => ∃ pv, e = .returned pv ∧ PT w' pv pz ∧ Below w.heap.size w w') (Sh2 : ∀ (p0 : Value) (w : World), PT w p0 pz → Calls Tryz.prog 37 #[p0, fracV ka, fracV kb, fracV kc, fracV kd, fracV ke, fracV kf] w fun e w' => ∃ pv, e = .returned pv ∧ PT w' pv px ∧ Below w.heap.size w w') (Dy1 : ∀ (p0 : Value) (w : World), PT w p0 pa → Calls Tryz.prog 33 #[p0] w fun e w' => ∃ pv, e = .returned pv ∧ PT w' pv pw ∧ Below w.heap.size w w') (Sh3 : ∀ (p0 : Value) (w : World), PT w p0 pw → Calls Tryz.prog 37 #[p0, fracV ka, fracV kb, fracV kc, fracV kd, fracV ke, fracV kf] w fun e w' => ∃ pv, e = .returned pv ∧ PT w' pv py ∧ Below w.heap.size w w') (Dx2 : ∀ (p0 : Value) (w : World), PT w p0 pq → Calls Tryz.prog 32 #[p0] w fun e w' => ∃ pv, e = .returned pv ∧ PT w' pv r1 ∧ Below w.heap.size w w') (C1 : ∀ (p0 : Value) (w : World), PT w p0 px → Calls Tryz.prog 39 #[p0, fracV ka] w fun e w' => ∃ pv, e = .returned pv ∧ PT w' pv s1 ∧ Below w.heap.size w w') (C2 : ∀ (p0 : Value) (w : World), PT w p0 py → Calls Tryz.prog 39 #[p0, fracV kd] w fun e w' => ∃ pv, e = .returned pv ∧ PT w' pv s2 ∧ Below w.heap.size w w') (A1 : ∀ (p0 p1 : Value) (w : World), PT w p0 s1 → PT w p1 s2 → Calls Tryz.prog 24 #[p0, p1] w fun e w' => ∃ pv, e = .returned pv ∧ PT w' pv r2 ∧ Below w.heap.size w w') (S1 : ∀ (p0 p1 : Value) (w : World), PT w p0 r1 → PT w p1 r2 → Calls Tryz.prog 17 #[p0, p1] w fun e w' => e = .returned (.bool true) ∧ Below w.heap.size w w') (Dy2 : ∀ (p0 : Value) (w : World), PT w p0 pq → Calls Tryz.prog 33 #[p0] w fun e w' => ∃ pv, e = .returned pv ∧ PT w' pv r3 ∧ Below w.heap.size w w') (C3 : ∀ (p0 : Value) (w : World), PT w p0 px → Calls Tryz.prog 39 #[p0, fracV kb] w fun e w' => ∃ pv, e = .returned pv ∧ PT w' pv s3 ∧ Below w.heap.size w w') (C4 : ∀ (p0 : Value) (w : World), PT w p0 py → Calls Tryz.prog 39 #[p0, fracV ke] w fun e w' => ∃ pv, e = .returned pv ∧ PT w' pv s4 ∧ Below w.heap.size w w') (A2 : ∀ (p0 p1 : Value) (w : World), PT w p0 s3 → PT w p1 s4 → Calls Tryz.prog 24 #[p0, p1] w fun e w' => ∃ pv, e = .returned pv ∧ PT w' pv r4 ∧ Below w.heap.size w w') (S2 : ∀ (p0 p1 : Value) (w : World), PT w p0 r3 → PT w p1 r4 → Calls Tryz.prog 17 #[p0, p1] w fun e w' => e = .returned (.bool true) ∧ Below w.heap.size w w') (I1 : ∀ w, Calls Tryz.prog 35 #[.int .i64 1] w fun xe w' => xe = .returned (fracV c1) ∧ Below w.heap.size w w') (I0 : ∀ w, Calls Tryz.prog 35 #[.int .i64 0] w fun xe w' => xe = .returned (fracV c0) ∧ Below w.heap.size w w') (Sh4 : ∀ (p0 : Value) (w : World), PT w p0 pq → Calls Tryz.prog 37 #[p0, fracV c1, fracV c0, fracV uc, fracV c0, fracV c1, fracV ud] w fun e w' => ∃ pv, e = .returned pv ∧ PT w' pv mv ∧ Below w.heap.size w w') (M5 : ∀ w, Calls Tryz.prog 28 #[fracV ka, fracV uc] w fun xe w' => xe = .returned (fracV m5) ∧ Below w.heap.size w w') (M6 : ∀ w, Calls Tryz.prog 28 #[fracV kb, fracV ud] w fun xe w' => xe = .returned (fracV m6) ∧ Below w.heap.size w w') (U3 : ∀ (p0 : Value) (w : World), SlQ w p0 ([m5, m6, kc]) → Calls Tryz.prog 38 #[p0] w fun e w' => e = .returned (fracV a1) ∧ Below w.heap.size w w') (M7 : ∀ w, Calls Tryz.prog 28 #[fracV kd, fracV uc] w fun xe w' => xe = .returned (fracV m7) ∧ Below w.heap.size w w') (M8 : ∀ w, Calls Tryz.prog 28 #[fracV ke, fracV ud] w fun xe w' => xe = .returned (fracV m8) ∧ Below w.heap.size w w') (U4 : ∀ (p0 : Value) (w : World), SlQ w p0 ([m7, m8, kf]) → Calls Tryz.prog 38 #[p0] w fun e w' => e = .returned (fracV a2) ∧ Below w.heap.size w w') (Sh5 : ∀ (p0 : Value) (w : World), PT w p0 pa → Calls Tryz.prog 37 #[p0, fracV ka, fracV kb, fracV a1, fracV kd, fracV ke, fracV a2] w fun e w' => ∃ pv, e = .returned pv ∧ PT w' pv pe ∧ Below w.heap.size w w') (S3 : ∀ (p0 p1 : Value) (w : World), PT w p0 mv → PT w p1 pe → Calls Tryz.prog 17 #[p0, p1] w fun e w' => e = .returned (.bool true) ∧ Below w.heap.size w w') (Sh6 : ∀ (p0 : Value) (w : World), PT w p0 pa → Calls Tryz.prog 37 #[p0, fracV c1, fracV c0, fracV c0, fracV c0, fracV c1, fracV c0] w fun e w' => ∃ pv, e = .returned pv ∧ PT w' pv pi ∧ Below w.heap.size w w') (S4 : ∀ (p0 p1 : Value) (w : World), PT w p0 pi → PT w p1 pa → Calls Tryz.prog 17 #[p0, p1] w fun e w' => e = .returned (.bool true) ∧ Below w.heap.size w w') (KT : World → Prop) (hKT : Keeps KT) (HW : ∀ w, KT w → Calls Tryz.prog 8 #[] w fun xe w' => xe = .returned (.bool true) ∧ Below w.heap.size w w') (l_nl : decide ((6 : Int) < ((nl : Nat) : Int)) = false) (k_nl : decide (6 < nl) = false) (hdg : decide (dp < dq) = false) (w : World) (kKL : KL w) (kKT : KT w) :
  Calls Tryz.prog 6 #[.slice al nl cl, .agg #[.int .i64 nx, .int .u32 dx], .agg #[.int .i64 ny, .int .u32 dy], .agg #[.int .i64 j0n, .int .u32 j0d, .int .i64 j1n, .int .u32 j1d, .int .i64 j2n, .int .u32 j2d, .int .i64 j3n, .int .u32 j3d, .int .i64 j4n, .int .u32 j4d, .int .i64 j5n, .int .u32 j5d], .agg #[.int .i64 nu, .int .u32 du], .agg #[.int .i64 nv, .int .u32 dv]] w fun e w' => e = .returned (.bool true) ∧ Below w.heap.size w w' := by
 replace hKL := Lib.hid hKL
 replace HMa := Lib.hid HMa
 replace HQx := Lib.hid HQx
 replace HQy := Lib.hid HQy
 replace HQ0 := Lib.hid HQ0
 replace HQ1 := Lib.hid HQ1
 replace HQ2 := Lib.hid HQ2
 replace HQ3 := Lib.hid HQ3
 replace HQ4 := Lib.hid HQ4
 replace HQ5 := Lib.hid HQ5
 replace HQu := Lib.hid HQu
 replace HQv := Lib.hid HQv
 replace Sh1 := Lib.hid Sh1
 replace M1 := Lib.hid M1
 replace M2 := Lib.hid M2
 replace U1 := Lib.hid U1
 replace M3 := Lib.hid M3
 replace M4 := Lib.hid M4
 replace U2 := Lib.hid U2
 replace T1 := Lib.hid T1
 replace T2 := Lib.hid T2
 replace D1 := Lib.hid D1
 replace D2 := Lib.hid D2
 replace Dx1 := Lib.hid Dx1
 replace Sh2 := Lib.hid Sh2
 replace Dy1 := Lib.hid Dy1
 replace Sh3 := Lib.hid Sh3
 replace Dx2 := Lib.hid Dx2
 replace C1 := Lib.hid C1
 replace C2 := Lib.hid C2
 replace A1 := Lib.hid A1
 replace S1 := Lib.hid S1
 replace Dy2 := Lib.hid Dy2
 replace C3 := Lib.hid C3
 replace C4 := Lib.hid C4
 replace A2 := Lib.hid A2
 replace S2 := Lib.hid S2
 replace I1 := Lib.hid I1
 replace I0 := Lib.hid I0
 replace Sh4 := Lib.hid Sh4
 replace M5 := Lib.hid M5
 replace M6 := Lib.hid M6
 replace U3 := Lib.hid U3
 replace M7 := Lib.hid M7
 replace M8 := Lib.hid M8
 replace U4 := Lib.hid U4
 replace Sh5 := Lib.hid Sh5
 replace S3 := Lib.hid S3
 replace Sh6 := Lib.hid Sh6
 replace S4 := Lib.hid S4
 replace hKT := Lib.hid hKT
 replace HW := Lib.hid HW
 have hL0 : GL w w [] := GL.start w
 have hT : PTs w [] := PTs.nil w
 have G9 : dq ≤ dp := by have := of_decide_eq_false hdg; omega
 replace hT := (((((hT.new (.cells #[.int .i64 nx, .int .u32 dx] 59)).new (.cells #[.int .i64 ny, .int .u32 dy] 59)).new (.cells #[.int .i64 j0n, .int .u32 j0d, .int .i64 j1n, .int .u32 j1d, .int .i64 j2n, .int .u32 j2d, .int .i64 j3n, .int .u32 j3d, .int .i64 j4n, .int .u32 j4d, .int .i64 j5n, .int .u32 j5d] 72)).new (.cells #[.int .i64 nu, .int .u32 du] 59)).new (.cells #[.int .i64 nv, .int .u32 dv] 59))
 replace hL0 := (((((hL0.new rfl [.int .i64 nx, .int .u32 dx] 59).new (K := w.heap.size + 1) (szA _ _) [.int .i64 ny, .int .u32 dy] 59).new (K := w.heap.size + 1 + 1) (by simp only [World.size_alloc]) [.int .i64 j0n, .int .u32 j0d, .int .i64 j1n, .int .u32 j1d, .int .i64 j2n, .int .u32 j2d, .int .i64 j3n, .int .u32 j3d, .int .i64 j4n, .int .u32 j4d, .int .i64 j5n, .int .u32 j5d] 72).new (K := w.heap.size + 1 + 1 + 1) (by simp only [World.size_alloc]) [.int .i64 nu, .int .u32 du] 59).new (K := w.heap.size + 1 + 1 + 1 + 1) (by simp only [World.size_alloc]) [.int .i64 nv, .int .u32 dv] 59)
 generalize hweq : (((((w.alloc (.cells #[.int .i64 nx, .int .u32 dx] 59)).alloc (.cells #[.int .i64 ny, .int .u32 dy] 59)).alloc (.cells #[.int .i64 j0n, .int .u32 j0d, .int .i64 j1n, .int .u32 j1d, .int .i64 j2n, .int .u32 j2d, .int .i64 j3n, .int .u32 j3d, .int .i64 j4n, .int .u32 j4d, .int .i64 j5n, .int .u32 j5d] 72)).alloc (.cells #[.int .i64 nu, .int .u32 du] 59)).alloc (.cells #[.int .i64 nv, .int .u32 dv] 59)) = x1 at hL0 hT
 go_enter Tryz.func6, Tryz.ntmps6
 go_wp2_with fail
 with_reducible refine Calls.mono (HMa.out _ (hKL.out.at (hL0.bl) kKL)) ?_
 rintro e x2 ⟨v0, rfl, q0, hb⟩
 replace hL0 := hL0.call hb
 replace hT := hT.call hb
 clear hb hweq
 obtain ⟨g1, d1, g1c, rfl, -⟩ := pt_form q0
 replace hT := hT.cons q0
 clear q0
 replace hT := (hT.new (.cells #[.int .u64 0, .string ⟨#[]⟩, .bool false, .int .u64 0, .string ⟨#[]⟩, .int .u64 0, .string ⟨#[]⟩, .bool false, .int .u64 0, .string ⟨#[]⟩, .int .u64 0, .string ⟨#[]⟩, .bool false, .int .u64 0, .string ⟨#[]⟩, .int .u64 0, .string ⟨#[]⟩, .bool false, .int .u64 0, .string ⟨#[]⟩, .int .u64 0, .string ⟨#[]⟩, .bool false, .int .u64 0, .string ⟨#[]⟩, .int .u64 0, .string ⟨#[]⟩, .bool false, .int .u64 0, .string ⟨#[]⟩] 73))
 replace hL0 := (hL0.new rfl [.int .u64 0, .string ⟨#[]⟩, .bool false, .int .u64 0, .string ⟨#[]⟩, .int .u64 0, .string ⟨#[]⟩, .bool false, .int .u64 0, .string ⟨#[]⟩, .int .u64 0, .string ⟨#[]⟩, .bool false, .int .u64 0, .string ⟨#[]⟩, .int .u64 0, .string ⟨#[]⟩, .bool false, .int .u64 0, .string ⟨#[]⟩, .int .u64 0, .string ⟨#[]⟩, .bool false, .int .u64 0, .string ⟨#[]⟩, .int .u64 0, .string ⟨#[]⟩, .bool false, .int .u64 0, .string ⟨#[]⟩] 73)
 generalize hweq : (x2.alloc (.cells #[.int .u64 0, .string ⟨#[]⟩, .bool false, .int .u64 0, .string ⟨#[]⟩, .int .u64 0, .string ⟨#[]⟩, .bool false, .int .u64 0, .string ⟨#[]⟩, .int .u64 0, .string ⟨#[]⟩, .bool false, .int .u64 0, .string ⟨#[]⟩, .int .u64 0, .string ⟨#[]⟩, .bool false, .int .u64 0, .string ⟨#[]⟩, .int .u64 0, .string ⟨#[]⟩, .bool false, .int .u64 0, .string ⟨#[]⟩, .int .u64 0, .string ⟨#[]⟩, .bool false, .int .u64 0, .string ⟨#[]⟩] 73)) = x3 at hL0 hT
 go_wp2_with fail
 clear hweq
 go_loopg [15] 6 (fun gk iv wr => ∃ (i : Nat) (LI : List (Nat × List Value)), i + gk = 6 ∧ iv = .int .i64 (i : Int) ∧ GL w wr LI ∧ PTs wr [(.slice g1 d1 g1c, pa)] ∧ ((i = 0 ∧ LI = [(x2.heap.size, [.int .u64 0, .string ⟨#[]⟩, .bool false, .int .u64 0, .string ⟨#[]⟩, .int .u64 0, .string ⟨#[]⟩, .bool false, .int .u64 0, .string ⟨#[]⟩, .int .u64 0, .string ⟨#[]⟩, .bool false, .int .u64 0, .string ⟨#[]⟩, .int .u64 0, .string ⟨#[]⟩, .bool false, .int .u64 0, .string ⟨#[]⟩, .int .u64 0, .string ⟨#[]⟩, .bool false, .int .u64 0, .string ⟨#[]⟩, .int .u64 0, .string ⟨#[]⟩, .bool false, .int .u64 0, .string ⟨#[]⟩]), (w.heap.size + 1 + 1 + 1 + 1, [.int .i64 nv, .int .u32 dv]), (w.heap.size + 1 + 1 + 1, [.int .i64 nu, .int .u32 du]), (w.heap.size + 1 + 1, [.int .i64 j0n, .int .u32 j0d, .int .i64 j1n, .int .u32 j1d, .int .i64 j2n, .int .u32 j2d, .int .i64 j3n, .int .u32 j3d, .int .i64 j4n, .int .u32 j4d, .int .i64 j5n, .int .u32 j5d]), (w.heap.size + 1, [.int .i64 ny, .int .u32 dy]), (w.heap.size, [.int .i64 nx, .int .u32 dx])]) ∨ (i = 1 ∧ LI = [(x2.heap.size, [.int .u64 ((zl ka.num : Nat) : Int), .string (zh ka.num), .bool (zs ka.num), .int .u64 ((lo (fe ka) : Nat) : Int), .string (hs (fe ka)), .int .u64 0, .string ⟨#[]⟩, .bool false, .int .u64 0, .string ⟨#[]⟩, .int .u64 0, .string ⟨#[]⟩, .bool false, .int .u64 0, .string ⟨#[]⟩, .int .u64 0, .string ⟨#[]⟩, .bool false, .int .u64 0, .string ⟨#[]⟩, .int .u64 0, .string ⟨#[]⟩, .bool false, .int .u64 0, .string ⟨#[]⟩, .int .u64 0, .string ⟨#[]⟩, .bool false, .int .u64 0, .string ⟨#[]⟩]), (w.heap.size + 1 + 1 + 1 + 1, [.int .i64 nv, .int .u32 dv]), (w.heap.size + 1 + 1 + 1, [.int .i64 nu, .int .u32 du]), (w.heap.size + 1 + 1, [.int .i64 j0n, .int .u32 j0d, .int .i64 j1n, .int .u32 j1d, .int .i64 j2n, .int .u32 j2d, .int .i64 j3n, .int .u32 j3d, .int .i64 j4n, .int .u32 j4d, .int .i64 j5n, .int .u32 j5d]), (w.heap.size + 1, [.int .i64 ny, .int .u32 dy]), (w.heap.size, [.int .i64 nx, .int .u32 dx])]) ∨ (i = 2 ∧ LI = [(x2.heap.size, [.int .u64 ((zl ka.num : Nat) : Int), .string (zh ka.num), .bool (zs ka.num), .int .u64 ((lo (fe ka) : Nat) : Int), .string (hs (fe ka)), .int .u64 ((zl kb.num : Nat) : Int), .string (zh kb.num), .bool (zs kb.num), .int .u64 ((lo (fe kb) : Nat) : Int), .string (hs (fe kb)), .int .u64 0, .string ⟨#[]⟩, .bool false, .int .u64 0, .string ⟨#[]⟩, .int .u64 0, .string ⟨#[]⟩, .bool false, .int .u64 0, .string ⟨#[]⟩, .int .u64 0, .string ⟨#[]⟩, .bool false, .int .u64 0, .string ⟨#[]⟩, .int .u64 0, .string ⟨#[]⟩, .bool false, .int .u64 0, .string ⟨#[]⟩]), (w.heap.size + 1 + 1 + 1 + 1, [.int .i64 nv, .int .u32 dv]), (w.heap.size + 1 + 1 + 1, [.int .i64 nu, .int .u32 du]), (w.heap.size + 1 + 1, [.int .i64 j0n, .int .u32 j0d, .int .i64 j1n, .int .u32 j1d, .int .i64 j2n, .int .u32 j2d, .int .i64 j3n, .int .u32 j3d, .int .i64 j4n, .int .u32 j4d, .int .i64 j5n, .int .u32 j5d]), (w.heap.size + 1, [.int .i64 ny, .int .u32 dy]), (w.heap.size, [.int .i64 nx, .int .u32 dx])]) ∨ (i = 3 ∧ LI = [(x2.heap.size, [.int .u64 ((zl ka.num : Nat) : Int), .string (zh ka.num), .bool (zs ka.num), .int .u64 ((lo (fe ka) : Nat) : Int), .string (hs (fe ka)), .int .u64 ((zl kb.num : Nat) : Int), .string (zh kb.num), .bool (zs kb.num), .int .u64 ((lo (fe kb) : Nat) : Int), .string (hs (fe kb)), .int .u64 ((zl kc.num : Nat) : Int), .string (zh kc.num), .bool (zs kc.num), .int .u64 ((lo (fe kc) : Nat) : Int), .string (hs (fe kc)), .int .u64 0, .string ⟨#[]⟩, .bool false, .int .u64 0, .string ⟨#[]⟩, .int .u64 0, .string ⟨#[]⟩, .bool false, .int .u64 0, .string ⟨#[]⟩, .int .u64 0, .string ⟨#[]⟩, .bool false, .int .u64 0, .string ⟨#[]⟩]), (w.heap.size + 1 + 1 + 1 + 1, [.int .i64 nv, .int .u32 dv]), (w.heap.size + 1 + 1 + 1, [.int .i64 nu, .int .u32 du]), (w.heap.size + 1 + 1, [.int .i64 j0n, .int .u32 j0d, .int .i64 j1n, .int .u32 j1d, .int .i64 j2n, .int .u32 j2d, .int .i64 j3n, .int .u32 j3d, .int .i64 j4n, .int .u32 j4d, .int .i64 j5n, .int .u32 j5d]), (w.heap.size + 1, [.int .i64 ny, .int .u32 dy]), (w.heap.size, [.int .i64 nx, .int .u32 dx])]) ∨ (i = 4 ∧ LI = [(x2.heap.size, [.int .u64 ((zl ka.num : Nat) : Int), .string (zh ka.num), .bool (zs ka.num), .int .u64 ((lo (fe ka) : Nat) : Int), .string (hs (fe ka)), .int .u64 ((zl kb.num : Nat) : Int), .string (zh kb.num), .bool (zs kb.num), .int .u64 ((lo (fe kb) : Nat) : Int), .string (hs (fe kb)), .int .u64 ((zl kc.num : Nat) : Int), .string (zh kc.num), .bool (zs kc.num), .int .u64 ((lo (fe kc) : Nat) : Int), .string (hs (fe kc)), .int .u64 ((zl kd.num : Nat) : Int), .string (zh kd.num), .bool (zs kd.num), .int .u64 ((lo (fe kd) : Nat) : Int), .string (hs (fe kd)), .int .u64 0, .string ⟨#[]⟩, .bool false, .int .u64 0, .string ⟨#[]⟩, .int .u64 0, .string ⟨#[]⟩, .bool false, .int .u64 0, .string ⟨#[]⟩]), (w.heap.size + 1 + 1 + 1 + 1, [.int .i64 nv, .int .u32 dv]), (w.heap.size + 1 + 1 + 1, [.int .i64 nu, .int .u32 du]), (w.heap.size + 1 + 1, [.int .i64 j0n, .int .u32 j0d, .int .i64 j1n, .int .u32 j1d, .int .i64 j2n, .int .u32 j2d, .int .i64 j3n, .int .u32 j3d, .int .i64 j4n, .int .u32 j4d, .int .i64 j5n, .int .u32 j5d]), (w.heap.size + 1, [.int .i64 ny, .int .u32 dy]), (w.heap.size, [.int .i64 nx, .int .u32 dx])]) ∨ (i = 5 ∧ LI = [(x2.heap.size, [.int .u64 ((zl ka.num : Nat) : Int), .string (zh ka.num), .bool (zs ka.num), .int .u64 ((lo (fe ka) : Nat) : Int), .string (hs (fe ka)), .int .u64 ((zl kb.num : Nat) : Int), .string (zh kb.num), .bool (zs kb.num), .int .u64 ((lo (fe kb) : Nat) : Int), .string (hs (fe kb)), .int .u64 ((zl kc.num : Nat) : Int), .string (zh kc.num), .bool (zs kc.num), .int .u64 ((lo (fe kc) : Nat) : Int), .string (hs (fe kc)), .int .u64 ((zl kd.num : Nat) : Int), .string (zh kd.num), .bool (zs kd.num), .int .u64 ((lo (fe kd) : Nat) : Int), .string (hs (fe kd)), .int .u64 ((zl ke.num : Nat) : Int), .string (zh ke.num), .bool (zs ke.num), .int .u64 ((lo (fe ke) : Nat) : Int), .string (hs (fe ke)), .int .u64 0, .string ⟨#[]⟩, .bool false, .int .u64 0, .string ⟨#[]⟩]), (w.heap.size + 1 + 1 + 1 + 1, [.int .i64 nv, .int .u32 dv]), (w.heap.size + 1 + 1 + 1, [.int .i64 nu, .int .u32 du]), (w.heap.size + 1 + 1, [.int .i64 j0n, .int .u32 j0d, .int .i64 j1n, .int .u32 j1d, .int .i64 j2n, .int .u32 j2d, .int .i64 j3n, .int .u32 j3d, .int .i64 j4n, .int .u32 j4d, .int .i64 j5n, .int .u32 j5d]), (w.heap.size + 1, [.int .i64 ny, .int .u32 dy]), (w.heap.size, [.int .i64 nx, .int .u32 dx])]) ∨ (i = 6 ∧ LI = [(x2.heap.size, [.int .u64 ((zl ka.num : Nat) : Int), .string (zh ka.num), .bool (zs ka.num), .int .u64 ((lo (fe ka) : Nat) : Int), .string (hs (fe ka)), .int .u64 ((zl kb.num : Nat) : Int), .string (zh kb.num), .bool (zs kb.num), .int .u64 ((lo (fe kb) : Nat) : Int), .string (hs (fe kb)), .int .u64 ((zl kc.num : Nat) : Int), .string (zh kc.num), .bool (zs kc.num), .int .u64 ((lo (fe kc) : Nat) : Int), .string (hs (fe kc)), .int .u64 ((zl kd.num : Nat) : Int), .string (zh kd.num), .bool (zs kd.num), .int .u64 ((lo (fe kd) : Nat) : Int), .string (hs (fe kd)), .int .u64 ((zl ke.num : Nat) : Int), .string (zh ke.num), .bool (zs ke.num), .int .u64 ((lo (fe ke) : Nat) : Int), .string (hs (fe ke)), .int .u64 ((zl kf.num : Nat) : Int), .string (zh kf.num), .bool (zs kf.num), .int .u64 ((lo (fe kf) : Nat) : Int), .string (hs (fe kf))]), (w.heap.size + 1 + 1 + 1 + 1, [.int .i64 nv, .int .u32 dv]), (w.heap.size + 1 + 1 + 1, [.int .i64 nu, .int .u32 du]), (w.heap.size + 1 + 1, [.int .i64 j0n, .int .u32 j0d, .int .i64 j1n, .int .u32 j1d, .int .i64 j2n, .int .u32 j2d, .int .i64 j3n, .int .u32 j3d, .int .i64 j4n, .int .u32 j4d, .int .i64 j5n, .int .u32 j5d]), (w.heap.size + 1, [.int .i64 ny, .int .u32 dy]), (w.heap.size, [.int .i64 nx, .int .u32 dx])])))
 case atStart => exact ⟨0, _, by omega, by first | rfl | go_num, hL0, hT, .inl ⟨rfl, rfl⟩⟩
 case round =>
  clear hL0 hT
  obtain ⟨i, LI, hik, rfl, hL0, hT, hLI⟩ := hrel
  rcases hLI with ⟨rfl, rfl⟩ | ⟨rfl, rfl⟩ | ⟨rfl, rfl⟩ | ⟨rfl, rfl⟩ | ⟨rfl, rfl⟩ | ⟨rfl, rfl⟩ | ⟨rfl, rfl⟩
  ·obtain rfl : gk = 6 := by omega
   have hN0 := cells_of _ 0 [] rfl (hL0.get _ _ (mK (mK (mK mZ))))
   simp only [zF, Nat.reduceAdd] at hN0
   go_wp2_with fail
   clear hN0
   with_reducible refine Calls.mono (HQ0.out _) ?_
   rintro e x4 ⟨rfl, hb⟩
   replace hL0 := hL0.call hb
   replace hT := hT.call hb
   clear hb
   have hT1 := hT.put ((((((Upd.refl x2.heap.size x4).setCell 0 (.int .u64 ((zl ka.num : Nat) : Int))).setCell 1 (.string (zh ka.num))).setCell 2 (.bool (zs ka.num))).setCell 3 (.int .u64 ((lo (fe ka) : Nat) : Int))).setCell 4 (.string (hs (fe ka)))) (hL0.get _ _ mZ) (by intro v hv n; simp only [List.mem_cons, List.not_mem_nil, or_false] at hv; rcases hv with rfl | rfl | rfl | rfl | rfl | rfl | rfl | rfl | rfl | rfl | rfl | rfl | rfl | rfl | rfl | rfl | rfl | rfl | rfl | rfl | rfl | rfl | rfl | rfl | rfl | rfl | rfl | rfl | rfl | rfl <;> simp)
   have hA := hL0.fc
   simp only [zF, Nat.reduceAdd] at hA
   have hP := hL0.putn 0 (x2.heap.size) _ rfl 0 [.int .u64 ((zl ka.num : Nat) : Int), .string (zh ka.num), .bool (zs ka.num), .int .u64 ((lo (fe ka) : Nat) : Int), .string (hs (fe ka))] (by simp)
   simp only [setAll, setCells, List.set_cons_zero, List.set_cons_succ] at hP
   generalize hput1 : (((((x4.setCell ⟨x2.heap.size, 0, none⟩ (.int .u64 ((zl ka.num : Nat) : Int))).setCell ⟨x2.heap.size, 1, none⟩ (.string (zh ka.num))).setCell ⟨x2.heap.size, 2, none⟩ (.bool (zs ka.num))).setCell ⟨x2.heap.size, 3, none⟩ (.int .u64 ((lo (fe ka) : Nat) : Int))).setCell ⟨x2.heap.size, 4, none⟩ (.string (hs (fe ka)))) = x5 at hP hT1
   have hB1 := hP.fc
   simp only [zF, Nat.reduceAdd] at hB1
   replace hL0 := hP
   replace hT := hT1
   clear hT1
   go_wp2_with fail
   go_roundg 5
   case measure => omega
   case rel => exact ⟨1, _, by omega, by first | rfl | go_num, hL0, hT, .inr (.inl ⟨rfl, rfl⟩)⟩
  ·obtain rfl : gk = 5 := by omega
   have hN0 := cells_of _ 0 [] rfl (hL0.get _ _ (mK (mK (mK mZ))))
   simp only [zF, Nat.reduceAdd] at hN0
   go_wp2_with fail
   clear hN0
   with_reducible refine Calls.mono (HQ1.out _) ?_
   rintro e x4 ⟨rfl, hb⟩
   replace hL0 := hL0.call hb
   replace hT := hT.call hb
   clear hb
   have hT1 := hT.put ((((((Upd.refl x2.heap.size x4).setCell 5 (.int .u64 ((zl kb.num : Nat) : Int))).setCell 6 (.string (zh kb.num))).setCell 7 (.bool (zs kb.num))).setCell 8 (.int .u64 ((lo (fe kb) : Nat) : Int))).setCell 9 (.string (hs (fe kb)))) (hL0.get _ _ mZ) (by intro v hv n; simp only [List.mem_cons, List.not_mem_nil, or_false] at hv; rcases hv with rfl | rfl | rfl | rfl | rfl | rfl | rfl | rfl | rfl | rfl | rfl | rfl | rfl | rfl | rfl | rfl | rfl | rfl | rfl | rfl | rfl | rfl | rfl | rfl | rfl | rfl | rfl | rfl | rfl | rfl <;> simp)
   have hA := hL0.fc
   simp only [zF, Nat.reduceAdd] at hA
   have hP := hL0.putn 0 (x2.heap.size) _ rfl 5 [.int .u64 ((zl kb.num : Nat) : Int), .string (zh kb.num), .bool (zs kb.num), .int .u64 ((lo (fe kb) : Nat) : Int), .string (hs (fe kb))] (by simp)
   simp only [setAll, setCells, List.set_cons_zero, List.set_cons_succ] at hP
   generalize hput1 : (((((x4.setCell ⟨x2.heap.size, 5, none⟩ (.int .u64 ((zl kb.num : Nat) : Int))).setCell ⟨x2.heap.size, 6, none⟩ (.string (zh kb.num))).setCell ⟨x2.heap.size, 7, none⟩ (.bool (zs kb.num))).setCell ⟨x2.heap.size, 8, none⟩ (.int .u64 ((lo (fe kb) : Nat) : Int))).setCell ⟨x2.heap.size, 9, none⟩ (.string (hs (fe kb)))) = x5 at hP hT1
   have hB1 := hP.fc
   simp only [zF, Nat.reduceAdd] at hB1
   replace hL0 := hP
   replace hT := hT1
   clear hT1
   go_wp2_with fail
   go_roundg 4
   case measure => omega
   case rel => exact ⟨2, _, by omega, by first | rfl | go_num, hL0, hT, .inr (.inr (.inl ⟨rfl, rfl⟩))⟩
  ·obtain rfl : gk = 4 := by omega
   have hN0 := cells_of _ 0 [] rfl (hL0.get _ _ (mK (mK (mK mZ))))
   simp only [zF, Nat.reduceAdd] at hN0
   go_wp2_with fail
   clear hN0
   with_reducible refine Calls.mono (HQ2.out _) ?_
   rintro e x4 ⟨rfl, hb⟩
   replace hL0 := hL0.call hb
   replace hT := hT.call hb
   clear hb
   have hT1 := hT.put ((((((Upd.refl x2.heap.size x4).setCell 10 (.int .u64 ((zl kc.num : Nat) : Int))).setCell 11 (.string (zh kc.num))).setCell 12 (.bool (zs kc.num))).setCell 13 (.int .u64 ((lo (fe kc) : Nat) : Int))).setCell 14 (.string (hs (fe kc)))) (hL0.get _ _ mZ) (by intro v hv n; simp only [List.mem_cons, List.not_mem_nil, or_false] at hv; rcases hv with rfl | rfl | rfl | rfl | rfl | rfl | rfl | rfl | rfl | rfl | rfl | rfl | rfl | rfl | rfl | rfl | rfl | rfl | rfl | rfl | rfl | rfl | rfl | rfl | rfl | rfl | rfl | rfl | rfl | rfl <;> simp)
   have hA := hL0.fc
   simp only [zF, Nat.reduceAdd] at hA
   have hP := hL0.putn 0 (x2.heap.size) _ rfl 10 [.int .u64 ((zl kc.num : Nat) : Int), .string (zh kc.num), .bool (zs kc.num), .int .u64 ((lo (fe kc) : Nat) : Int), .string (hs (fe kc))] (by simp)
   simp only [setAll, setCells, List.set_cons_zero, List.set_cons_succ] at hP
   generalize hput1 : (((((x4.setCell ⟨x2.heap.size, 10, none⟩ (.int .u64 ((zl kc.num : Nat) : Int))).setCell ⟨x2.heap.size, 11, none⟩ (.string (zh kc.num))).setCell ⟨x2.heap.size, 12, none⟩ (.bool (zs kc.num))).setCell ⟨x2.heap.size, 13, none⟩ (.int .u64 ((lo (fe kc) : Nat) : Int))).setCell ⟨x2.heap.size, 14, none⟩ (.string (hs (fe kc)))) = x5 at hP hT1
   have hB1 := hP.fc
   simp only [zF, Nat.reduceAdd] at hB1
   replace hL0 := hP
   replace hT := hT1
   clear hT1
   go_wp2_with fail
   go_roundg 3
   case measure => omega
   case rel => exact ⟨3, _, by omega, by first | rfl | go_num, hL0, hT, .inr (.inr (.inr (.inl ⟨rfl, rfl⟩)))⟩
  ·obtain rfl : gk = 3 := by omega
   have hN0 := cells_of _ 0 [] rfl (hL0.get _ _ (mK (mK (mK mZ))))
   simp only [zF, Nat.reduceAdd] at hN0
   go_wp2_with fail
   clear hN0
   with_reducible refine Calls.mono (HQ3.out _) ?_
   rintro e x4 ⟨rfl, hb⟩
   replace hL0 := hL0.call hb
   replace hT := hT.call hb
   clear hb
   have hT1 := hT.put ((((((Upd.refl x2.heap.size x4).setCell 15 (.int .u64 ((zl kd.num : Nat) : Int))).setCell 16 (.string (zh kd.num))).setCell 17 (.bool (zs kd.num))).setCell 18 (.int .u64 ((lo (fe kd) : Nat) : Int))).setCell 19 (.string (hs (fe kd)))) (hL0.get _ _ mZ) (by intro v hv n; simp only [List.mem_cons, List.not_mem_nil, or_false] at hv; rcases hv with rfl | rfl | rfl | rfl | rfl | rfl | rfl | rfl | rfl | rfl | rfl | rfl | rfl | rfl | rfl | rfl | rfl | rfl | rfl | rfl | rfl | rfl | rfl | rfl | rfl | rfl | rfl | rfl | rfl | rfl <;> simp)
   have hA := hL0.fc
   simp only [zF, Nat.reduceAdd] at hA
   have hP := hL0.putn 0 (x2.heap.size) _ rfl 15 [.int .u64 ((zl kd.num : Nat) : Int), .string (zh kd.num), .bool (zs kd.num), .int .u64 ((lo (fe kd) : Nat) : Int), .string (hs (fe kd))] (by simp)
   simp only [setAll, setCells, List.set_cons_zero, List.set_cons_succ] at hP
   generalize hput1 : (((((x4.setCell ⟨x2.heap.size, 15, none⟩ (.int .u64 ((zl kd.num : Nat) : Int))).setCell ⟨x2.heap.size, 16, none⟩ (.string (zh kd.num))).setCell ⟨x2.heap.size, 17, none⟩ (.bool (zs kd.num))).setCell ⟨x2.heap.size, 18, none⟩ (.int .u64 ((lo (fe kd) : Nat) : Int))).setCell ⟨x2.heap.size, 19, none⟩ (.string (hs (fe kd)))) = x5 at hP hT1
   have hB1 := hP.fc
   simp only [zF, Nat.reduceAdd] at hB1
   replace hL0 := hP
   replace hT := hT1
   clear hT1
   go_wp2_with fail
   go_roundg 2
   case measure => omega
   case rel => exact ⟨4, _, by omega, by first | rfl | go_num, hL0, hT, .inr (.inr (.inr (.inr (.inl ⟨rfl, rfl⟩))))⟩
  ·obtain rfl : gk = 2 := by omega
   have hN0 := cells_of _ 0 [] rfl (hL0.get _ _ (mK (mK (mK mZ))))
   simp only [zF, Nat.reduceAdd] at hN0
   go_wp2_with fail
   clear hN0
   with_reducible refine Calls.mono (HQ4.out _) ?_
   rintro e x4 ⟨rfl, hb⟩
   replace hL0 := hL0.call hb
   replace hT := hT.call hb
   clear hb
   have hT1 := hT.put ((((((Upd.refl x2.heap.size x4).setCell 20 (.int .u64 ((zl ke.num : Nat) : Int))).setCell 21 (.string (zh ke.num))).setCell 22 (.bool (zs ke.num))).setCell 23 (.int .u64 ((lo (fe ke) : Nat) : Int))).setCell 24 (.string (hs (fe ke)))) (hL0.get _ _ mZ) (by intro v hv n; simp only [List.mem_cons, List.not_mem_nil, or_false] at hv; rcases hv with rfl | rfl | rfl | rfl | rfl | rfl | rfl | rfl | rfl | rfl | rfl | rfl | rfl | rfl | rfl | rfl | rfl | rfl | rfl | rfl | rfl | rfl | rfl | rfl | rfl | rfl | rfl | rfl | rfl | rfl <;> simp)
   have hA := hL0.fc
   simp only [zF, Nat.reduceAdd] at hA
   have hP := hL0.putn 0 (x2.heap.size) _ rfl 20 [.int .u64 ((zl ke.num : Nat) : Int), .string (zh ke.num), .bool (zs ke.num), .int .u64 ((lo (fe ke) : Nat) : Int), .string (hs (fe ke))] (by simp)
   simp only [setAll, setCells, List.set_cons_zero, List.set_cons_succ] at hP
   generalize hput1 : (((((x4.setCell ⟨x2.heap.size, 20, none⟩ (.int .u64 ((zl ke.num : Nat) : Int))).setCell ⟨x2.heap.size, 21, none⟩ (.string (zh ke.num))).setCell ⟨x2.heap.size, 22, none⟩ (.bool (zs ke.num))).setCell ⟨x2.heap.size, 23, none⟩ (.int .u64 ((lo (fe ke) : Nat) : Int))).setCell ⟨x2.heap.size, 24, none⟩ (.string (hs (fe ke)))) = x5 at hP hT1
   have hB1 := hP.fc
   simp only [zF, Nat.reduceAdd] at hB1
   replace hL0 := hP
   replace hT := hT1
   clear hT1
   go_wp2_with fail
   go_roundg 1
   case measure => omega
   case rel => exact ⟨5, _, by omega, by first | rfl | go_num, hL0, hT, .inr (.inr (.inr (.inr (.inr (.inl ⟨rfl, rfl⟩)))))⟩
  ·obtain rfl : gk = 1 := by omega
   have hN0 := cells_of _ 0 [] rfl (hL0.get _ _ (mK (mK (mK mZ))))
   simp only [zF, Nat.reduceAdd] at hN0
   go_wp2_with fail
   clear hN0
   with_reducible refine Calls.mono (HQ5.out _) ?_
   rintro e x4 ⟨rfl, hb⟩
   replace hL0 := hL0.call hb
   replace hT := hT.call hb
   clear hb
   have hT1 := hT.put ((((((Upd.refl x2.heap.size x4).setCell 25 (.int .u64 ((zl kf.num : Nat) : Int))).setCell 26 (.string (zh kf.num))).setCell 27 (.bool (zs kf.num))).setCell 28 (.int .u64 ((lo (fe kf) : Nat) : Int))).setCell 29 (.string (hs (fe kf)))) (hL0.get _ _ mZ) (by intro v hv n; simp only [List.mem_cons, List.not_mem_nil, or_false] at hv; rcases hv with rfl | rfl | rfl | rfl | rfl | rfl | rfl | rfl | rfl | rfl | rfl | rfl | rfl | rfl | rfl | rfl | rfl | rfl | rfl | rfl | rfl | rfl | rfl | rfl | rfl | rfl | rfl | rfl | rfl | rfl <;> simp)
   have hA := hL0.fc
   simp only [zF, Nat.reduceAdd] at hA
   have hP := hL0.putn 0 (x2.heap.size) _ rfl 25 [.int .u64 ((zl kf.num : Nat) : Int), .string (zh kf.num), .bool (zs kf.num), .int .u64 ((lo (fe kf) : Nat) : Int), .string (hs (fe kf))] (by simp)
   simp only [setAll, setCells, List.set_cons_zero, List.set_cons_succ] at hP
   generalize hput1 : (((((x4.setCell ⟨x2.heap.size, 25, none⟩ (.int .u64 ((zl kf.num : Nat) : Int))).setCell ⟨x2.heap.size, 26, none⟩ (.string (zh kf.num))).setCell ⟨x2.heap.size, 27, none⟩ (.bool (zs kf.num))).setCell ⟨x2.heap.size, 28, none⟩ (.int .u64 ((lo (fe kf) : Nat) : Int))).setCell ⟨x2.heap.size, 29, none⟩ (.string (hs (fe kf)))) = x5 at hP hT1
   have hB1 := hP.fc
   simp only [zF, Nat.reduceAdd] at hB1
   replace hL0 := hP
   replace hT := hT1
   clear hT1
   go_wp2_with fail
   go_roundg 0
   case measure => omega
   case rel => exact ⟨6, _, by omega, by first | rfl | go_num, hL0, hT, .inr (.inr (.inr (.inr (.inr (.inr (⟨rfl, rfl⟩))))))⟩
  ·obtain rfl : gk = 0 := by omega
   go_upto_region 9 with fail
   refine region_gh (by kernel_rfl) (by kernel_rfl) ?_
   refine lex_seg (gl := []) 4 (by kernel_rfl) ?_
   intro α iα F hF1 hF2
   have hq := GL.seg hF1 hL0
   simp only [zC, Nat.reduceAdd] at hq
   simp only [zT]
   repeat (go_big_quiet_step (first | fail | (go_at_call 26; with_reducible exact seg_call hF2 HQx.out _) | (go_at_call 26; with_reducible exact seg_call hF2 HQy.out _)))
   refine wpQuiet_nil ?_
   clear hq hF1 hF2 iα F α
   refine lex_new [.int .u64 0, .string ⟨#[]⟩, .bool false, .int .u64 0, .string ⟨#[]⟩] 16 47 47 rfl rfl (of_decide_eq_true (by kernel_rfl)) (by kernel_rfl) rfl new_frac ?_
   simp only [Act.put, zP]
   refine lex_new [.int .u64 0, .string ⟨#[]⟩, .bool false, .int .u64 0, .string ⟨#[]⟩] 17 47 47 rfl rfl (of_decide_eq_true (by kernel_rfl)) (by kernel_rfl) rfl new_frac ?_
   simp only [Act.put, zP]
   refine lex_put [.int .u64 ((zl xa.num : Nat) : Int), .string (zh xa.num), .bool (zs xa.num), .int .u64 ((lo (fe xa) : Nat) : Int), .string (hs (fe xa))] [.int .u64 0, .string ⟨#[]⟩, .bool false, .int .u64 0, .string ⟨#[]⟩] 16 47 (.tmp 46) rfl (by kernel_rfl) (by simp [toG, upd]) rfl (fun w k h => put_frac _ _ _ _ _ _ _ _ _ _ w k h) ?_
   simp only [Act.put]
   refine lex_put [.int .u64 ((zl xb.num : Nat) : Int), .string (zh xb.num), .bool (zs xb.num), .int .u64 ((lo (fe xb) : Nat) : Int), .string (hs (fe xb))] [.int .u64 0, .string ⟨#[]⟩, .bool false, .int .u64 0, .string ⟨#[]⟩] 17 47 (.tmp 48) rfl (by kernel_rfl) (by simp [toG, upd]) rfl (fun w k h => put_frac _ _ _ _ _ _ _ _ _ _ w k h) ?_
   simp only [Act.put]
   refine lexG_nil ?_
   intro κ x4 hSim
   replace hL0 := hL0.ghs hSim [(17, [.int .u64 ((zl xb.num : Nat) : Int), .string (zh xb.num), .bool (zs xb.num), .int .u64 ((lo (fe xb) : Nat) : Int), .string (hs (fe xb))]), (16, [.int .u64 ((zl xa.num : Nat) : Int), .string (zh xa.num), .bool (zs xa.num), .int .u64 ((lo (fe xa) : Nat) : Int), .string (hs (fe xa))])] (by simp) (by intro p hp; simp only [List.mem_cons, List.not_mem_nil, or_false] at hp; rcases hp with rfl | rfl <;> exact ⟨_, by simp only [toG, upd]; rfl⟩)
   simp only [List.map_cons, List.map_nil, List.cons_append, List.nil_append] at hL0
   simp only [over_toG, over_nil, Act.put, zP]
   replace hT := hT.call (below_drew hSim.base)
   clear hSim
   generalize κ 17 = k4_17 at *
   generalize κ 16 = k4_16 at *
   have hN0 := cells_of _ 0 [] rfl (hL0.get _ _ (mK (mK mZ)))
   simp only [zF, Nat.reduceAdd] at hN0
   go_wp2_with fail
   clear hN0
   with_reducible refine Calls.mono (Sh1.out (.slice g1 d1 g1c) _ (hT.get mZ)) ?_
   rintro e x5 ⟨v0, rfl, q0, hb⟩
   replace hL0 := hL0.call hb
   replace hT := hT.call hb
   clear hb
   obtain ⟨g2, d2, g2c, rfl, -⟩ := pt_form q0
   replace hT := hT.cons q0
   clear q0
   go_upto_region 11 with fail
   refine region_tal 13 [EV (.pointer (some ⟨x2.heap.size, 0, none⟩)), EV (.agg #[.int .u64 ((zl ka.num : Nat) : Int), .string (zh ka.num), .bool (zs ka.num), .int .u64 ((lo (fe ka) : Nat) : Int), .string (hs (fe ka))]), EV (.agg #[.int .u64 ((zl xa.num : Nat) : Int), .string (zh xa.num), .bool (zs xa.num), .int .u64 ((lo (fe xa) : Nat) : Int), .string (hs (fe xa))]), EV (.agg #[.int .u64 ((zl m1.num : Nat) : Int), .string (zh m1.num), .bool (zs m1.num), .int .u64 ((lo (fe m1) : Nat) : Int), .string (hs (fe m1))]), EV (.pointer (some ⟨x2.heap.size, 5, none⟩)), EV (.agg #[.int .u64 ((zl kb.num : Nat) : Int), .string (zh kb.num), .bool (zs kb.num), .int .u64 ((lo (fe kb) : Nat) : Int), .string (hs (fe kb))]), EV (.agg #[.int .u64 ((zl xb.num : Nat) : Int), .string (zh xb.num), .bool (zs xb.num), .int .u64 ((lo (fe xb) : Nat) : Int), .string (hs (fe xb))]), EV (.agg #[.int .u64 ((zl m2.num : Nat) : Int), .string (zh m2.num), .bool (zs m2.num), .int .u64 ((lo (fe m2) : Nat) : Int), .string (hs (fe m2))]), EV (.pointer (some ⟨x2.heap.size, 10, none⟩)), EV (.agg #[.int .u64 ((zl kc.num : Nat) : Int), .string (zh kc.num), .bool (zs kc.num), .int .u64 ((lo (fe kc) : Nat) : Int), .string (hs (fe kc))]), PV8 [m1, m2, kc], EV (.agg #[.int .u64 ((zl tx.num : Nat) : Int), .string (zh tx.num), .bool (zs tx.num), .int .u64 ((lo (fe tx) : Nat) : Int), .string (hs (fe tx))]), NewB x5.heap.size [.int .u64 0, .string ⟨#[]⟩, .bool false, .int .u64 0, .string ⟨#[]⟩]] [12] (by kernel_rfl) (by kernel_rfl) ?_ ?_ ?_ ?_ ?_
   ·repeat' first | exact stays_nil | apply stays_cons | exact stays_eq _ | exact stays_new _ _ | exact stays_slq8 _
   ·simp only [List.take_succ_cons, List.take_zero, hopsR, and_true]
    refine ⟨?_, ?_, ?_, ?_, ?_, ?_, ?_, ?_, ?_, ?_, ?_, ?_, ?_⟩ <;> intro fv w1 hb1 hp
    all_goals (have hc := (hL0.call (below_drew hb1)).fc; simp only [zF, Nat.reduceAdd] at hc; simp only [putsV, Act.put, zP, Nat.zero_add, Nat.reduceAdd])
    ·refine tyAt_none rfl ?_
     simp [tyUpon, execOp, go_sem, Act.eval, G9, Below.refl]
    ·have h0 : EV _ (fv 0) w1 := hp 0 (LC (by kernel_rfl))
     refine tyAt_none rfl ?_
     simp [tyUpon, execOp, go_sem, Act.eval, hc, h0, G9, Below.refl]
    ·refine tyAt_none rfl ?_
     simp [tyUpon, execOp, go_sem, Act.eval, hc, G9, Below.refl]
    ·have h1 : EV _ (fv 1) w1 := hp 1 (LC (by kernel_rfl))
     have h2 : EV _ (fv 2) w1 := hp 2 (LC (by kernel_rfl))
     refine tyAt_none rfl ?_
     refine ty_call (f := 28) (args := #[.agg #[.int .u64 ((zl ka.num : Nat) : Int), .string (zh ka.num), .bool (zs ka.num), .int .u64 ((lo (fe ka) : Nat) : Int), .string (hs (fe ka))], .agg #[.int .u64 ((zl xa.num : Nat) : Int), .string (zh xa.num), .bool (zs xa.num), .int .u64 ((lo (fe xa) : Nat) : Int), .string (hs (fe xa))]]) (by simp [execOp, go_sem, Act.eval, h1, h2]) ?_
     exact (M1.out w1).mono fun e w2 ⟨h1, h2⟩ => ⟨_, h1, rfl, h2⟩
    ·refine tyAt_none rfl ?_
     simp [tyUpon, execOp, go_sem, Act.eval, G9, Below.refl]
    ·have h4 : EV _ (fv 4) w1 := hp 4 (LC (by kernel_rfl))
     refine tyAt_none rfl ?_
     simp [tyUpon, execOp, go_sem, Act.eval, hc, h4, G9, Below.refl]
    ·refine tyAt_none rfl ?_
     simp [tyUpon, execOp, go_sem, Act.eval, hc, G9, Below.refl]
    ·have h5 : EV _ (fv 5) w1 := hp 5 (LC (by kernel_rfl))
     have h6 : EV _ (fv 6) w1 := hp 6 (LC (by kernel_rfl))
     refine tyAt_none rfl ?_
     refine ty_call (f := 28) (args := #[.agg #[.int .u64 ((zl kb.num : Nat) : Int), .string (zh kb.num), .bool (zs kb.num), .int .u64 ((lo (fe kb) : Nat) : Int), .string (hs (fe kb))], .agg #[.int .u64 ((zl xb.num : Nat) : Int), .string (zh xb.num), .bool (zs xb.num), .int .u64 ((lo (fe xb) : Nat) : Int), .string (hs (fe xb))]]) (by simp [execOp, go_sem, Act.eval, h5, h6]) ?_
     exact (M2.out w1).mono fun e w2 ⟨h1, h2⟩ => ⟨_, h1, rfl, h2⟩
    ·refine tyAt_none rfl ?_
     simp [tyUpon, execOp, go_sem, Act.eval, G9, Below.refl]
    ·have h8 : EV _ (fv 8) w1 := hp 8 (LC (by kernel_rfl))
     refine tyAt_none rfl ?_
     simp [tyUpon, execOp, go_sem, Act.eval, hc, h8, G9, Below.refl]
    ·have h3 : EV _ (fv 3) w1 := hp 3 (LC (by kernel_rfl))
     have h7 : EV _ (fv 7) w1 := hp 7 (LC (by kernel_rfl))
     have h9 : EV _ (fv 9) w1 := hp 9 (LC (by kernel_rfl))
     refine tyAt_none rfl ?_
     refine ty_val8 (u := .slice (some ⟨w1.heap.size, 0, none⟩) 3 3) (w' := w1.alloc (.cells #[.int .u64 ((zl m1.num : Nat) : Int), .string (zh m1.num), .bool (zs m1.num), .int .u64 ((lo (fe m1) : Nat) : Int), .string (hs (fe m1)), .int .u64 ((zl m2.num : Nat) : Int), .string (zh m2.num), .bool (zs m2.num), .int .u64 ((lo (fe m2) : Nat) : Int), .string (hs (fe m2)), .int .u64 ((zl kc.num : Nat) : Int), .string (zh kc.num), .bool (zs kc.num), .int .u64 ((lo (fe kc) : Nat) : Int), .string (hs (fe kc))] 47)) (by simp [execOp, go_sem, Act.eval, h3, h7, h9]) ((Below.refl _ _).alloc (Nat.le_refl _) _) (slq_of3 (hd_new w1 [.int .u64 ((zl m1.num : Nat) : Int), .string (zh m1.num), .bool (zs m1.num), .int .u64 ((lo (fe m1) : Nat) : Int), .string (hs (fe m1)), .int .u64 ((zl m2.num : Nat) : Int), .string (zh m2.num), .bool (zs m2.num), .int .u64 ((lo (fe m2) : Nat) : Int), .string (hs (fe m2)), .int .u64 ((zl kc.num : Nat) : Int), .string (zh kc.num), .bool (zs kc.num), .int .u64 ((lo (fe kc) : Nat) : Int), .string (hs (fe kc))] _))
    ·have h10 : (PV8 [m1, m2, kc]) (fv 10) w1 := hp 10 (LC (by kernel_rfl))
     refine tyAt_none rfl ?_
     refine ty_call (f := 38) (args := #[fv 10]) (by simp [execOp, go_sem, Act.eval]) ?_
     exact (U1.out (fv 10) w1 h10).mono fun e w2 ⟨h1, h2⟩ => ⟨_, h1, rfl, h2⟩
    ·exact tyAt_new rfl rfl new_frac (below_drew hb1).size
   ·intro j hj u w2 hT
    simp only [List.contains_iff_mem, List.mem_cons, List.not_mem_nil, or_false] at hj
    rcases hj with rfl <;> exact NewB.ptr hT
   ·exact ⟨⟨_, _, _, _, rfl, rfl, rfl, new_frac⟩, trivial⟩
   ·intro fv x6 hb1 hv hne
    have e0 : fv 0 = _ := hv 0 (by omega)
    have e1 : fv 1 = _ := hv 1 (by omega)
    have e2 : fv 2 = _ := hv 2 (by omega)
    have e3 : fv 3 = _ := hv 3 (by omega)
    have e4 : fv 4 = _ := hv 4 (by omega)
    have e5 : fv 5 = _ := hv 5 (by omega)
    have e6 : fv 6 = _ := hv 6 (by omega)
    have e7 : fv 7 = _ := hv 7 (by omega)
    have e8 : fv 8 = _ := hv 8 (by omega)
    have e9 : fv 9 = _ := hv 9 (by omega)
    have q10 : SlQ x6 (fv 10) ([m1, m2, kc]) := hv 10 (by omega)
    obtain ⟨g3, d3, g3c, e10⟩ := slq_form8 q10
    rw [e10] at q10
    have e11 : fv 11 = _ := hv 11 (by omega)
    obtain ⟨kb12r11, e12, n12, m12⟩ : NewB x5.heap.size [.int .u64 0, .string ⟨#[]⟩, .bool false, .int .u64 0, .string ⟨#[]⟩] (fv 12) x6 := hv 12 (by omega)
    simp only [List.take_succ_cons, List.take_zero, putsV, Act.put, zP, List.drop_succ_cons, List.drop_zero, Nat.zero_add, Nat.reduceAdd, e0, e1, e2, e3, e4, e5, e6, e7, e8, e9, e10, e11, e12]
    have hx0 := hL0
    replace hL0 := hL0.call (below_drew hb1)
    replace hT := hT.call (below_drew hb1)
    replace hL0 := GL.tnew (M := []) hL0 hx0 n12 m12 (fun p hp => by cases hp)
    simp only [List.cons_append, List.nil_append] at hL0
    clear e0 e1 e2 e3 e4 e5 e6 e7 e8 e9 e10 e11 e12 hb1 hv hne hx0 n12 m12 q10 fv
    have hT1 := hT.put ((((((Upd.refl kb12r11 x6).setCell 0 (.int .u64 ((zl tx.num : Nat) : Int))).setCell 1 (.string (zh tx.num))).setCell 2 (.bool (zs tx.num))).setCell 3 (.int .u64 ((lo (fe tx) : Nat) : Int))).setCell 4 (.string (hs (fe tx)))) (hL0.get _ _ mZ) (by intro v hv n; simp only [List.mem_cons, List.not_mem_nil, or_false] at hv; rcases hv with rfl | rfl | rfl | rfl | rfl <;> simp)
    have hA := hL0.fc
    simp only [zF, Nat.reduceAdd] at hA
    have hP := hL0.put 0 (kb12r11) _ rfl [.int .u64 ((zl tx.num : Nat) : Int), .string (zh tx.num), .bool (zs tx.num), .int .u64 ((lo (fe tx) : Nat) : Int), .string (hs (fe tx))] rfl
    simp only [setAll, List.set_cons_zero, List.set_cons_succ] at hP
    generalize hput1 : (((((x6.setCell ⟨kb12r11, 0, none⟩ (.int .u64 ((zl tx.num : Nat) : Int))).setCell ⟨kb12r11, 1, none⟩ (.string (zh tx.num))).setCell ⟨kb12r11, 2, none⟩ (.bool (zs tx.num))).setCell ⟨kb12r11, 3, none⟩ (.int .u64 ((lo (fe tx) : Nat) : Int))).setCell ⟨kb12r11, 4, none⟩ (.string (hs (fe tx)))) = x7 at hP hT1
    have hB1 := hP.fc
    simp only [zF, Nat.reduceAdd] at hB1
    replace hL0 := hP
    replace hT := hT1
    clear hT1
    go_upto_region 12 with fail
    clear hput1 hB1
    clear hA
    refine region_tal 13 [EV (.pointer (some ⟨x2.heap.size, 15, none⟩)), EV (.agg #[.int .u64 ((zl kd.num : Nat) : Int), .string (zh kd.num), .bool (zs kd.num), .int .u64 ((lo (fe kd) : Nat) : Int), .string (hs (fe kd))]), EV (.agg #[.int .u64 ((zl xa.num : Nat) : Int), .string (zh xa.num), .bool (zs xa.num), .int .u64 ((lo (fe xa) : Nat) : Int), .string (hs (fe xa))]), EV (.agg #[.int .u64 ((zl m3.num : Nat) : Int), .string (zh m3.num), .bool (zs m3.num), .int .u64 ((lo (fe m3) : Nat) : Int), .string (hs (fe m3))]), EV (.pointer (some ⟨x2.heap.size, 20, none⟩)), EV (.agg #[.int .u64 ((zl ke.num : Nat) : Int), .string (zh ke.num), .bool (zs ke.num), .int .u64 ((lo (fe ke) : Nat) : Int), .string (hs (fe ke))]), EV (.agg #[.int .u64 ((zl xb.num : Nat) : Int), .string (zh xb.num), .bool (zs xb.num), .int .u64 ((lo (fe xb) : Nat) : Int), .string (hs (fe xb))]), EV (.agg #[.int .u64 ((zl m4.num : Nat) : Int), .string (zh m4.num), .bool (zs m4.num), .int .u64 ((lo (fe m4) : Nat) : Int), .string (hs (fe m4))]), EV (.pointer (some ⟨x2.heap.size, 25, none⟩)), EV (.agg #[.int .u64 ((zl kf.num : Nat) : Int), .string (zh kf.num), .bool (zs kf.num), .int .u64 ((lo (fe kf) : Nat) : Int), .string (hs (fe kf))]), PV8 [m3, m4, kf], EV (.agg #[.int .u64 ((zl ty.num : Nat) : Int), .string (zh ty.num), .bool (zs ty.num), .int .u64 ((lo (fe ty) : Nat) : Int), .string (hs (fe ty))]), NewB x7.heap.size [.int .u64 0, .string ⟨#[]⟩, .bool false, .int .u64 0, .string ⟨#[]⟩]] [12] (by kernel_rfl) (by kernel_rfl) ?_ ?_ ?_ ?_ ?_
    ·repeat' first | exact stays_nil | apply stays_cons | exact stays_eq _ | exact stays_new _ _ | exact stays_slq8 _
    ·simp only [List.take_succ_cons, List.take_zero, hopsR, and_true]
     refine ⟨?_, ?_, ?_, ?_, ?_, ?_, ?_, ?_, ?_, ?_, ?_, ?_, ?_⟩ <;> intro fv w1 hb1 hp
     all_goals (have hc := (hL0.call (below_drew hb1)).fc; simp only [zF, Nat.reduceAdd] at hc; simp only [putsV, Act.put, zP, Nat.zero_add, Nat.reduceAdd])
     ·refine tyAt_none rfl ?_
      simp [tyUpon, execOp, go_sem, Act.eval, G9, Below.refl]
     ·have h0 : EV _ (fv 0) w1 := hp 0 (LC (by kernel_rfl))
      refine tyAt_none rfl ?_
      simp [tyUpon, execOp, go_sem, Act.eval, hc, h0, G9, Below.refl]
     ·refine tyAt_none rfl ?_
      simp [tyUpon, execOp, go_sem, Act.eval, hc, G9, Below.refl]
     ·have h1 : EV _ (fv 1) w1 := hp 1 (LC (by kernel_rfl))
      have h2 : EV _ (fv 2) w1 := hp 2 (LC (by kernel_rfl))
      refine tyAt_none rfl ?_
      refine ty_call (f := 28) (args := #[.agg #[.int .u64 ((zl kd.num : Nat) : Int), .string (zh kd.num), .bool (zs kd.num), .int .u64 ((lo (fe kd) : Nat) : Int), .string (hs (fe kd))], .agg #[.int .u64 ((zl xa.num : Nat) : Int), .string (zh xa.num), .bool (zs xa.num), .int .u64 ((lo (fe xa) : Nat) : Int), .string (hs (fe xa))]]) (by simp [execOp, go_sem, Act.eval, h1, h2]) ?_
      exact (M3.out w1).mono fun e w2 ⟨h1, h2⟩ => ⟨_, h1, rfl, h2⟩
     ·refine tyAt_none rfl ?_
      simp [tyUpon, execOp, go_sem, Act.eval, G9, Below.refl]
     ·have h4 : EV _ (fv 4) w1 := hp 4 (LC (by kernel_rfl))
      refine tyAt_none rfl ?_
      simp [tyUpon, execOp, go_sem, Act.eval, hc, h4, G9, Below.refl]
     ·refine tyAt_none rfl ?_
      simp [tyUpon, execOp, go_sem, Act.eval, hc, G9, Below.refl]
     ·have h5 : EV _ (fv 5) w1 := hp 5 (LC (by kernel_rfl))
      have h6 : EV _ (fv 6) w1 := hp 6 (LC (by kernel_rfl))
      refine tyAt_none rfl ?_
      refine ty_call (f := 28) (args := #[.agg #[.int .u64 ((zl ke.num : Nat) : Int), .string (zh ke.num), .bool (zs ke.num), .int .u64 ((lo (fe ke) : Nat) : Int), .string (hs (fe ke))], .agg #[.int .u64 ((zl xb.num : Nat) : Int), .string (zh xb.num), .bool (zs xb.num), .int .u64 ((lo (fe xb) : Nat) : Int), .string (hs (fe xb))]]) (by simp [execOp, go_sem, Act.eval, h5, h6]) ?_
      exact (M4.out w1).mono fun e w2 ⟨h1, h2⟩ => ⟨_, h1, rfl, h2⟩
     ·refine tyAt_none rfl ?_
      simp [tyUpon, execOp, go_sem, Act.eval, G9, Below.refl]
     ·have h8 : EV _ (fv 8) w1 := hp 8 (LC (by kernel_rfl))
      refine tyAt_none rfl ?_
      simp [tyUpon, execOp, go_sem, Act.eval, hc, h8, G9, Below.refl]
     ·have h3 : EV _ (fv 3) w1 := hp 3 (LC (by kernel_rfl))
      have h7 : EV _ (fv 7) w1 := hp 7 (LC (by kernel_rfl))
      have h9 : EV _ (fv 9) w1 := hp 9 (LC (by kernel_rfl))
      refine tyAt_none rfl ?_
      refine ty_val8 (u := .slice (some ⟨w1.heap.size, 0, none⟩) 3 3) (w' := w1.alloc (.cells #[.int .u64 ((zl m3.num : Nat) : Int), .string (zh m3.num), .bool (zs m3.num), .int .u64 ((lo (fe m3) : Nat) : Int), .string (hs (fe m3)), .int .u64 ((zl m4.num : Nat) : Int), .string (zh m4.num), .bool (zs m4.num), .int .u64 ((lo (fe m4) : Nat) : Int), .string (hs (fe m4)), .int .u64 ((zl kf.num : Nat) : Int), .string (zh kf.num), .bool (zs kf.num), .int .u64 ((lo (fe kf) : Nat) : Int), .string (hs (fe kf))] 47)) (by simp [execOp, go_sem, Act.eval, h3, h7, h9]) ((Below.refl _ _).alloc (Nat.le_refl _) _) (slq_of3 (hd_new w1 [.int .u64 ((zl m3.num : Nat) : Int), .string (zh m3.num), .bool (zs m3.num), .int .u64 ((lo (fe m3) : Nat) : Int), .string (hs (fe m3)), .int .u64 ((zl m4.num : Nat) : Int), .string (zh m4.num), .bool (zs m4.num), .int .u64 ((lo (fe m4) : Nat) : Int), .string (hs (fe m4)), .int .u64 ((zl kf.num : Nat) : Int), .string (zh kf.num), .bool (zs kf.num), .int .u64 ((lo (fe kf) : Nat) : Int), .string (hs (fe kf))] _))
     ·have h10 : (PV8 [m3, m4, kf]) (fv 10) w1 := hp 10 (LC (by kernel_rfl))
      refine tyAt_none rfl ?_
      refine ty_call (f := 38) (args := #[fv 10]) (by simp [execOp, go_sem, Act.eval]) ?_
      exact (U2.out (fv 10) w1 h10).mono fun e w2 ⟨h1, h2⟩ => ⟨_, h1, rfl, h2⟩
     ·exact tyAt_new rfl rfl new_frac (below_drew hb1).size
    ·intro j hj u w2 hT
     simp only [List.contains_iff_mem, List.mem_cons, List.not_mem_nil, or_false] at hj
     rcases hj with rfl <;> exact NewB.ptr hT
    ·exact ⟨⟨_, _, _, _, rfl, rfl, rfl, new_frac⟩, trivial⟩
    ·intro fv x8 hb1 hv hne
     have e0 : fv 0 = _ := hv 0 (by omega)
     have e1 : fv 1 = _ := hv 1 (by omega)
     have e2 : fv 2 = _ := hv 2 (by omega)
     have e3 : fv 3 = _ := hv 3 (by omega)
     have e4 : fv 4 = _ := hv 4 (by omega)
     have e5 : fv 5 = _ := hv 5 (by omega)
     have e6 : fv 6 = _ := hv 6 (by omega)
     have e7 : fv 7 = _ := hv 7 (by omega)
     have e8 : fv 8 = _ := hv 8 (by omega)
     have e9 : fv 9 = _ := hv 9 (by omega)
     have q10 : SlQ x8 (fv 10) ([m3, m4, kf]) := hv 10 (by omega)
     obtain ⟨g4, d4, g4c, e10⟩ := slq_form8 q10
     rw [e10] at q10
     have e11 : fv 11 = _ := hv 11 (by omega)
     obtain ⟨kb12r12, e12, n12, m12⟩ : NewB x7.heap.size [.int .u64 0, .string ⟨#[]⟩, .bool false, .int .u64 0, .string ⟨#[]⟩] (fv 12) x8 := hv 12 (by omega)
     simp only [List.take_succ_cons, List.take_zero, putsV, Act.put, zP, List.drop_succ_cons, List.drop_zero, Nat.zero_add, Nat.reduceAdd, e0, e1, e2, e3, e4, e5, e6, e7, e8, e9, e10, e11, e12]
     have hx0 := hL0
     replace hL0 := hL0.call (below_drew hb1)
     replace hT := hT.call (below_drew hb1)
     replace hL0 := GL.tnew (M := []) hL0 hx0 n12 m12 (fun p hp => by cases hp)
     simp only [List.cons_append, List.nil_append] at hL0
     clear e0 e1 e2 e3 e4 e5 e6 e7 e8 e9 e10 e11 e12 hb1 hv hne hx0 n12 m12 q10 fv
     have hT1 := hT.put ((((((Upd.refl kb12r12 x8).setCell 0 (.int .u64 ((zl ty.num : Nat) : Int))).setCell 1 (.string (zh ty.num))).setCell 2 (.bool (zs ty.num))).setCell 3 (.int .u64 ((lo (fe ty) : Nat) : Int))).setCell 4 (.string (hs (fe ty)))) (hL0.get _ _ mZ) (by intro v hv n; simp only [List.mem_cons, List.not_mem_nil, or_false] at hv; rcases hv with rfl | rfl | rfl | rfl | rfl <;> simp)
     have hA := hL0.fc
     simp only [zF, Nat.reduceAdd] at hA
     have hP := hL0.put 0 (kb12r12) _ rfl [.int .u64 ((zl ty.num : Nat) : Int), .string (zh ty.num), .bool (zs ty.num), .int .u64 ((lo (fe ty) : Nat) : Int), .string (hs (fe ty))] rfl
     simp only [setAll, List.set_cons_zero, List.set_cons_succ] at hP
     generalize hput2 : (((((x8.setCell ⟨kb12r12, 0, none⟩ (.int .u64 ((zl ty.num : Nat) : Int))).setCell ⟨kb12r12, 1, none⟩ (.string (zh ty.num))).setCell ⟨kb12r12, 2, none⟩ (.bool (zs ty.num))).setCell ⟨kb12r12, 3, none⟩ (.int .u64 ((lo (fe ty) : Nat) : Int))).setCell ⟨kb12r12, 4, none⟩ (.string (hs (fe ty)))) = x9 at hP hT1
     have hB2 := hP.fc
     simp only [zF, Nat.reduceAdd] at hB2
     replace hL0 := hP
     replace hT := hT1
     clear hT1
     go_upto_region 13 with fail
     clear hput2 hB2
     clear hA
     refine region_tl 16 [EV (.slice g2 d2 g2c), EV (.agg #[.int .u64 ((zl xa.num : Nat) : Int), .string (zh xa.num), .bool (zs xa.num), .int .u64 ((lo (fe xa) : Nat) : Int), .string (hs (fe xa))]), EV (.agg #[.int .u64 ((zl xb.num : Nat) : Int), .string (zh xb.num), .bool (zs xb.num), .int .u64 ((lo (fe xb) : Nat) : Int), .string (hs (fe xb))]), EV (.agg #[.int .u64 ((zl vq.num : Nat) : Int), .string (zh vq.num), .bool (zs vq.num), .int .u64 ((lo (fe vq) : Nat) : Int), .string (hs (fe vq))]), EV (.slice g1 d1 g1c), EV (.agg #[.int .u64 ((zl tx.num : Nat) : Int), .string (zh tx.num), .bool (zs tx.num), .int .u64 ((lo (fe tx) : Nat) : Int), .string (hs (fe tx))]), EV (.agg #[.int .u64 ((zl ty.num : Nat) : Int), .string (zh ty.num), .bool (zs ty.num), .int .u64 ((lo (fe ty) : Nat) : Int), .string (hs (fe ty))]), EV (.agg #[.int .u64 ((zl vq.num : Nat) : Int), .string (zh vq.num), .bool (zs vq.num), .int .u64 ((lo (fe vq) : Nat) : Int), .string (hs (fe vq))]), EV (.bool false), EV (.bool false), EV (.slice g2 d2 g2c), EV (.int .i64 dq), EV (.slice g1 d1 g1c), EV (.int .i64 dp), EV (.bool false), EV (.bool false)] (by kernel_rfl) (by kernel_rfl) ?_ ?_ ?_
     ·repeat' first | exact stays_nil | apply stays_cons | exact stays_eq _
     ·simp only [List.take_succ_cons, List.take_zero, hopsR, and_true]
      refine ⟨?_, ?_, ?_, ?_, ?_, ?_, ?_, ?_, ?_, ?_, ?_, ?_, ?_, ?_, ?_, ?_⟩ <;> intro fv w1 hb1 hp
      all_goals (have hc := (hL0.call (below_drew hb1)).fc; simp only [zF, Nat.reduceAdd] at hc; simp only [putsV, Act.put, zP, Nat.zero_add, Nat.reduceAdd])
      ·refine tyAt_none rfl ?_
       simp [tyUpon, execOp, go_sem, Act.eval, G9, Below.refl]
      ·refine tyAt_none rfl ?_
       simp [tyUpon, execOp, go_sem, Act.eval, hc, G9, Below.refl]
      ·refine tyAt_none rfl ?_
       simp [tyUpon, execOp, go_sem, Act.eval, hc, G9, Below.refl]
      ·have h0 : EV _ (fv 0) w1 := hp 0 (LC (by kernel_rfl))
       have h1 : EV _ (fv 1) w1 := hp 1 (LC (by kernel_rfl))
       have h2 : EV _ (fv 2) w1 := hp 2 (LC (by kernel_rfl))
       refine tyAt_none rfl ?_
       refine ty_call (f := 27) (args := #[.slice g2 d2 g2c, .agg #[.int .u64 ((zl xa.num : Nat) : Int), .string (zh xa.num), .bool (zs xa.num), .int .u64 ((lo (fe xa) : Nat) : Int), .string (hs (fe xa))], .agg #[.int .u64 ((zl xb.num : Nat) : Int), .string (zh xb.num), .bool (zs xb.num), .int .u64 ((lo (fe xb) : Nat) : Int), .string (hs (fe xb))]]) (by simp [execOp, go_sem, Act.eval, h0, h1, h2]) ?_
       exact (T1.out (.slice g2 d2 g2c) w1 (PT.below (hT.get mZ) (below_drew hb1))).mono fun e w2 ⟨h1, h2⟩ => ⟨_, h1, rfl, h2⟩
      ·refine tyAt_none rfl ?_
       simp [tyUpon, execOp, go_sem, Act.eval, G9, Below.refl]
      ·refine tyAt_none rfl ?_
       simp [tyUpon, execOp, go_sem, Act.eval, hc, G9, Below.refl]
      ·refine tyAt_none rfl ?_
       simp [tyUpon, execOp, go_sem, Act.eval, hc, G9, Below.refl]
      ·have h4 : EV _ (fv 4) w1 := hp 4 (LC (by kernel_rfl))
       have h5 : EV _ (fv 5) w1 := hp 5 (LC (by kernel_rfl))
       have h6 : EV _ (fv 6) w1 := hp 6 (LC (by kernel_rfl))
       refine tyAt_none rfl ?_
       refine ty_call (f := 27) (args := #[.slice g1 d1 g1c, .agg #[.int .u64 ((zl tx.num : Nat) : Int), .string (zh tx.num), .bool (zs tx.num), .int .u64 ((lo (fe tx) : Nat) : Int), .string (hs (fe tx))], .agg #[.int .u64 ((zl ty.num : Nat) : Int), .string (zh ty.num), .bool (zs ty.num), .int .u64 ((lo (fe ty) : Nat) : Int), .string (hs (fe ty))]]) (by simp [execOp, go_sem, Act.eval, h4, h5, h6]) ?_
       exact (T2.out (.slice g1 d1 g1c) w1 (PT.below (hT.get (mK mZ)) (below_drew hb1))).mono fun e w2 ⟨h1, h2⟩ => ⟨_, h1, rfl, h2⟩
      ·have h3 : EV _ (fv 3) w1 := hp 3 (LC (by kernel_rfl))
       have h7 : EV _ (fv 7) w1 := hp 7 (LC (by kernel_rfl))
       refine tyAt_none rfl ?_
       simp [tyUpon, execOp, go_sem, Act.eval, h3, h7, G9, Below.refl]
      ·have h8 : EV _ (fv 8) w1 := hp 8 (LC (by kernel_rfl))
       refine tyAt_none rfl ?_
       simp [tyUpon, execOp, go_sem, Act.eval, h8, G9, Below.refl]
      ·have h9 : EV _ (fv 9) w1 := hp 9 (LC (by kernel_rfl))
       refine tyAt_yes (by simp [Region.wanted, yielded, h9]) ?_
       simp [tyUpon, execOp, go_sem, Act.eval, h9, G9, Below.refl]
      ·have h10 : EV _ (fv 10) w1 := hp 10 (LC (by kernel_rfl))
       have h9 : EV _ (fv 9) w1 := hp 9 (LC (by kernel_rfl))
       refine tyAt_yes (by simp [Region.wanted, yielded, h10, h9]) ?_
       refine ty_call (f := 15) (args := #[.slice g2 d2 g2c]) (by simp [execOp, go_sem, Act.eval, h10, h9]) ?_
       exact (D1.out (.slice g2 d2 g2c) w1 (PT.below (hT.get mZ) (below_drew hb1))).mono fun e w2 ⟨h1, h2⟩ => ⟨_, h1, rfl, h2⟩
      ·have h9 : EV _ (fv 9) w1 := hp 9 (LC (by kernel_rfl))
       refine tyAt_yes (by simp [Region.wanted, yielded, h9]) ?_
       simp [tyUpon, execOp, go_sem, Act.eval, h9, G9, Below.refl]
      ·have h12 : EV _ (fv 12) w1 := hp 12 (LC (by kernel_rfl))
       have h9 : EV _ (fv 9) w1 := hp 9 (LC (by kernel_rfl))
       refine tyAt_yes (by simp [Region.wanted, yielded, h12, h9]) ?_
       refine ty_call (f := 15) (args := #[.slice g1 d1 g1c]) (by simp [execOp, go_sem, Act.eval, h12, h9]) ?_
       exact (D2.out (.slice g1 d1 g1c) w1 (PT.below (hT.get (mK mZ)) (below_drew hb1))).mono fun e w2 ⟨h1, h2⟩ => ⟨_, h1, rfl, h2⟩
      ·have h11 : EV _ (fv 11) w1 := hp 11 (LC (by kernel_rfl))
       have h13 : EV _ (fv 13) w1 := hp 13 (LC (by kernel_rfl))
       have h9 : EV _ (fv 9) w1 := hp 9 (LC (by kernel_rfl))
       refine tyAt_yes (by simp [Region.wanted, yielded, h11, h13, h9]) ?_
       simp [tyUpon, execOp, go_sem, Act.eval, h11, h13, h9, G9, Below.refl]
      ·have h9 : EV _ (fv 9) w1 := hp 9 (LC (by kernel_rfl))
       have h14 : EV _ (fv 14) w1 := hp 14 (LC (by kernel_rfl))
       refine tyAt_none rfl ?_
       simp [tyUpon, execOp, go_sem, Act.eval, h9, h14, G9, Below.refl]
     ·intro fv x10 hb1 hv
      have e0 : fv 0 = _ := hv 0 (by omega)
      have e1 : fv 1 = _ := hv 1 (by omega)
      have e2 : fv 2 = _ := hv 2 (by omega)
      have e3 : fv 3 = _ := hv 3 (by omega)
      have e4 : fv 4 = _ := hv 4 (by omega)
      have e5 : fv 5 = _ := hv 5 (by omega)
      have e6 : fv 6 = _ := hv 6 (by omega)
      have e7 : fv 7 = _ := hv 7 (by omega)
      have e8 : fv 8 = _ := hv 8 (by omega)
      have e9 : fv 9 = _ := hv 9 (by omega)
      have e10 : fv 10 = _ := hv 10 (by omega)
      have e11 : fv 11 = _ := hv 11 (by omega)
      have e12 : fv 12 = _ := hv 12 (by omega)
      have e13 : fv 13 = _ := hv 13 (by omega)
      have e14 : fv 14 = _ := hv 14 (by omega)
      have e15 : fv 15 = _ := hv 15 (by omega)
      simp only [List.take_succ_cons, List.take_zero, putsV, Act.put, zP, List.drop_succ_cons, List.drop_zero, Nat.zero_add, Nat.reduceAdd, e0, e1, e2, e3, e4, e5, e6, e7, e8, e9, e10, e11, e12, e13, e14, e15]
      replace hL0 := hL0.call (below_drew hb1)
      replace hT := hT.call (below_drew hb1)
      clear e0 e1 e2 e3 e4 e5 e6 e7 e8 e9 e10 e11 e12 e13 e14 e15 hb1 hv fv
      go_upto_region 15 with fail
      refine region_tl 16 [EV (.slice g1 d1 g1c), PP pz, EV (.pointer (some ⟨x2.heap.size, 0, none⟩)), EV (.agg #[.int .u64 ((zl ka.num : Nat) : Int), .string (zh ka.num), .bool (zs ka.num), .int .u64 ((lo (fe ka) : Nat) : Int), .string (hs (fe ka))]), EV (.pointer (some ⟨x2.heap.size, 5, none⟩)), EV (.agg #[.int .u64 ((zl kb.num : Nat) : Int), .string (zh kb.num), .bool (zs kb.num), .int .u64 ((lo (fe kb) : Nat) : Int), .string (hs (fe kb))]), EV (.pointer (some ⟨x2.heap.size, 10, none⟩)), EV (.agg #[.int .u64 ((zl kc.num : Nat) : Int), .string (zh kc.num), .bool (zs kc.num), .int .u64 ((lo (fe kc) : Nat) : Int), .string (hs (fe kc))]), EV (.pointer (some ⟨x2.heap.size, 15, none⟩)), EV (.agg #[.int .u64 ((zl kd.num : Nat) : Int), .string (zh kd.num), .bool (zs kd.num), .int .u64 ((lo (fe kd) : Nat) : Int), .string (hs (fe kd))]), EV (.pointer (some ⟨x2.heap.size, 20, none⟩)), EV (.agg #[.int .u64 ((zl ke.num : Nat) : Int), .string (zh ke.num), .bool (zs ke.num), .int .u64 ((lo (fe ke) : Nat) : Int), .string (hs (fe ke))]), EV (.pointer (some ⟨x2.heap.size, 25, none⟩)), EV (.agg #[.int .u64 ((zl kf.num : Nat) : Int), .string (zh kf.num), .bool (zs kf.num), .int .u64 ((lo (fe kf) : Nat) : Int), .string (hs (fe kf))]), PP px, PP px] (by kernel_rfl) (by kernel_rfl) ?_ ?_ ?_
      ·repeat' first | exact stays_nil | apply stays_cons | exact stays_eq _ | exact stays_pt _
      ·simp only [List.take_succ_cons, List.take_zero, hopsR, and_true]
       refine ⟨?_, ?_, ?_, ?_, ?_, ?_, ?_, ?_, ?_, ?_, ?_, ?_, ?_, ?_, ?_, ?_⟩ <;> intro fv w1 hb1 hp
       all_goals (have hc := (hL0.call (below_drew hb1)).fc; simp only [zF, Nat.reduceAdd] at hc; simp only [putsV, Act.put, zP, Nat.zero_add, Nat.reduceAdd])
       ·refine tyAt_none rfl ?_
        simp [tyUpon, execOp, go_sem, Act.eval, G9, Below.refl]
       ·have h0 : EV _ (fv 0) w1 := hp 0 (LC (by kernel_rfl))
        refine tyAt_none rfl ?_
        refine ty_call (f := 32) (args := #[.slice g1 d1 g1c]) (by simp [execOp, go_sem, Act.eval, h0]) ?_
        exact (Dx1.out (.slice g1 d1 g1c) w1 (PT.below (hT.get (mK mZ)) (below_drew hb1))).mono fun e w2 ⟨pv, h1, h2, h3⟩ => ⟨pv, h1, h2, h3⟩
       ·refine tyAt_none rfl ?_
        simp [tyUpon, execOp, go_sem, Act.eval, G9, Below.refl]
       ·have h2 : EV _ (fv 2) w1 := hp 2 (LC (by kernel_rfl))
        refine tyAt_none rfl ?_
        simp [tyUpon, execOp, go_sem, Act.eval, hc, h2, G9, Below.refl]
       ·refine tyAt_none rfl ?_
        simp [tyUpon, execOp, go_sem, Act.eval, G9, Below.refl]
       ·have h4 : EV _ (fv 4) w1 := hp 4 (LC (by kernel_rfl))
        refine tyAt_none rfl ?_
        simp [tyUpon, execOp, go_sem, Act.eval, hc, h4, G9, Below.refl]
       ·refine tyAt_none rfl ?_
        simp [tyUpon, execOp, go_sem, Act.eval, G9, Below.refl]
       ·have h6 : EV _ (fv 6) w1 := hp 6 (LC (by kernel_rfl))
        refine tyAt_none rfl ?_
        simp [tyUpon, execOp, go_sem, Act.eval, hc, h6, G9, Below.refl]
       ·refine tyAt_none rfl ?_
        simp [tyUpon, execOp, go_sem, Act.eval, G9, Below.refl]
       ·have h8 : EV _ (fv 8) w1 := hp 8 (LC (by kernel_rfl))
        refine tyAt_none rfl ?_
        simp [tyUpon, execOp, go_sem, Act.eval, hc, h8, G9, Below.refl]
       ·refine tyAt_none rfl ?_
        simp [tyUpon, execOp, go_sem, Act.eval, G9, Below.refl]
       ·have h10 : EV _ (fv 10) w1 := hp 10 (LC (by kernel_rfl))
        refine tyAt_none rfl ?_
        simp [tyUpon, execOp, go_sem, Act.eval, hc, h10, G9, Below.refl]
       ·refine tyAt_none rfl ?_
        simp [tyUpon, execOp, go_sem, Act.eval, G9, Below.refl]
       ·have h12 : EV _ (fv 12) w1 := hp 12 (LC (by kernel_rfl))
        refine tyAt_none rfl ?_
        simp [tyUpon, execOp, go_sem, Act.eval, hc, h12, G9, Below.refl]
       ·have h1 : (PP pz) (fv 1) w1 := hp 1 (LC (by kernel_rfl))
        have h3 : EV _ (fv 3) w1 := hp 3 (LC (by kernel_rfl))
        have h5 : EV _ (fv 5) w1 := hp 5 (LC (by kernel_rfl))
        have h7 : EV _ (fv 7) w1 := hp 7 (LC (by kernel_rfl))
        have h9 : EV _ (fv 9) w1 := hp 9 (LC (by kernel_rfl))
        have h11 : EV _ (fv 11) w1 := hp 11 (LC (by kernel_rfl))
        have h13 : EV _ (fv 13) w1 := hp 13 (LC (by kernel_rfl))
        refine tyAt_none rfl ?_
        refine ty_call (f := 37) (args := #[fv 1, .agg #[.int .u64 ((zl ka.num : Nat) : Int), .string (zh ka.num), .bool (zs ka.num), .int .u64 ((lo (fe ka) : Nat) : Int), .string (hs (fe ka))], .agg #[.int .u64 ((zl kb.num : Nat) : Int), .string (zh kb.num), .bool (zs kb.num), .int .u64 ((lo (fe kb) : Nat) : Int), .string (hs (fe kb))], .agg #[.int .u64 ((zl kc.num : Nat) : Int), .string (zh kc.num), .bool (zs kc.num), .int .u64 ((lo (fe kc) : Nat) : Int), .string (hs (fe kc))], .agg #[.int .u64 ((zl kd.num : Nat) : Int), .string (zh kd.num), .bool (zs kd.num), .int .u64 ((lo (fe kd) : Nat) : Int), .string (hs (fe kd))], .agg #[.int .u64 ((zl ke.num : Nat) : Int), .string (zh ke.num), .bool (zs ke.num), .int .u64 ((lo (fe ke) : Nat) : Int), .string (hs (fe ke))], .agg #[.int .u64 ((zl kf.num : Nat) : Int), .string (zh kf.num), .bool (zs kf.num), .int .u64 ((lo (fe kf) : Nat) : Int), .string (hs (fe kf))]]) (by simp [execOp, go_sem, Act.eval, h3, h5, h7, h9, h11, h13]) ?_
        exact (Sh2.out (fv 1) w1 h1).mono fun e w2 ⟨pv, h1, h2, h3⟩ => ⟨pv, h1, h2, h3⟩
       ·have h14 : (PP px) (fv 14) w1 := hp 14 (LC (by kernel_rfl))
        refine tyAt_none rfl ?_
        simp [tyUpon, execOp, go_sem, Act.eval, Below.refl]
        exact h14
      ·intro fv x11 hb1 hv
       have e0 : fv 0 = _ := hv 0 (by omega)
       have q1 : PT x11 (fv 1) pz := hv 1 (by omega)
       obtain ⟨g5, d5, g5c, e1, -⟩ := pt_form q1
       rw [e1] at q1
       have e2 : fv 2 = _ := hv 2 (by omega)
       have e3 : fv 3 = _ := hv 3 (by omega)
       have e4 : fv 4 = _ := hv 4 (by omega)
       have e5 : fv 5 = _ := hv 5 (by omega)
       have e6 : fv 6 = _ := hv 6 (by omega)
       have e7 : fv 7 = _ := hv 7 (by omega)
       have e8 : fv 8 = _ := hv 8 (by omega)
       have e9 : fv 9 = _ := hv 9 (by omega)
       have e10 : fv 10 = _ := hv 10 (by omega)
       have e11 : fv 11 = _ := hv 11 (by omega)
       have e12 : fv 12 = _ := hv 12 (by omega)
       have e13 : fv 13 = _ := hv 13 (by omega)
       have q14 : PT x11 (fv 14) px := hv 14 (by omega)
       obtain ⟨g6, d6, g6c, e14, -⟩ := pt_form q14
       rw [e14] at q14
       have q15 : PT x11 (fv 15) px := hv 15 (by omega)
       obtain ⟨g7, d7, g7c, e15, -⟩ := pt_form q15
       rw [e15] at q15
       simp only [List.take_succ_cons, List.take_zero, putsV, Act.put, zP, List.drop_succ_cons, List.drop_zero, Nat.zero_add, Nat.reduceAdd, e0, e1, e2, e3, e4, e5, e6, e7, e8, e9, e10, e11, e12, e13, e14, e15]
       replace hL0 := hL0.call (below_drew hb1)
       replace hT := hT.call (below_drew hb1)
       replace hT := hT.cons q1
       replace hT := hT.cons q14
       replace hT := hT.cons q15
       clear e0 e1 e2 e3 e4 e5 e6 e7 e8 e9 e10 e11 e12 e13 e14 e15 hb1 hv q1 q14 q15 fv
       go_upto_region 16 with fail
       refine region_tl 16 [EV (.slice g1 d1 g1c), PP pw, EV (.pointer (some ⟨x2.heap.size, 0, none⟩)), EV (.agg #[.int .u64 ((zl ka.num : Nat) : Int), .string (zh ka.num), .bool (zs ka.num), .int .u64 ((lo (fe ka) : Nat) : Int), .string (hs (fe ka))]), EV (.pointer (some ⟨x2.heap.size, 5, none⟩)), EV (.agg #[.int .u64 ((zl kb.num : Nat) : Int), .string (zh kb.num), .bool (zs kb.num), .int .u64 ((lo (fe kb) : Nat) : Int), .string (hs (fe kb))]), EV (.pointer (some ⟨x2.heap.size, 10, none⟩)), EV (.agg #[.int .u64 ((zl kc.num : Nat) : Int), .string (zh kc.num), .bool (zs kc.num), .int .u64 ((lo (fe kc) : Nat) : Int), .string (hs (fe kc))]), EV (.pointer (some ⟨x2.heap.size, 15, none⟩)), EV (.agg #[.int .u64 ((zl kd.num : Nat) : Int), .string (zh kd.num), .bool (zs kd.num), .int .u64 ((lo (fe kd) : Nat) : Int), .string (hs (fe kd))]), EV (.pointer (some ⟨x2.heap.size, 20, none⟩)), EV (.agg #[.int .u64 ((zl ke.num : Nat) : Int), .string (zh ke.num), .bool (zs ke.num), .int .u64 ((lo (fe ke) : Nat) : Int), .string (hs (fe ke))]), EV (.pointer (some ⟨x2.heap.size, 25, none⟩)), EV (.agg #[.int .u64 ((zl kf.num : Nat) : Int), .string (zh kf.num), .bool (zs kf.num), .int .u64 ((lo (fe kf) : Nat) : Int), .string (hs (fe kf))]), PP py, PP py] (by kernel_rfl) (by kernel_rfl) ?_ ?_ ?_
       ·repeat' first | exact stays_nil | apply stays_cons | exact stays_eq _ | exact stays_pt _
       ·simp only [List.take_succ_cons, List.take_zero, hopsR, and_true]
        refine ⟨?_, ?_, ?_, ?_, ?_, ?_, ?_, ?_, ?_, ?_, ?_, ?_, ?_, ?_, ?_, ?_⟩ <;> intro fv w1 hb1 hp
        all_goals (have hc := (hL0.call (below_drew hb1)).fc; simp only [zF, Nat.reduceAdd] at hc; simp only [putsV, Act.put, zP, Nat.zero_add, Nat.reduceAdd])
        ·refine tyAt_none rfl ?_
         simp [tyUpon, execOp, go_sem, Act.eval, G9, Below.refl]
        ·have h0 : EV _ (fv 0) w1 := hp 0 (LC (by kernel_rfl))
         refine tyAt_none rfl ?_
         refine ty_call (f := 33) (args := #[.slice g1 d1 g1c]) (by simp [execOp, go_sem, Act.eval, h0]) ?_
         exact (Dy1.out (.slice g1 d1 g1c) w1 (PT.below (hT.get (mK (mK (mK (mK mZ))))) (below_drew hb1))).mono fun e w2 ⟨pv, h1, h2, h3⟩ => ⟨pv, h1, h2, h3⟩
        ·refine tyAt_none rfl ?_
         simp [tyUpon, execOp, go_sem, Act.eval, G9, Below.refl]
        ·have h2 : EV _ (fv 2) w1 := hp 2 (LC (by kernel_rfl))
         refine tyAt_none rfl ?_
         simp [tyUpon, execOp, go_sem, Act.eval, hc, h2, G9, Below.refl]
        ·refine tyAt_none rfl ?_
         simp [tyUpon, execOp, go_sem, Act.eval, G9, Below.refl]
        ·have h4 : EV _ (fv 4) w1 := hp 4 (LC (by kernel_rfl))
         refine tyAt_none rfl ?_
         simp [tyUpon, execOp, go_sem, Act.eval, hc, h4, G9, Below.refl]
        ·refine tyAt_none rfl ?_
         simp [tyUpon, execOp, go_sem, Act.eval, G9, Below.refl]
        ·have h6 : EV _ (fv 6) w1 := hp 6 (LC (by kernel_rfl))
         refine tyAt_none rfl ?_
         simp [tyUpon, execOp, go_sem, Act.eval, hc, h6, G9, Below.refl]
        ·refine tyAt_none rfl ?_
         simp [tyUpon, execOp, go_sem, Act.eval, G9, Below.refl]
        ·have h8 : EV _ (fv 8) w1 := hp 8 (LC (by kernel_rfl))
         refine tyAt_none rfl ?_
         simp [tyUpon, execOp, go_sem, Act.eval, hc, h8, G9, Below.refl]
        ·refine tyAt_none rfl ?_
         simp [tyUpon, execOp, go_sem, Act.eval, G9, Below.refl]
        ·have h10 : EV _ (fv 10) w1 := hp 10 (LC (by kernel_rfl))
         refine tyAt_none rfl ?_
         simp [tyUpon, execOp, go_sem, Act.eval, hc, h10, G9, Below.refl]
        ·refine tyAt_none rfl ?_
         simp [tyUpon, execOp, go_sem, Act.eval, G9, Below.refl]
        ·have h12 : EV _ (fv 12) w1 := hp 12 (LC (by kernel_rfl))
         refine tyAt_none rfl ?_
         simp [tyUpon, execOp, go_sem, Act.eval, hc, h12, G9, Below.refl]
        ·have h1 : (PP pw) (fv 1) w1 := hp 1 (LC (by kernel_rfl))
         have h3 : EV _ (fv 3) w1 := hp 3 (LC (by kernel_rfl))
         have h5 : EV _ (fv 5) w1 := hp 5 (LC (by kernel_rfl))
         have h7 : EV _ (fv 7) w1 := hp 7 (LC (by kernel_rfl))
         have h9 : EV _ (fv 9) w1 := hp 9 (LC (by kernel_rfl))
         have h11 : EV _ (fv 11) w1 := hp 11 (LC (by kernel_rfl))
         have h13 : EV _ (fv 13) w1 := hp 13 (LC (by kernel_rfl))
         refine tyAt_none rfl ?_
         refine ty_call (f := 37) (args := #[fv 1, .agg #[.int .u64 ((zl ka.num : Nat) : Int), .string (zh ka.num), .bool (zs ka.num), .int .u64 ((lo (fe ka) : Nat) : Int), .string (hs (fe ka))], .agg #[.int .u64 ((zl kb.num : Nat) : Int), .string (zh kb.num), .bool (zs kb.num), .int .u64 ((lo (fe kb) : Nat) : Int), .string (hs (fe kb))], .agg #[.int .u64 ((zl kc.num : Nat) : Int), .string (zh kc.num), .bool (zs kc.num), .int .u64 ((lo (fe kc) : Nat) : Int), .string (hs (fe kc))], .agg #[.int .u64 ((zl kd.num : Nat) : Int), .string (zh kd.num), .bool (zs kd.num), .int .u64 ((lo (fe kd) : Nat) : Int), .string (hs (fe kd))], .agg #[.int .u64 ((zl ke.num : Nat) : Int), .string (zh ke.num), .bool (zs ke.num), .int .u64 ((lo (fe ke) : Nat) : Int), .string (hs (fe ke))], .agg #[.int .u64 ((zl kf.num : Nat) : Int), .string (zh kf.num), .bool (zs kf.num), .int .u64 ((lo (fe kf) : Nat) : Int), .string (hs (fe kf))]]) (by simp [execOp, go_sem, Act.eval, h3, h5, h7, h9, h11, h13]) ?_
         exact (Sh3.out (fv 1) w1 h1).mono fun e w2 ⟨pv, h1, h2, h3⟩ => ⟨pv, h1, h2, h3⟩
        ·have h14 : (PP py) (fv 14) w1 := hp 14 (LC (by kernel_rfl))
         refine tyAt_none rfl ?_
         simp [tyUpon, execOp, go_sem, Act.eval, Below.refl]
         exact h14
       ·intro fv x12 hb1 hv
        have e0 : fv 0 = _ := hv 0 (by omega)
        have q1 : PT x12 (fv 1) pw := hv 1 (by omega)
        obtain ⟨g8, d8, g8c, e1, -⟩ := pt_form q1
        rw [e1] at q1
        have e2 : fv 2 = _ := hv 2 (by omega)
        have e3 : fv 3 = _ := hv 3 (by omega)
        have e4 : fv 4 = _ := hv 4 (by omega)
        have e5 : fv 5 = _ := hv 5 (by omega)
        have e6 : fv 6 = _ := hv 6 (by omega)
        have e7 : fv 7 = _ := hv 7 (by omega)
        have e8 : fv 8 = _ := hv 8 (by omega)
        have e9 : fv 9 = _ := hv 9 (by omega)
        have e10 : fv 10 = _ := hv 10 (by omega)
        have e11 : fv 11 = _ := hv 11 (by omega)
        have e12 : fv 12 = _ := hv 12 (by omega)
        have e13 : fv 13 = _ := hv 13 (by omega)
        have q14 : PT x12 (fv 14) py := hv 14 (by omega)
        obtain ⟨g9, d9, g9c, e14, -⟩ := pt_form q14
        rw [e14] at q14
        have q15 : PT x12 (fv 15) py := hv 15 (by omega)
        obtain ⟨g10, d10, g10c, e15, -⟩ := pt_form q15
        rw [e15] at q15
        simp only [List.take_succ_cons, List.take_zero, putsV, Act.put, zP, List.drop_succ_cons, List.drop_zero, Nat.zero_add, Nat.reduceAdd, e0, e1, e2, e3, e4, e5, e6, e7, e8, e9, e10, e11, e12, e13, e14, e15]
        replace hL0 := hL0.call (below_drew hb1)
        replace hT := hT.call (below_drew hb1)
        replace hT := hT.cons q1
        replace hT := hT.cons q14
        replace hT := hT.cons q15
        clear e0 e1 e2 e3 e4 e5 e6 e7 e8 e9 e10 e11 e12 e13 e14 e15 hb1 hv q1 q14 q15 fv
        go_upto_region 17 with fail
        refine region_tl 28 [EV (.slice g2 d2 g2c), PP r1, EV (.slice g7 d7 g7c), EV (.pointer (some ⟨x2.heap.size, 0, none⟩)), EV (.agg #[.int .u64 ((zl ka.num : Nat) : Int), .string (zh ka.num), .bool (zs ka.num), .int .u64 ((lo (fe ka) : Nat) : Int), .string (hs (fe ka))]), PP s1, EV (.slice g10 d10 g10c), EV (.pointer (some ⟨x2.heap.size, 15, none⟩)), EV (.agg #[.int .u64 ((zl kd.num : Nat) : Int), .string (zh kd.num), .bool (zs kd.num), .int .u64 ((lo (fe kd) : Nat) : Int), .string (hs (fe kd))]), PP s2, PP r2, EV (.bool true), EV (.bool false), EV (.bool false), EV (.slice g2 d2 g2c), PP r3, EV (.slice g7 d7 g7c), EV (.pointer (some ⟨x2.heap.size, 5, none⟩)), EV (.agg #[.int .u64 ((zl kb.num : Nat) : Int), .string (zh kb.num), .bool (zs kb.num), .int .u64 ((lo (fe kb) : Nat) : Int), .string (hs (fe kb))]), PP s3, EV (.slice g10 d10 g10c), EV (.pointer (some ⟨x2.heap.size, 20, none⟩)), EV (.agg #[.int .u64 ((zl ke.num : Nat) : Int), .string (zh ke.num), .bool (zs ke.num), .int .u64 ((lo (fe ke) : Nat) : Int), .string (hs (fe ke))]), PP s4, PP r4, EV (.bool true), EV (.bool false), EV (.bool false)] (by kernel_rfl) (by kernel_rfl) ?_ ?_ ?_
        ·repeat' first | exact stays_nil | apply stays_cons | exact stays_eq _ | exact stays_pt _
        ·simp only [List.take_succ_cons, List.take_zero, hopsR, and_true]
         refine ⟨?_, ?_, ?_, ?_, ?_, ?_, ?_, ?_, ?_, ?_, ?_, ?_, ?_, ?_, ?_, ?_, ?_, ?_, ?_, ?_, ?_, ?_, ?_, ?_, ?_, ?_, ?_, ?_⟩ <;> intro fv w1 hb1 hp
         all_goals (have hc := (hL0.call (below_drew hb1)).fc; simp only [zF, Nat.reduceAdd] at hc; simp only [putsV, Act.put, zP, Nat.zero_add, Nat.reduceAdd])
         ·refine tyAt_none rfl ?_
          simp [tyUpon, execOp, go_sem, Act.eval, G9, Below.refl]
         ·have h0 : EV _ (fv 0) w1 := hp 0 (LC (by kernel_rfl))
          refine tyAt_none rfl ?_
          refine ty_call (f := 32) (args := #[.slice g2 d2 g2c]) (by simp [execOp, go_sem, Act.eval, h0]) ?_
          exact (Dx2.out (.slice g2 d2 g2c) w1 (PT.below (hT.get (mK (mK (mK (mK (mK (mK mZ))))))) (below_drew hb1))).mono fun e w2 ⟨pv, h1, h2, h3⟩ => ⟨pv, h1, h2, h3⟩
         ·refine tyAt_none rfl ?_
          simp [tyUpon, execOp, go_sem, Act.eval, G9, Below.refl]
         ·refine tyAt_none rfl ?_
          simp [tyUpon, execOp, go_sem, Act.eval, G9, Below.refl]
         ·have h3 : EV _ (fv 3) w1 := hp 3 (LC (by kernel_rfl))
          refine tyAt_none rfl ?_
          simp [tyUpon, execOp, go_sem, Act.eval, hc, h3, G9, Below.refl]
         ·have h2 : EV _ (fv 2) w1 := hp 2 (LC (by kernel_rfl))
          have h4 : EV _ (fv 4) w1 := hp 4 (LC (by kernel_rfl))
          refine tyAt_none rfl ?_
          refine ty_call (f := 39) (args := #[.slice g7 d7 g7c, .agg #[.int .u64 ((zl ka.num : Nat) : Int), .string (zh ka.num), .bool (zs ka.num), .int .u64 ((lo (fe ka) : Nat) : Int), .string (hs (fe ka))]]) (by simp [execOp, go_sem, Act.eval, h2, h4]) ?_
          exact (C1.out (.slice g7 d7 g7c) w1 (PT.below (hT.get (mK (mK (mK mZ)))) (below_drew hb1))).mono fun e w2 ⟨pv, h1, h2, h3⟩ => ⟨pv, h1, h2, h3⟩
         ·refine tyAt_none rfl ?_
          simp [tyUpon, execOp, go_sem, Act.eval, G9, Below.refl]
         ·refine tyAt_none rfl ?_
          simp [tyUpon, execOp, go_sem, Act.eval, G9, Below.refl]
         ·have h7 : EV _ (fv 7) w1 := hp 7 (LC (by kernel_rfl))
          refine tyAt_none rfl ?_
          simp [tyUpon, execOp, go_sem, Act.eval, hc, h7, G9, Below.refl]
         ·have h6 : EV _ (fv 6) w1 := hp 6 (LC (by kernel_rfl))
          have h8 : EV _ (fv 8) w1 := hp 8 (LC (by kernel_rfl))
          refine tyAt_none rfl ?_
          refine ty_call (f := 39) (args := #[.slice g10 d10 g10c, .agg #[.int .u64 ((zl kd.num : Nat) : Int), .string (zh kd.num), .bool (zs kd.num), .int .u64 ((lo (fe kd) : Nat) : Int), .string (hs (fe kd))]]) (by simp [execOp, go_sem, Act.eval, h6, h8]) ?_
          exact (C2.out (.slice g10 d10 g10c) w1 (PT.below (hT.get mZ) (below_drew hb1))).mono fun e w2 ⟨pv, h1, h2, h3⟩ => ⟨pv, h1, h2, h3⟩
         ·have h5 : (PP s1) (fv 5) w1 := hp 5 (LC (by kernel_rfl))
          have h9 : (PP s2) (fv 9) w1 := hp 9 (LC (by kernel_rfl))
          refine tyAt_none rfl ?_
          refine ty_call (f := 24) (args := #[fv 5, fv 9]) (by simp [execOp, go_sem, Act.eval]) ?_
          exact (A1.out (fv 5) (fv 9) w1 h5 h9).mono fun e w2 ⟨pv, h1, h2, h3⟩ => ⟨pv, h1, h2, h3⟩
         ·have h1 : (PP r1) (fv 1) w1 := hp 1 (LC (by kernel_rfl))
          have h10 : (PP r2) (fv 10) w1 := hp 10 (LC (by kernel_rfl))
          refine tyAt_none rfl ?_
          refine ty_call (f := 17) (args := #[fv 1, fv 10]) (by simp [execOp, go_sem, Act.eval]) ?_
          exact (S1.out (fv 1) (fv 10) w1 h1 h10).mono fun e w2 ⟨h1, h2⟩ => ⟨_, h1, rfl, h2⟩
         ·have h11 : EV _ (fv 11) w1 := hp 11 (LC (by kernel_rfl))
          refine tyAt_none rfl ?_
          simp [tyUpon, execOp, go_sem, Act.eval, h11, G9, Below.refl]
         ·have h12 : EV _ (fv 12) w1 := hp 12 (LC (by kernel_rfl))
          refine tyAt_none rfl ?_
          simp [tyUpon, execOp, go_sem, Act.eval, h12, G9, Below.refl]
         ·have h13 : EV _ (fv 13) w1 := hp 13 (LC (by kernel_rfl))
          refine tyAt_yes (by simp [Region.wanted, yielded, h13]) ?_
          simp [tyUpon, execOp, go_sem, Act.eval, h13, G9, Below.refl]
         ·have h14 : EV _ (fv 14) w1 := hp 14 (LC (by kernel_rfl))
          have h13 : EV _ (fv 13) w1 := hp 13 (LC (by kernel_rfl))
          refine tyAt_yes (by simp [Region.wanted, yielded, h14, h13]) ?_
          refine ty_call (f := 33) (args := #[.slice g2 d2 g2c]) (by simp [execOp, go_sem, Act.eval, h14, h13]) ?_
          exact (Dy2.out (.slice g2 d2 g2c) w1 (PT.below (hT.get (mK (mK (mK (mK (mK (mK mZ))))))) (below_drew hb1))).mono fun e w2 ⟨pv, h1, h2, h3⟩ => ⟨pv, h1, h2, h3⟩
         ·have h13 : EV _ (fv 13) w1 := hp 13 (LC (by kernel_rfl))
          refine tyAt_yes (by simp [Region.wanted, yielded, h13]) ?_
          simp [tyUpon, execOp, go_sem, Act.eval, h13, G9, Below.refl]
         ·have h13 : EV _ (fv 13) w1 := hp 13 (LC (by kernel_rfl))
          refine tyAt_yes (by simp [Region.wanted, yielded, h13]) ?_
          simp [tyUpon, execOp, go_sem, Act.eval, h13, G9, Below.refl]
         ·have h17 : EV _ (fv 17) w1 := hp 17 (LC (by kernel_rfl))
          have h13 : EV _ (fv 13) w1 := hp 13 (LC (by kernel_rfl))
          refine tyAt_yes (by simp [Region.wanted, yielded, h17, h13]) ?_
          simp [tyUpon, execOp, go_sem, Act.eval, hc, h17, h13, G9, Below.refl]
         ·have h16 : EV _ (fv 16) w1 := hp 16 (LC (by kernel_rfl))
          have h18 : EV _ (fv 18) w1 := hp 18 (LC (by kernel_rfl))
          have h13 : EV _ (fv 13) w1 := hp 13 (LC (by kernel_rfl))
          refine tyAt_yes (by simp [Region.wanted, yielded, h16, h18, h13]) ?_
          refine ty_call (f := 39) (args := #[.slice g7 d7 g7c, .agg #[.int .u64 ((zl kb.num : Nat) : Int), .string (zh kb.num), .bool (zs kb.num), .int .u64 ((lo (fe kb) : Nat) : Int), .string (hs (fe kb))]]) (by simp [execOp, go_sem, Act.eval, h16, h18, h13]) ?_
          exact (C3.out (.slice g7 d7 g7c) w1 (PT.below (hT.get (mK (mK (mK mZ)))) (below_drew hb1))).mono fun e w2 ⟨pv, h1, h2, h3⟩ => ⟨pv, h1, h2, h3⟩
         ·have h13 : EV _ (fv 13) w1 := hp 13 (LC (by kernel_rfl))
          refine tyAt_yes (by simp [Region.wanted, yielded, h13]) ?_
          simp [tyUpon, execOp, go_sem, Act.eval, h13, G9, Below.refl]
         ·have h13 : EV _ (fv 13) w1 := hp 13 (LC (by kernel_rfl))
          refine tyAt_yes (by simp [Region.wanted, yielded, h13]) ?_
          simp [tyUpon, execOp, go_sem, Act.eval, h13, G9, Below.refl]
         ·have h21 : EV _ (fv 21) w1 := hp 21 (LC (by kernel_rfl))
          have h13 : EV _ (fv 13) w1 := hp 13 (LC (by kernel_rfl))
          refine tyAt_yes (by simp [Region.wanted, yielded, h21, h13]) ?_
          simp [tyUpon, execOp, go_sem, Act.eval, hc, h21, h13, G9, Below.refl]
         ·have h20 : EV _ (fv 20) w1 := hp 20 (LC (by kernel_rfl))
          have h22 : EV _ (fv 22) w1 := hp 22 (LC (by kernel_rfl))
          have h13 : EV _ (fv 13) w1 := hp 13 (LC (by kernel_rfl))
          refine tyAt_yes (by simp [Region.wanted, yielded, h20, h22, h13]) ?_
          refine ty_call (f := 39) (args := #[.slice g10 d10 g10c, .agg #[.int .u64 ((zl ke.num : Nat) : Int), .string (zh ke.num), .bool (zs ke.num), .int .u64 ((lo (fe ke) : Nat) : Int), .string (hs (fe ke))]]) (by simp [execOp, go_sem, Act.eval, h20, h22, h13]) ?_
          exact (C4.out (.slice g10 d10 g10c) w1 (PT.below (hT.get mZ) (below_drew hb1))).mono fun e w2 ⟨pv, h1, h2, h3⟩ => ⟨pv, h1, h2, h3⟩
         ·have h19 : (PP s3) (fv 19) w1 := hp 19 (LC (by kernel_rfl))
          have h23 : (PP s4) (fv 23) w1 := hp 23 (LC (by kernel_rfl))
          have h13 : EV _ (fv 13) w1 := hp 13 (LC (by kernel_rfl))
          refine tyAt_yes (by simp [Region.wanted, yielded, h13]) ?_
          refine ty_call (f := 24) (args := #[fv 19, fv 23]) (by simp [execOp, go_sem, Act.eval, h13]) ?_
          exact (A2.out (fv 19) (fv 23) w1 h19 h23).mono fun e w2 ⟨pv, h1, h2, h3⟩ => ⟨pv, h1, h2, h3⟩
         ·have h15 : (PP r3) (fv 15) w1 := hp 15 (LC (by kernel_rfl))
          have h24 : (PP r4) (fv 24) w1 := hp 24 (LC (by kernel_rfl))
          have h13 : EV _ (fv 13) w1 := hp 13 (LC (by kernel_rfl))
          refine tyAt_yes (by simp [Region.wanted, yielded, h13]) ?_
          refine ty_call (f := 17) (args := #[fv 15, fv 24]) (by simp [execOp, go_sem, Act.eval, h13]) ?_
          exact (S2.out (fv 15) (fv 24) w1 h15 h24).mono fun e w2 ⟨h1, h2⟩ => ⟨_, h1, rfl, h2⟩
         ·have h25 : EV _ (fv 25) w1 := hp 25 (LC (by kernel_rfl))
          have h13 : EV _ (fv 13) w1 := hp 13 (LC (by kernel_rfl))
          refine tyAt_yes (by simp [Region.wanted, yielded, h25, h13]) ?_
          simp [tyUpon, execOp, go_sem, Act.eval, h25, h13, G9, Below.refl]
         ·have h13 : EV _ (fv 13) w1 := hp 13 (LC (by kernel_rfl))
          have h26 : EV _ (fv 26) w1 := hp 26 (LC (by kernel_rfl))
          refine tyAt_none rfl ?_
          simp [tyUpon, execOp, go_sem, Act.eval, h13, h26, G9, Below.refl]
        ·intro fv x13 hb1 hv
         have e0 : fv 0 = _ := hv 0 (by omega)
         have q1 : PT x13 (fv 1) r1 := hv 1 (by omega)
         obtain ⟨g11, d11, g11c, e1, -⟩ := pt_form q1
         rw [e1] at q1
         have e2 : fv 2 = _ := hv 2 (by omega)
         have e3 : fv 3 = _ := hv 3 (by omega)
         have e4 : fv 4 = _ := hv 4 (by omega)
         have q5 : PT x13 (fv 5) s1 := hv 5 (by omega)
         obtain ⟨g12, d12, g12c, e5, -⟩ := pt_form q5
         rw [e5] at q5
         have e6 : fv 6 = _ := hv 6 (by omega)
         have e7 : fv 7 = _ := hv 7 (by omega)
         have e8 : fv 8 = _ := hv 8 (by omega)
         have q9 : PT x13 (fv 9) s2 := hv 9 (by omega)
         obtain ⟨g13, d13, g13c, e9, -⟩ := pt_form q9
         rw [e9] at q9
         have q10 : PT x13 (fv 10) r2 := hv 10 (by omega)
         obtain ⟨g14, d14, g14c, e10, -⟩ := pt_form q10
         rw [e10] at q10
         have e11 : fv 11 = _ := hv 11 (by omega)
         have e12 : fv 12 = _ := hv 12 (by omega)
         have e13 : fv 13 = _ := hv 13 (by omega)
         have e14 : fv 14 = _ := hv 14 (by omega)
         have q15 : PT x13 (fv 15) r3 := hv 15 (by omega)
         obtain ⟨g15, d15, g15c, e15, -⟩ := pt_form q15
         rw [e15] at q15
         have e16 : fv 16 = _ := hv 16 (by omega)
         have e17 : fv 17 = _ := hv 17 (by omega)
         have e18 : fv 18 = _ := hv 18 (by omega)
         have q19 : PT x13 (fv 19) s3 := hv 19 (by omega)
         obtain ⟨g16, d16, g16c, e19, -⟩ := pt_form q19
         rw [e19] at q19
         have e20 : fv 20 = _ := hv 20 (by omega)
         have e21 : fv 21 = _ := hv 21 (by omega)
         have e22 : fv 22 = _ := hv 22 (by omega)
         have q23 : PT x13 (fv 23) s4 := hv 23 (by omega)
         obtain ⟨g17, d17, g17c, e23, -⟩ := pt_form q23
         rw [e23] at q23
         have q24 : PT x13 (fv 24) r4 := hv 24 (by omega)
         obtain ⟨g18, d18, g18c, e24, -⟩ := pt_form q24
         rw [e24] at q24
         have e25 : fv 25 = _ := hv 25 (by omega)
         have e26 : fv 26 = _ := hv 26 (by omega)
         have e27 : fv 27 = _ := hv 27 (by omega)
         simp only [List.take_succ_cons, List.take_zero, putsV, Act.put, zP, List.drop_succ_cons, List.drop_zero, Nat.zero_add, Nat.reduceAdd, e0, e1, e2, e3, e4, e5, e6, e7, e8, e9, e10, e11, e12, e13, e14, e15, e16, e17, e18, e19, e20, e21, e22, e23, e24, e25, e26, e27]
         replace hL0 := hL0.call (below_drew hb1)
         replace hT := hT.call (below_drew hb1)
         replace hT := hT.cons q1
         replace hT := hT.cons q5
         replace hT := hT.cons q9
         replace hT := hT.cons q10
         replace hT := hT.cons q15
         replace hT := hT.cons q19
         replace hT := hT.cons q23
         replace hT := hT.cons q24
         clear e0 e1 e2 e3 e4 e5 e6 e7 e8 e9 e10 e11 e12 e13 e14 e15 e16 e17 e18 e19 e20 e21 e22 e23 e24 e25 e26 e27 hb1 hv q1 q5 q9 q10 q15 q19 q23 q24 fv
         go_wp2_with fail
         with_reducible refine Calls.mono (I1.out _) ?_
         rintro e x14 ⟨rfl, hb⟩
         replace hL0 := hL0.call hb
         replace hT := hT.call hb
         clear hb
         go_wp2_with fail
         with_reducible refine Calls.mono (I0.out _) ?_
         rintro e x15 ⟨rfl, hb⟩
         replace hL0 := hL0.call hb
         replace hT := hT.call hb
         clear hb
         replace hT := ((hT.new (.cells #[.int .u64 ((zl c1.num : Nat) : Int), .string (zh c1.num), .bool (zs c1.num), .int .u64 ((lo (fe c1) : Nat) : Int), .string (hs (fe c1))] 47)).new (.cells #[.int .u64 ((zl c0.num : Nat) : Int), .string (zh c0.num), .bool (zs c0.num), .int .u64 ((lo (fe c0) : Nat) : Int), .string (hs (fe c0))] 47))
         replace hL0 := ((hL0.new rfl [.int .u64 ((zl c1.num : Nat) : Int), .string (zh c1.num), .bool (zs c1.num), .int .u64 ((lo (fe c1) : Nat) : Int), .string (hs (fe c1))] 47).new (K := x15.heap.size + 1) (szA _ _) [.int .u64 ((zl c0.num : Nat) : Int), .string (zh c0.num), .bool (zs c0.num), .int .u64 ((lo (fe c0) : Nat) : Int), .string (hs (fe c0))] 47)
         generalize hweq : ((x15.alloc (.cells #[.int .u64 ((zl c1.num : Nat) : Int), .string (zh c1.num), .bool (zs c1.num), .int .u64 ((lo (fe c1) : Nat) : Int), .string (hs (fe c1))] 47)).alloc (.cells #[.int .u64 ((zl c0.num : Nat) : Int), .string (zh c0.num), .bool (zs c0.num), .int .u64 ((lo (fe c0) : Nat) : Int), .string (hs (fe c0))] 47)) = x16 at hL0 hT
         go_upto_region 20 with fail
         clear hweq
         refine region_gh (by kernel_rfl) (by kernel_rfl) ?_
         refine lex_seg (gl := []) 4 (by kernel_rfl) ?_
         intro α iα F hF1 hF2
         have hq := GL.seg hF1 hL0
         simp only [zC, Nat.reduceAdd] at hq
         simp only [zT]
         repeat (go_big_quiet_step (first | fail | (go_at_call 26; with_reducible exact seg_call hF2 HQu.out _) | (go_at_call 26; with_reducible exact seg_call hF2 HQv.out _)))
         refine wpQuiet_nil ?_
         clear hq hF1 hF2 iα F α
         refine lex_new [.int .u64 0, .string ⟨#[]⟩, .bool false, .int .u64 0, .string ⟨#[]⟩] 25 47 47 rfl rfl (of_decide_eq_true (by kernel_rfl)) (by kernel_rfl) rfl new_frac ?_
         simp only [Act.put, zP]
         refine lex_new [.int .u64 0, .string ⟨#[]⟩, .bool false, .int .u64 0, .string ⟨#[]⟩] 26 47 47 rfl rfl (of_decide_eq_true (by kernel_rfl)) (by kernel_rfl) rfl new_frac ?_
         simp only [Act.put, zP]
         refine lex_put [.int .u64 ((zl uc.num : Nat) : Int), .string (zh uc.num), .bool (zs uc.num), .int .u64 ((lo (fe uc) : Nat) : Int), .string (hs (fe uc))] [.int .u64 0, .string ⟨#[]⟩, .bool false, .int .u64 0, .string ⟨#[]⟩] 25 47 (.tmp 164) rfl (by kernel_rfl) (by simp [toG, upd]) rfl (fun w k h => put_frac _ _ _ _ _ _ _ _ _ _ w k h) ?_
         simp only [Act.put]
         refine lex_put [.int .u64 ((zl ud.num : Nat) : Int), .string (zh ud.num), .bool (zs ud.num), .int .u64 ((lo (fe ud) : Nat) : Int), .string (hs (fe ud))] [.int .u64 0, .string ⟨#[]⟩, .bool false, .int .u64 0, .string ⟨#[]⟩] 26 47 (.tmp 166) rfl (by kernel_rfl) (by simp [toG, upd]) rfl (fun w k h => put_frac _ _ _ _ _ _ _ _ _ _ w k h) ?_
         simp only [Act.put]
         refine lexG_nil ?_
         intro κ x17 hSim
         replace hL0 := hL0.ghs hSim [(26, [.int .u64 ((zl ud.num : Nat) : Int), .string (zh ud.num), .bool (zs ud.num), .int .u64 ((lo (fe ud) : Nat) : Int), .string (hs (fe ud))]), (25, [.int .u64 ((zl uc.num : Nat) : Int), .string (zh uc.num), .bool (zs uc.num), .int .u64 ((lo (fe uc) : Nat) : Int), .string (hs (fe uc))])] (by simp) (by intro p hp; simp only [List.mem_cons, List.not_mem_nil, or_false] at hp; rcases hp with rfl | rfl <;> exact ⟨_, by simp only [toG, upd]; rfl⟩)
         simp only [List.map_cons, List.map_nil, List.cons_append, List.nil_append] at hL0
         simp only [over_toG, over_nil, Act.put, zP]
         replace hT := hT.call (below_drew hSim.base)
         clear hSim
         generalize κ 26 = k17_26 at *
         generalize κ 25 = k17_25 at *
         have hN0 := cells_of _ 0 [] rfl (hL0.get _ _ mZ)
         simp only [zF, Nat.reduceAdd] at hN0
         have hN1 := cells_of _ 0 [] rfl (hL0.get _ _ (mK mZ))
         simp only [zF, Nat.reduceAdd] at hN1
         have hN2 := cells_of _ 0 [] rfl (hL0.get _ _ (mK (mK mZ)))
         simp only [zF, Nat.reduceAdd] at hN2
         have hN3 := cells_of _ 0 [] rfl (hL0.get _ _ (mK (mK (mK mZ))))
         simp only [zF, Nat.reduceAdd] at hN3
         go_wp2_with fail
         clear hN0 hN1 hN2 hN3
         with_reducible refine Calls.mono (Sh4.out (.slice g2 d2 g2c) _ (hT.get (mK (mK (mK (mK (mK (mK (mK (mK (mK (mK (mK (mK (mK (mK mZ)))))))))))))))) ?_
         rintro e x18 ⟨v0, rfl, q0, hb⟩
         replace hL0 := hL0.call hb
         replace hT := hT.call hb
         clear hb
         obtain ⟨g19, d19, g19c, rfl, -⟩ := pt_form q0
         replace hT := hT.cons q0
         clear q0
         go_upto_region 22 with fail
         refine region_tl 35 [EV (.slice g1 d1 g1c), EV (.pointer (some ⟨x2.heap.size, 0, none⟩)), EV (.agg #[.int .u64 ((zl ka.num : Nat) : Int), .string (zh ka.num), .bool (zs ka.num), .int .u64 ((lo (fe ka) : Nat) : Int), .string (hs (fe ka))]), EV (.pointer (some ⟨x2.heap.size, 5, none⟩)), EV (.agg #[.int .u64 ((zl kb.num : Nat) : Int), .string (zh kb.num), .bool (zs kb.num), .int .u64 ((lo (fe kb) : Nat) : Int), .string (hs (fe kb))]), EV (.pointer (some ⟨x2.heap.size, 0, none⟩)), EV (.agg #[.int .u64 ((zl ka.num : Nat) : Int), .string (zh ka.num), .bool (zs ka.num), .int .u64 ((lo (fe ka) : Nat) : Int), .string (hs (fe ka))]), EV (.agg #[.int .u64 ((zl uc.num : Nat) : Int), .string (zh uc.num), .bool (zs uc.num), .int .u64 ((lo (fe uc) : Nat) : Int), .string (hs (fe uc))]), EV (.agg #[.int .u64 ((zl m5.num : Nat) : Int), .string (zh m5.num), .bool (zs m5.num), .int .u64 ((lo (fe m5) : Nat) : Int), .string (hs (fe m5))]), EV (.pointer (some ⟨x2.heap.size, 5, none⟩)), EV (.agg #[.int .u64 ((zl kb.num : Nat) : Int), .string (zh kb.num), .bool (zs kb.num), .int .u64 ((lo (fe kb) : Nat) : Int), .string (hs (fe kb))]), EV (.agg #[.int .u64 ((zl ud.num : Nat) : Int), .string (zh ud.num), .bool (zs ud.num), .int .u64 ((lo (fe ud) : Nat) : Int), .string (hs (fe ud))]), EV (.agg #[.int .u64 ((zl m6.num : Nat) : Int), .string (zh m6.num), .bool (zs m6.num), .int .u64 ((lo (fe m6) : Nat) : Int), .string (hs (fe m6))]), EV (.pointer (some ⟨x2.heap.size, 10, none⟩)), EV (.agg #[.int .u64 ((zl kc.num : Nat) : Int), .string (zh kc.num), .bool (zs kc.num), .int .u64 ((lo (fe kc) : Nat) : Int), .string (hs (fe kc))]), PV8 [m5, m6, kc], EV (.agg #[.int .u64 ((zl a1.num : Nat) : Int), .string (zh a1.num), .bool (zs a1.num), .int .u64 ((lo (fe a1) : Nat) : Int), .string (hs (fe a1))]), EV (.pointer (some ⟨x2.heap.size, 15, none⟩)), EV (.agg #[.int .u64 ((zl kd.num : Nat) : Int), .string (zh kd.num), .bool (zs kd.num), .int .u64 ((lo (fe kd) : Nat) : Int), .string (hs (fe kd))]), EV (.pointer (some ⟨x2.heap.size, 20, none⟩)), EV (.agg #[.int .u64 ((zl ke.num : Nat) : Int), .string (zh ke.num), .bool (zs ke.num), .int .u64 ((lo (fe ke) : Nat) : Int), .string (hs (fe ke))]), EV (.pointer (some ⟨x2.heap.size, 15, none⟩)), EV (.agg #[.int .u64 ((zl kd.num : Nat) : Int), .string (zh kd.num), .bool (zs kd.num), .int .u64 ((lo (fe kd) : Nat) : Int), .string (hs (fe kd))]), EV (.agg #[.int .u64 ((zl uc.num : Nat) : Int), .string (zh uc.num), .bool (zs uc.num), .int .u64 ((lo (fe uc) : Nat) : Int), .string (hs (fe uc))]), EV (.agg #[.int .u64 ((zl m7.num : Nat) : Int), .string (zh m7.num), .bool (zs m7.num), .int .u64 ((lo (fe m7) : Nat) : Int), .string (hs (fe m7))]), EV (.pointer (some ⟨x2.heap.size, 20, none⟩)), EV (.agg #[.int .u64 ((zl ke.num : Nat) : Int), .string (zh ke.num), .bool (zs ke.num), .int .u64 ((lo (fe ke) : Nat) : Int), .string (hs (fe ke))]), EV (.agg #[.int .u64 ((zl ud.num : Nat) : Int), .string (zh ud.num), .bool (zs ud.num), .int .u64 ((lo (fe ud) : Nat) : Int), .string (hs (fe ud))]), EV (.agg #[.int .u64 ((zl m8.num : Nat) : Int), .string (zh m8.num), .bool (zs m8.num), .int .u64 ((lo (fe m8) : Nat) : Int), .string (hs (fe m8))]), EV (.pointer (some ⟨x2.heap.size, 25, none⟩)), EV (.agg #[.int .u64 ((zl kf.num : Nat) : Int), .string (zh kf.num), .bool (zs kf.num), .int .u64 ((lo (fe kf) : Nat) : Int), .string (hs (fe kf))]), PV8 [m7, m8, kf], EV (.agg #[.int .u64 ((zl a2.num : Nat) : Int), .string (zh a2.num), .bool (zs a2.num), .int .u64 ((lo (fe a2) : Nat) : Int), .string (hs (fe a2))]), PP pe, PP pe] (by kernel_rfl) (by kernel_rfl) ?_ ?_ ?_
         ·repeat' first | exact stays_nil | apply stays_cons | exact stays_eq _ | exact stays_pt _ | exact stays_slq8 _
         ·simp only [List.take_succ_cons, List.take_zero, hopsR, and_true]
          refine ⟨?_, ?_, ?_, ?_, ?_, ?_, ?_, ?_, ?_, ?_, ?_, ?_, ?_, ?_, ?_, ?_, ?_, ?_, ?_, ?_, ?_, ?_, ?_, ?_, ?_, ?_, ?_, ?_, ?_, ?_, ?_, ?_, ?_, ?_, ?_⟩ <;> intro fv w1 hb1 hp
          all_goals (have hc := (hL0.call (below_drew hb1)).fc; simp only [zF, Nat.reduceAdd] at hc; simp only [putsV, Act.put, zP, Nat.zero_add, Nat.reduceAdd])
          ·refine tyAt_none rfl ?_
           simp [tyUpon, execOp, go_sem, Act.eval, G9, Below.refl]
          ·refine tyAt_none rfl ?_
           simp [tyUpon, execOp, go_sem, Act.eval, G9, Below.refl]
          ·have h1 : EV _ (fv 1) w1 := hp 1 (LC (by kernel_rfl))
           refine tyAt_none rfl ?_
           simp [tyUpon, execOp, go_sem, Act.eval, hc, h1, G9, Below.refl]
          ·refine tyAt_none rfl ?_
           simp [tyUpon, execOp, go_sem, Act.eval, G9, Below.refl]
          ·have h3 : EV _ (fv 3) w1 := hp 3 (LC (by kernel_rfl))
           refine tyAt_none rfl ?_
           simp [tyUpon, execOp, go_sem, Act.eval, hc, h3, G9, Below.refl]
          ·refine tyAt_none rfl ?_
           simp [tyUpon, execOp, go_sem, Act.eval, G9, Below.refl]
          ·have h5 : EV _ (fv 5) w1 := hp 5 (LC (by kernel_rfl))
           refine tyAt_none rfl ?_
           simp [tyUpon, execOp, go_sem, Act.eval, hc, h5, G9, Below.refl]
          ·refine tyAt_none rfl ?_
           simp [tyUpon, execOp, go_sem, Act.eval, hc, G9, Below.refl]
          ·have h6 : EV _ (fv 6) w1 := hp 6 (LC (by kernel_rfl))
           have h7 : EV _ (fv 7) w1 := hp 7 (LC (by kernel_rfl))
           refine tyAt_none rfl ?_
           refine ty_call (f := 28) (args := #[.agg #[.int .u64 ((zl ka.num : Nat) : Int), .string (zh ka.num), .bool (zs ka.num), .int .u64 ((lo (fe ka) : Nat) : Int), .string (hs (fe ka))], .agg #[.int .u64 ((zl uc.num : Nat) : Int), .string (zh uc.num), .bool (zs uc.num), .int .u64 ((lo (fe uc) : Nat) : Int), .string (hs (fe uc))]]) (by simp [execOp, go_sem, Act.eval, h6, h7]) ?_
           exact (M5.out w1).mono fun e w2 ⟨h1, h2⟩ => ⟨_, h1, rfl, h2⟩
          ·refine tyAt_none rfl ?_
           simp [tyUpon, execOp, go_sem, Act.eval, G9, Below.refl]
          ·have h9 : EV _ (fv 9) w1 := hp 9 (LC (by kernel_rfl))
           refine tyAt_none rfl ?_
           simp [tyUpon, execOp, go_sem, Act.eval, hc, h9, G9, Below.refl]
          ·refine tyAt_none rfl ?_
           simp [tyUpon, execOp, go_sem, Act.eval, hc, G9, Below.refl]
          ·have h10 : EV _ (fv 10) w1 := hp 10 (LC (by kernel_rfl))
           have h11 : EV _ (fv 11) w1 := hp 11 (LC (by kernel_rfl))
           refine tyAt_none rfl ?_
           refine ty_call (f := 28) (args := #[.agg #[.int .u64 ((zl kb.num : Nat) : Int), .string (zh kb.num), .bool (zs kb.num), .int .u64 ((lo (fe kb) : Nat) : Int), .string (hs (fe kb))], .agg #[.int .u64 ((zl ud.num : Nat) : Int), .string (zh ud.num), .bool (zs ud.num), .int .u64 ((lo (fe ud) : Nat) : Int), .string (hs (fe ud))]]) (by simp [execOp, go_sem, Act.eval, h10, h11]) ?_
           exact (M6.out w1).mono fun e w2 ⟨h1, h2⟩ => ⟨_, h1, rfl, h2⟩
          ·refine tyAt_none rfl ?_
           simp [tyUpon, execOp, go_sem, Act.eval, G9, Below.refl]
          ·have h13 : EV _ (fv 13) w1 := hp 13 (LC (by kernel_rfl))
           refine tyAt_none rfl ?_
           simp [tyUpon, execOp, go_sem, Act.eval, hc, h13, G9, Below.refl]
          ·have h8 : EV _ (fv 8) w1 := hp 8 (LC (by kernel_rfl))
           have h12 : EV _ (fv 12) w1 := hp 12 (LC (by kernel_rfl))
           have h14 : EV _ (fv 14) w1 := hp 14 (LC (by kernel_rfl))
           refine tyAt_none rfl ?_
           refine ty_val8 (u := .slice (some ⟨w1.heap.size, 0, none⟩) 3 3) (w' := w1.alloc (.cells #[.int .u64 ((zl m5.num : Nat) : Int), .string (zh m5.num), .bool (zs m5.num), .int .u64 ((lo (fe m5) : Nat) : Int), .string (hs (fe m5)), .int .u64 ((zl m6.num : Nat) : Int), .string (zh m6.num), .bool (zs m6.num), .int .u64 ((lo (fe m6) : Nat) : Int), .string (hs (fe m6)), .int .u64 ((zl kc.num : Nat) : Int), .string (zh kc.num), .bool (zs kc.num), .int .u64 ((lo (fe kc) : Nat) : Int), .string (hs (fe kc))] 47)) (by simp [execOp, go_sem, Act.eval, h8, h12, h14]) ((Below.refl _ _).alloc (Nat.le_refl _) _) (slq_of3 (hd_new w1 [.int .u64 ((zl m5.num : Nat) : Int), .string (zh m5.num), .bool (zs m5.num), .int .u64 ((lo (fe m5) : Nat) : Int), .string (hs (fe m5)), .int .u64 ((zl m6.num : Nat) : Int), .string (zh m6.num), .bool (zs m6.num), .int .u64 ((lo (fe m6) : Nat) : Int), .string (hs (fe m6)), .int .u64 ((zl kc.num : Nat) : Int), .string (zh kc.num), .bool (zs kc.num), .int .u64 ((lo (fe kc) : Nat) : Int), .string (hs (fe kc))] _))
          ·have h15 : (PV8 [m5, m6, kc]) (fv 15) w1 := hp 15 (LC (by kernel_rfl))
           refine tyAt_none rfl ?_
           refine ty_call (f := 38) (args := #[fv 15]) (by simp [execOp, go_sem, Act.eval]) ?_
           exact (U3.out (fv 15) w1 h15).mono fun e w2 ⟨h1, h2⟩ => ⟨_, h1, rfl, h2⟩
          ·refine tyAt_none rfl ?_
           simp [tyUpon, execOp, go_sem, Act.eval, G9, Below.refl]
          ·have h17 : EV _ (fv 17) w1 := hp 17 (LC (by kernel_rfl))
           refine tyAt_none rfl ?_
           simp [tyUpon, execOp, go_sem, Act.eval, hc, h17, G9, Below.refl]
          ·refine tyAt_none rfl ?_
           simp [tyUpon, execOp, go_sem, Act.eval, G9, Below.refl]
          ·have h19 : EV _ (fv 19) w1 := hp 19 (LC (by kernel_rfl))
           refine tyAt_none rfl ?_
           simp [tyUpon, execOp, go_sem, Act.eval, hc, h19, G9, Below.refl]
          ·refine tyAt_none rfl ?_
           simp [tyUpon, execOp, go_sem, Act.eval, G9, Below.refl]
          ·have h21 : EV _ (fv 21) w1 := hp 21 (LC (by kernel_rfl))
           refine tyAt_none rfl ?_
           simp [tyUpon, execOp, go_sem, Act.eval, hc, h21, G9, Below.refl]
          ·refine tyAt_none rfl ?_
           simp [tyUpon, execOp, go_sem, Act.eval, hc, G9, Below.refl]
          ·have h22 : EV _ (fv 22) w1 := hp 22 (LC (by kernel_rfl))
           have h23 : EV _ (fv 23) w1 := hp 23 (LC (by kernel_rfl))
           refine tyAt_none rfl ?_
           refine ty_call (f := 28) (args := #[.agg #[.int .u64 ((zl kd.num : Nat) : Int), .string (zh kd.num), .bool (zs kd.num), .int .u64 ((lo (fe kd) : Nat) : Int), .string (hs (fe kd))], .agg #[.int .u64 ((zl uc.num : Nat) : Int), .string (zh uc.num), .bool (zs uc.num), .int .u64 ((lo (fe uc) : Nat) : Int), .string (hs (fe uc))]]) (by simp [execOp, go_sem, Act.eval, h22, h23]) ?_
           exact (M7.out w1).mono fun e w2 ⟨h1, h2⟩ => ⟨_, h1, rfl, h2⟩
          ·refine tyAt_none rfl ?_
           simp [tyUpon, execOp, go_sem, Act.eval, G9, Below.refl]
          ·have h25 : EV _ (fv 25) w1 := hp 25 (LC (by kernel_rfl))
           refine tyAt_none rfl ?_
           simp [tyUpon, execOp, go_sem, Act.eval, hc, h25, G9, Below.refl]
          ·refine tyAt_none rfl ?_
           simp [tyUpon, execOp, go_sem, Act.eval, hc, G9, Below.refl]
          ·have h26 : EV _ (fv 26) w1 := hp 26 (LC (by kernel_rfl))
           have h27 : EV _ (fv 27) w1 := hp 27 (LC (by kernel_rfl))
           refine tyAt_none rfl ?_
           refine ty_call (f := 28) (args := #[.agg #[.int .u64 ((zl ke.num : Nat) : Int), .string (zh ke.num), .bool (zs ke.num), .int .u64 ((lo (fe ke) : Nat) : Int), .string (hs (fe ke))], .agg #[.int .u64 ((zl ud.num : Nat) : Int), .string (zh ud.num), .bool (zs ud.num), .int .u64 ((lo (fe ud) : Nat) : Int), .string (hs (fe ud))]]) (by simp [execOp, go_sem, Act.eval, h26, h27]) ?_
           exact (M8.out w1).mono fun e w2 ⟨h1, h2⟩ => ⟨_, h1, rfl, h2⟩
          ·refine tyAt_none rfl ?_
           simp [tyUpon, execOp, go_sem, Act.eval, G9, Below.refl]
          ·have h29 : EV _ (fv 29) w1 := hp 29 (LC (by kernel_rfl))
           refine tyAt_none rfl ?_
           simp [tyUpon, execOp, go_sem, Act.eval, hc, h29, G9, Below.refl]
          ·have h24 : EV _ (fv 24) w1 := hp 24 (LC (by kernel_rfl))
           have h28 : EV _ (fv 28) w1 := hp 28 (LC (by kernel_rfl))
           have h30 : EV _ (fv 30) w1 := hp 30 (LC (by kernel_rfl))
           refine tyAt_none rfl ?_
           refine ty_val8 (u := .slice (some ⟨w1.heap.size, 0, none⟩) 3 3) (w' := w1.alloc (.cells #[.int .u64 ((zl m7.num : Nat) : Int), .string (zh m7.num), .bool (zs m7.num), .int .u64 ((lo (fe m7) : Nat) : Int), .string (hs (fe m7)), .int .u64 ((zl m8.num : Nat) : Int), .string (zh m8.num), .bool (zs m8.num), .int .u64 ((lo (fe m8) : Nat) : Int), .string (hs (fe m8)), .int .u64 ((zl kf.num : Nat) : Int), .string (zh kf.num), .bool (zs kf.num), .int .u64 ((lo (fe kf) : Nat) : Int), .string (hs (fe kf))] 47)) (by simp [execOp, go_sem, Act.eval, h24, h28, h30]) ((Below.refl _ _).alloc (Nat.le_refl _) _) (slq_of3 (hd_new w1 [.int .u64 ((zl m7.num : Nat) : Int), .string (zh m7.num), .bool (zs m7.num), .int .u64 ((lo (fe m7) : Nat) : Int), .string (hs (fe m7)), .int .u64 ((zl m8.num : Nat) : Int), .string (zh m8.num), .bool (zs m8.num), .int .u64 ((lo (fe m8) : Nat) : Int), .string (hs (fe m8)), .int .u64 ((zl kf.num : Nat) : Int), .string (zh kf.num), .bool (zs kf.num), .int .u64 ((lo (fe kf) : Nat) : Int), .string (hs (fe kf))] _))
          ·have h31 : (PV8 [m7, m8, kf]) (fv 31) w1 := hp 31 (LC (by kernel_rfl))
           refine tyAt_none rfl ?_
           refine ty_call (f := 38) (args := #[fv 31]) (by simp [execOp, go_sem, Act.eval]) ?_
           exact (U4.out (fv 31) w1 h31).mono fun e w2 ⟨h1, h2⟩ => ⟨_, h1, rfl, h2⟩
          ·have h0 : EV _ (fv 0) w1 := hp 0 (LC (by kernel_rfl))
           have h2 : EV _ (fv 2) w1 := hp 2 (LC (by kernel_rfl))
           have h4 : EV _ (fv 4) w1 := hp 4 (LC (by kernel_rfl))
           have h16 : EV _ (fv 16) w1 := hp 16 (LC (by kernel_rfl))
           have h18 : EV _ (fv 18) w1 := hp 18 (LC (by kernel_rfl))
           have h20 : EV _ (fv 20) w1 := hp 20 (LC (by kernel_rfl))
           have h32 : EV _ (fv 32) w1 := hp 32 (LC (by kernel_rfl))
           refine tyAt_none rfl ?_
           refine ty_call (f := 37) (args := #[.slice g1 d1 g1c, .agg #[.int .u64 ((zl ka.num : Nat) : Int), .string (zh ka.num), .bool (zs ka.num), .int .u64 ((lo (fe ka) : Nat) : Int), .string (hs (fe ka))], .agg #[.int .u64 ((zl kb.num : Nat) : Int), .string (zh kb.num), .bool (zs kb.num), .int .u64 ((lo (fe kb) : Nat) : Int), .string (hs (fe kb))], .agg #[.int .u64 ((zl a1.num : Nat) : Int), .string (zh a1.num), .bool (zs a1.num), .int .u64 ((lo (fe a1) : Nat) : Int), .string (hs (fe a1))], .agg #[.int .u64 ((zl kd.num : Nat) : Int), .string (zh kd.num), .bool (zs kd.num), .int .u64 ((lo (fe kd) : Nat) : Int), .string (hs (fe kd))], .agg #[.int .u64 ((zl ke.num : Nat) : Int), .string (zh ke.num), .bool (zs ke.num), .int .u64 ((lo (fe ke) : Nat) : Int), .string (hs (fe ke))], .agg #[.int .u64 ((zl a2.num : Nat) : Int), .string (zh a2.num), .bool (zs a2.num), .int .u64 ((lo (fe a2) : Nat) : Int), .string (hs (fe a2))]]) (by simp [execOp, go_sem, Act.eval, h0, h2, h4, h16, h18, h20, h32]) ?_
           exact (Sh5.out (.slice g1 d1 g1c) w1 (PT.below (hT.get (mK (mK (mK (mK (mK (mK (mK (mK (mK (mK (mK (mK (mK (mK (mK (mK mZ))))))))))))))))) (below_drew hb1))).mono fun e w2 ⟨pv, h1, h2, h3⟩ => ⟨pv, h1, h2, h3⟩
          ·have h33 : (PP pe) (fv 33) w1 := hp 33 (LC (by kernel_rfl))
           refine tyAt_none rfl ?_
           simp [tyUpon, execOp, go_sem, Act.eval, Below.refl]
           exact h33
         ·intro fv x19 hb1 hv
          have e0 : fv 0 = _ := hv 0 (by omega)
          have e1 : fv 1 = _ := hv 1 (by omega)
          have e2 : fv 2 = _ := hv 2 (by omega)
          have e3 : fv 3 = _ := hv 3 (by omega)
          have e4 : fv 4 = _ := hv 4 (by omega)
          have e5 : fv 5 = _ := hv 5 (by omega)
          have e6 : fv 6 = _ := hv 6 (by omega)
          have e7 : fv 7 = _ := hv 7 (by omega)
          have e8 : fv 8 = _ := hv 8 (by omega)
          have e9 : fv 9 = _ := hv 9 (by omega)
          have e10 : fv 10 = _ := hv 10 (by omega)
          have e11 : fv 11 = _ := hv 11 (by omega)
          have e12 : fv 12 = _ := hv 12 (by omega)
          have e13 : fv 13 = _ := hv 13 (by omega)
          have e14 : fv 14 = _ := hv 14 (by omega)
          have q15 : SlQ x19 (fv 15) ([m5, m6, kc]) := hv 15 (by omega)
          obtain ⟨g20, d20, g20c, e15⟩ := slq_form8 q15
          rw [e15] at q15
          have e16 : fv 16 = _ := hv 16 (by omega)
          have e17 : fv 17 = _ := hv 17 (by omega)
          have e18 : fv 18 = _ := hv 18 (by omega)
          have e19 : fv 19 = _ := hv 19 (by omega)
          have e20 : fv 20 = _ := hv 20 (by omega)
          have e21 : fv 21 = _ := hv 21 (by omega)
          have e22 : fv 22 = _ := hv 22 (by omega)
          have e23 : fv 23 = _ := hv 23 (by omega)
          have e24 : fv 24 = _ := hv 24 (by omega)
          have e25 : fv 25 = _ := hv 25 (by omega)
          have e26 : fv 26 = _ := hv 26 (by omega)
          have e27 : fv 27 = _ := hv 27 (by omega)
          have e28 : fv 28 = _ := hv 28 (by omega)
          have e29 : fv 29 = _ := hv 29 (by omega)
          have e30 : fv 30 = _ := hv 30 (by omega)
          have q31 : SlQ x19 (fv 31) ([m7, m8, kf]) := hv 31 (by omega)
          obtain ⟨g21, d21, g21c, e31⟩ := slq_form8 q31
          rw [e31] at q31
          have e32 : fv 32 = _ := hv 32 (by omega)
          have q33 : PT x19 (fv 33) pe := hv 33 (by omega)
          obtain ⟨g22, d22, g22c, e33, -⟩ := pt_form q33
          rw [e33] at q33
          have q34 : PT x19 (fv 34) pe := hv 34 (by omega)
          obtain ⟨g23, d23, g23c, e34, -⟩ := pt_form q34
          rw [e34] at q34
          simp only [List.take_succ_cons, List.take_zero, putsV, Act.put, zP, List.drop_succ_cons, List.drop_zero, Nat.zero_add, Nat.reduceAdd, e0, e1, e2, e3, e4, e5, e6, e7, e8, e9, e10, e11, e12, e13, e14, e15, e16, e17, e18, e19, e20, e21, e22, e23, e24, e25, e26, e27, e28, e29, e30, e31, e32, e33, e34]
          replace hL0 := hL0.call (below_drew hb1)
          replace hT := hT.call (below_drew hb1)
          replace hT := hT.cons q33
          replace hT := hT.cons q34
          clear e0 e1 e2 e3 e4 e5 e6 e7 e8 e9 e10 e11 e12 e13 e14 e15 e16 e17 e18 e19 e20 e21 e22 e23 e24 e25 e26 e27 e28 e29 e30 e31 e32 e33 e34 hb1 hv q15 q31 q33 q34 fv
          go_wp2_with fail
          with_reducible refine Calls.mono (S3.out (.slice g19 d19 g19c) (.slice g23 d23 g23c) _ (hT.get (mK (mK mZ))) (hT.get mZ)) ?_
          rintro e x20 ⟨rfl, hb⟩
          replace hL0 := hL0.call hb
          replace hT := hT.call hb
          clear hb
          have hN0 := cells_of _ 0 [] rfl (hL0.get _ _ (mK (mK mZ)))
          simp only [zF, Nat.reduceAdd] at hN0
          have hN1 := cells_of _ 0 [] rfl (hL0.get _ _ (mK (mK (mK mZ))))
          simp only [zF, Nat.reduceAdd] at hN1
          go_wp2_with fail
          clear hN0 hN1
          with_reducible refine Calls.mono (Sh6.out (.slice g1 d1 g1c) _ (hT.get (mK (mK (mK (mK (mK (mK (mK (mK (mK (mK (mK (mK (mK (mK (mK (mK (mK (mK mZ)))))))))))))))))))) ?_
          rintro e x21 ⟨v0, rfl, q0, hb⟩
          replace hL0 := hL0.call hb
          replace hT := hT.call hb
          clear hb
          obtain ⟨g24, d24, g24c, rfl, -⟩ := pt_form q0
          replace hT := hT.cons q0
          clear q0
          go_wp2_with fail
          with_reducible refine Calls.mono (S4.out (.slice g24 d24 g24c) (.slice g1 d1 g1c) _ (hT.get mZ) (hT.get (mK (mK (mK (mK (mK (mK (mK (mK (mK (mK (mK (mK (mK (mK (mK (mK (mK (mK (mK mZ))))))))))))))))))))) ?_
          rintro e x22 ⟨rfl, hb⟩
          replace hL0 := hL0.call hb
          replace hT := hT.call hb
          clear hb
          go_wp2_with fail
          with_reducible refine Calls.mono (HW.out _ (hKT.out.at hL0.bl kKT)) ?_
          rintro e x23 ⟨rfl, hb⟩
          replace hL0 := hL0.call hb
          replace hT := hT.call hb
          clear hb
          go_wp2_with fail
          exact bodyPost_ret (v := .bool true) (by simp [results, Tryz.results6, go_sem]) rfl ⟨rfl, hL0.bl⟩
end Go.Proofs.YtkpghlnegbimdaaGreatDoor
namespace Go.Proofs.YtkpghlnegbimdaaGreatDoor
open Go.RowKit
attribute [local irreducible] lo hs sm s64 c64 d64 b64 mh ml pd pc qd qc val hiB str cmpI srD lz nb zl zh zs fe klT ordZ
theorem qsum_three (a b c : Rat) : qsum [a, b, c] = a + b + c := by
 show ((0 + a) + b) + c = _
 rw [Rat.zero_add]
theorem sum3G {a b c : Rat} {k : Nat} (ha : Sz a k) (hb : Sz b k) (hc : Sz c k) (hk : k ≤ 5000) (v : Value) (w : World) (h : SlQ w v [a, b, c]) :
  Calls Tryz.prog 38 #[v] w fun xe w' => xe = .returned (fracV (a + b + c)) ∧ Below w.heap.size w w' := by
 have := sumG [a, b, c] k hk (by simp) (fun q hq => by simp only [List.mem_cons, List.not_mem_nil, or_false] at hq; rcases hq with rfl | rfl | rfl <;> assumption) v w h
 rwa [qsum_three] at this
theorem pshifts_any (l : List RI) (hl : RO l) (n1 d1 n2 d2 n30 d30 n31 d31 n32 d32 n33 d33 n34 d34 n35 d35 n4 d4 n5 d5 : Int) (hbn1 : -9223372036854775808 ≤ n1 ∧ n1 < 9223372036854775808) (hbd1 : 0 ≤ d1 ∧ d1 < 4294967296) (hbn2 : -9223372036854775808 ≤ n2 ∧ n2 < 9223372036854775808) (hbd2 : 0 ≤ d2 ∧ d2 < 4294967296) (hbn30 : -9223372036854775808 ≤ n30 ∧ n30 < 9223372036854775808) (hbd30 : 0 ≤ d30 ∧ d30 < 4294967296) (hbn31 : -9223372036854775808 ≤ n31 ∧ n31 < 9223372036854775808) (hbd31 : 0 ≤ d31 ∧ d31 < 4294967296) (hbn32 : -9223372036854775808 ≤ n32 ∧ n32 < 9223372036854775808) (hbd32 : 0 ≤ d32 ∧ d32 < 4294967296) (hbn33 : -9223372036854775808 ≤ n33 ∧ n33 < 9223372036854775808) (hbd33 : 0 ≤ d33 ∧ d33 < 4294967296) (hbn34 : -9223372036854775808 ≤ n34 ∧ n34 < 9223372036854775808) (hbd34 : 0 ≤ d34 ∧ d34 < 4294967296) (hbn35 : -9223372036854775808 ≤ n35 ∧ n35 < 9223372036854775808) (hbd35 : 0 ≤ d35 ∧ d35 < 4294967296) (hbn4 : -9223372036854775808 ≤ n4 ∧ n4 < 9223372036854775808) (hbd4 : 0 ≤ d4 ∧ d4 < 4294967296) (hbn5 : -9223372036854775808 ≤ n5 ∧ n5 < 9223372036854775808) (hbd5 : 0 ≤ d5 ∧ d5 < 4294967296)
  (al : Option Addr) (nl cl : Nat) (w : World) (hv : RW8 w (.slice al nl cl) l) (ht : Tab w) :
  Calls Tryz.prog 6 #[.slice al nl cl, .agg #[.int .i64 n1, .int .u32 d1], .agg #[.int .i64 n2, .int .u32 d2], .agg #[.int .i64 n30, .int .u32 d30, .int .i64 n31, .int .u32 d31, .int .i64 n32, .int .u32 d32, .int .i64 n33, .int .u32 d33, .int .i64 n34, .int .u32 d34, .int .i64 n35, .int .u32 d35], .agg #[.int .i64 n4, .int .u32 d4], .agg #[.int .i64 n5, .int .u32 d5]] w fun e w' => e = .returned (.bool true) ∧ Below w.heap.size w w' := by
 have e1 := (rt_parts hv).1
 by_cases g1 : 6 < nl
 ·exact pshifts_l al nl cl n1 d1 n2 d2 n30 d30 n31 d31 n32 d32 n33 d33 n34 d34 n35 d35 n4 d4 n5 d5 Tab Keeps.tab lworks_any (decide_eq_true (by omega)) (decide_eq_true g1) w ht
 have ga := made_gp hl (by omega) (D := 4) (by omega)
 have hA := fun w hv => made_any hl (by omega) (D := 4) (by omega) al nl cl w hv
 generalize nrm (madeL l 4) = P at ga hA
 have hX := qof_any n1 d1 hbn1.1 hbn1.2 hbd1.1 hbd1.2
 have sX := qmade_sz n1 d1.toNat hbn1.1 hbn1.2 (by omega)
 generalize qmade n1 d1.toNat = X at hX sX
 have hY := qof_any n2 d2 hbn2.1 hbn2.2 hbd2.1 hbd2.2
 have sY := qmade_sz n2 d2.toNat hbn2.1 hbn2.2 (by omega)
 generalize qmade n2 d2.toNat = Y at hY sY
 have hK0 := qof_any n30 d30 hbn30.1 hbn30.2 hbd30.1 hbd30.2
 have sK0 := qmade_sz n30 d30.toNat hbn30.1 hbn30.2 (by omega)
 generalize qmade n30 d30.toNat = K0 at hK0 sK0
 have hK1 := qof_any n31 d31 hbn31.1 hbn31.2 hbd31.1 hbd31.2
 have sK1 := qmade_sz n31 d31.toNat hbn31.1 hbn31.2 (by omega)
 generalize qmade n31 d31.toNat = K1 at hK1 sK1
 have hK2 := qof_any n32 d32 hbn32.1 hbn32.2 hbd32.1 hbd32.2
 have sK2 := qmade_sz n32 d32.toNat hbn32.1 hbn32.2 (by omega)
 generalize qmade n32 d32.toNat = K2 at hK2 sK2
 have hK3 := qof_any n33 d33 hbn33.1 hbn33.2 hbd33.1 hbd33.2
 have sK3 := qmade_sz n33 d33.toNat hbn33.1 hbn33.2 (by omega)
 generalize qmade n33 d33.toNat = K3 at hK3 sK3
 have hK4 := qof_any n34 d34 hbn34.1 hbn34.2 hbd34.1 hbd34.2
 have sK4 := qmade_sz n34 d34.toNat hbn34.1 hbn34.2 (by omega)
 generalize qmade n34 d34.toNat = K4 at hK4 sK4
 have hK5 := qof_any n35 d35 hbn35.1 hbn35.2 hbd35.1 hbd35.2
 have sK5 := qmade_sz n35 d35.toNat hbn35.1 hbn35.2 (by omega)
 generalize qmade n35 d35.toNat = K5 at hK5 sK5
 have hU := qof_any n4 d4 hbn4.1 hbn4.2 hbd4.1 hbd4.2
 have sU := qmade_sz n4 d4.toNat hbn4.1 hbn4.2 (by omega)
 generalize qmade n4 d4.toNat = U at hU sU
 have hV := qof_any n5 d5 hbn5.1 hbn5.2 hbd5.1 hbd5.2
 have sV := qmade_sz n5 d5.toNat hbn5.1 hbn5.2 (by omega)
 generalize qmade n5 d5.toNat = V at hV sV
 have gq := (ga.shf (by omega) (by omega) sK0 sK1 sK2 sK3 sK4 sK5 5 (by omega)).mono (Nat.le_refl 4) (show _ ≤ 700 by omega)
 have gz := ga.dx (by omega)
 have gw := ga.dy (by omega)
 have gpx := (gz.shf (by omega) (by omega) sK0 sK1 sK2 sK3 sK4 sK5 5 (by omega)).mono (Nat.le_refl 4) (show _ ≤ 700 by omega)
 have gpy := (gw.shf (by omega) (by omega) sK0 sK1 sK2 sK3 sK4 sK5 5 (by omega)).mono (Nat.le_refl 4) (show _ ≤ 700 by omega)
 have g1' := gq.dx (by omega)
 have g3 := gq.dy (by omega)
 have c1 := gpx.scale sK0
 have c2 := gpy.scale sK3
 have c3 := gpx.scale sK1
 have c4 := gpy.scale sK4
 have g2 := c1.add c2
 have g4 := c3.add c4
 have m1 := (sK0.mul sX).mono (show 1 + 1 ≤ 3 by omega)
 have m2 := (sK1.mul sY).mono (show 1 + 1 ≤ 3 by omega)
 have m3 := (sK3.mul sX).mono (show 1 + 1 ≤ 3 by omega)
 have m4 := (sK4.mul sY).mono (show 1 + 1 ≤ 3 by omega)
 have m5 := (sK0.mul sU).mono (show 1 + 1 ≤ 3 by omega)
 have m6 := (sK1.mul sV).mono (show 1 + 1 ≤ 3 by omega)
 have m7 := (sK3.mul sU).mono (show 1 + 1 ≤ 3 by omega)
 have m8 := (sK4.mul sV).mono (show 1 + 1 ≤ 3 by omega)
 have k2 := sK2.mono (show 1 ≤ 3 by omega)
 have k5 := sK5.mono (show 1 ≤ 3 by omega)
 have tx := ((m1.add m2).add k2).mono (show 3 + 3 + 1 + 3 + 1 ≤ 11 by omega)
 have ty := ((m3.add m4).add k5).mono (show 3 + 3 + 1 + 3 + 1 ≤ 11 by omega)
 have a1 := ((m5.add m6).add k2).mono (show 3 + 3 + 1 + 3 + 1 ≤ 11 by omega)
 have a2 := ((m7.add m8).add k5).mono (show 3 + 3 + 1 + 3 + 1 ≤ 11 by omega)
 have w1 := fun {q : Rat} (h : Sz q 1) => h.mono (show 1 ≤ 11 by omega)
 have gmv := (gq.shf (by omega) (by omega) sz1 sz0 sU sz0 sz1 sV 5 (by omega)).mono (Nat.le_refl 4) (show _ ≤ 18000 by omega)
 have gpe := (ga.shf (by omega) (by omega) (w1 sK0) (w1 sK1) a1 (w1 sK3) (w1 sK4) a2 5 (by omega)).mono (Nat.le_refl 4) (show _ ≤ 18000 by omega)
 have gpi := (ga.shf (by omega) (by omega) sz1 sz0 sz0 sz0 sz1 sz0 5 (by omega)).mono (Nat.le_refl 4) (show _ ≤ 18000 by omega)
 refine pshifts_w al nl cl n1 d1 n2 d2 n30 d30 n31 d31 n32 d32 n33 d33 n34 d34 n35 d35 n4 d4 n5 d5 (ofL P) (ofL (shf P K0 K1 K2 K3 K4 K5)) (ofL (dxN P)) (ofL (shf (dxN P) K0 K1 K2 K3 K4 K5)) (ofL (dyN P)) (ofL (shf (dyN P) K0 K1 K2 K3 K4 K5))
  (ofL (dxN (shf P K0 K1 K2 K3 K4 K5))) (ofL (addN (scaleN K0 (shf (dxN P) K0 K1 K2 K3 K4 K5)) (scaleN K3 (shf (dyN P) K0 K1 K2 K3 K4 K5)))) (ofL (dyN (shf P K0 K1 K2 K3 K4 K5))) (ofL (addN (scaleN K1 (shf (dxN P) K0 K1 K2 K3 K4 K5)) (scaleN K4 (shf (dyN P) K0 K1 K2 K3 K4 K5))))
  (ofL (scaleN K0 (shf (dxN P) K0 K1 K2 K3 K4 K5))) (ofL (scaleN K3 (shf (dyN P) K0 K1 K2 K3 K4 K5))) (ofL (scaleN K1 (shf (dxN P) K0 K1 K2 K3 K4 K5))) (ofL (scaleN K4 (shf (dyN P) K0 K1 K2 K3 K4 K5)))
  (ofL (shf (shf P K0 K1 K2 K3 K4 K5) 1 0 U 0 1 V)) (ofL (shf P K0 K1 (K0 * U + K1 * V + K2) K3 K4 (K3 * U + K4 * V + K5))) (ofL (shf P 1 0 0 0 1 0))
  (degI (shf P K0 K1 K2 K3 K4 K5)) (degI P) X Y K0 K1 K2 K3 K4 K5 U V (K0 * X) (K1 * Y) (K3 * X) (K4 * Y) (K0 * U) (K1 * V) (K3 * U) (K4 * V) (K0 * X + K1 * Y + K2) (K3 * X + K4 * Y + K5) (atL P (K0 * X + K1 * Y + K2) (K3 * X + K4 * Y + K5)) 1 0 (K0 * U + K1 * V + K2) (K3 * U + K4 * V + K5)
  (fun w => RW8 w (.slice al nl cl) l) (rtKeeps _ _) hA
  hX hY hK0 hK1 hK2 hK3 hK4 hK5 hU hV
  (fun p w h => shiftGB 5 ga (by omega) (by omega) (by omega) (by omega) (by omega) (by omega) sK0 sK1 sK2 sK3 sK4 sK5 (by omega) w p h)
  (fun w => mulF _ _ 11 (w1 sK0) (w1 sX) (by omega) w)
  (fun w => mulF _ _ 11 (w1 sK1) (w1 sY) (by omega) w)
  (fun v w h => sum3G m1 m2 k2 (by omega) v w h)
  (fun w => mulF _ _ 11 (w1 sK3) (w1 sX) (by omega) w)
  (fun w => mulF _ _ 11 (w1 sK4) (w1 sY) (by omega) w)
  (fun v w h => sum3G m3 m4 k5 (by omega) v w h)
  (fun p w h => by have := atG gq (by omega) (by omega) sX sY (by omega) w p h; rwa [shf_at ga.nf] at this)
  (fun p w h => atG ga (by omega) (by omega) tx ty (by omega) w p h)
  (fun p w h => degG gq (by omega) (by omega) w p h)
  (fun p w h => degG ga (by omega) (by omega) w p h)
  (fun p w h => dxG ga (by omega) (by omega) w p h)
  (fun p w h => shiftGB 5 gz (by omega) (by omega) (by omega) (by omega) (by omega) (by omega) sK0 sK1 sK2 sK3 sK4 sK5 (by omega) w p h)
  (fun p w h => dyG ga (by omega) (by omega) w p h)
  (fun p w h => shiftGB 5 gw (by omega) (by omega) (by omega) (by omega) (by omega) (by omega) sK0 sK1 sK2 sK3 sK4 sK5 (by omega) w p h)
  (fun p w h => dxG gq (by omega) (by omega) w p h)
  (fun p w h => scaleG gpx (by omega) sK0 (by omega) w p h)
  (fun p w h => scaleG gpy (by omega) sK3 (by omega) w p h)
  (fun p q w h g => addG c1 c2 (by omega) (by omega) (by omega) w p q h g)
  (fun p q w h g => by have := sameG g1' g2 (by omega) (by omega) (by omega) (by omega) w p q h g; rwa [decide_eq_true (shf_dx ga.nf _ _ _ _ _ _)] at this)
  (fun p w h => dyG gq (by omega) (by omega) w p h)
  (fun p w h => scaleG gpx (by omega) sK1 (by omega) w p h)
  (fun p w h => scaleG gpy (by omega) sK4 (by omega) w p h)
  (fun p q w h g => addG c3 c4 (by omega) (by omega) (by omega) w p q h g)
  (fun p q w h g => by have := sameG g3 g4 (by omega) (by omega) (by omega) (by omega) w p q h g; rwa [decide_eq_true (shf_dy ga.nf _ _ _ _ _ _)] at this)
  int1 int0
  (fun p w h => shiftGB 5 gq (by omega) (by omega) (by omega) (by omega) (by omega) (by omega) sz1 sz0 sU sz0 sz1 sV (by omega) w p h)
  (fun w => mulF _ _ 11 (w1 sK0) (w1 sU) (by omega) w)
  (fun w => mulF _ _ 11 (w1 sK1) (w1 sV) (by omega) w)
  (fun v w h => sum3G m5 m6 k2 (by omega) v w h)
  (fun w => mulF _ _ 11 (w1 sK3) (w1 sU) (by omega) w)
  (fun w => mulF _ _ 11 (w1 sK4) (w1 sV) (by omega) w)
  (fun v w h => sum3G m7 m8 k5 (by omega) v w h)
  (fun p w h => shiftGB 5 ga (by omega) (by omega) (by omega) (by omega) (by omega) (by omega) (w1 sK0) (w1 sK1) a1 (w1 sK3) (w1 sK4) a2 (by omega) w p h)
  (fun p q w h g => by have := sameG gmv gpe (by omega) (by omega) (by omega) (by omega) w p q h g; rwa [decide_eq_true (shf_shf ga.nf _ _ _ _ _ _ _ _)] at this)
  (fun p w h => shiftGB 5 ga (by omega) (by omega) (by omega) (by omega) (by omega) (by omega) sz1 sz0 sz0 sz0 sz1 sz0 (by omega) w p h)
  (fun p q w h g => by have := sameG gpi ga (by omega) (by omega) (by omega) (by omega) w p q h g; rwa [decide_eq_true (shf_id ga.nf)] at this)
  Tab Keeps.tab lworks_any (decide_eq_false (by omega)) (decide_eq_false g1) (decide_eq_false (by have := shf_deg ga.nf K0 K1 K2 K3 K4 K5; omega)) w hv ht
end Go.Proofs.YtkpghlnegbimdaaGreatDoor
