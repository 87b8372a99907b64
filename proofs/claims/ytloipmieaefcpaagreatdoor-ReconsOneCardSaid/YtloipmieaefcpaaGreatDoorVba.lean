/-
  The law answers true at every input, and leaves its arguments as they were: a part of the proof. CONDITIONS: the package-level tables start as the program's text lays them (the card ties them).
-/
import Derived.Test.YtloipmieaefcpaaGreatDoorZad
set_option linter.unusedVariables false
set_option linter.unusedSimpArgs false
namespace Go.Proofs.YtloipmieaefcpaaGreatDoor
open Go.RowKit
theorem cls_callK {α : Type} {F : α → World} {w0 : World} {K : World → Prop} (hK : Keeps K) (h1 : ∀ x, Below w0.heap.size w0 (F x)) (h2 : ∀ W, Below w0.heap.size w0 W → ∃ x, W = F x) (hk : K w0) {P : Program} {f : FuncId} {args : Array Value} {v : Value}
  (h : ∀ w, K w → Calls P f args w fun e w' => e = .returned v ∧ Below w.heap.size w w') (x : α) : Calls P f args (F x) fun e w'' => e = .returned v ∧ ∃ y, w'' = F y :=
 (h (F x) (hK _ _ (h1 x) hk)).mono fun _ _ ⟨he, hb⟩ => ⟨he, h2 _ ((h1 x).trans (hb.mono (h1 x).size))⟩
end Go.Proofs.YtloipmieaefcpaaGreatDoor
namespace Go.Proofs.YtloipmieaefcpaaGreatDoor
open Go.RowKit
attribute [local irreducible] lo hs sm s64 c64 d64 b64 mh ml pd pc qd qc val hiB str cmpI srD lz nb isq zl zh zs
set_option maxHeartbeats 4000000 in
set_option maxRecDepth 100000 in
theorem fneg_w (n m : Int) (e : Nat) (HN : RT 34 #[intV n] (intV m)) (w : World) :
  Calls Tryz.prog 35 #[frV n e] w fun xe w' => xe = .returned (frV m e) ∧ Below w.heap.size w w' := by
 have hL0 : GL w w [] := GL.start w
 replace HN := Lib.hid HN
 replace hL0 := ((hL0.new rfl [.int .u64 ((zl n : Nat) : Int), .string (zh n), .bool (zs n), .int .u64 ((lo e : Nat) : Int), .string (hs e)] 30).new (K := w.heap.size + 1) (szA _ _) [.int .u64 0, .string ⟨#[]⟩, .bool false, .int .u64 0, .string ⟨#[]⟩] 30)
 generalize hweq : ((w.alloc (.cells #[.int .u64 ((zl n : Nat) : Int), .string (zh n), .bool (zs n), .int .u64 ((lo e : Nat) : Int), .string (hs e)] 30)).alloc (.cells #[.int .u64 0, .string ⟨#[]⟩, .bool false, .int .u64 0, .string ⟨#[]⟩] 30)) = x1 at hL0
 go_enter Tryz.func35, Tryz.ntmps35
 go_upto_region 1 with fail
 clear hweq
 obtain ⟨α, iα, F, hF1, hF2⟩ := cls x1
 have hq0 := cls_box hF1 hL0 _ _ (List.mem_cons_of_mem _ List.mem_cons_self)
 simp only [cellsC, and_true, Nat.zero_add, Nat.reduceAdd] at hq0
 refine region_qs 6 (C := fun w' => ∃ x, w' = F x) (by kernel_rfl) (by kernel_rfl) (cls_drew hF2) ?_
 simp only [List.take_succ_cons, List.take_zero, List.drop_succ_cons, List.drop_zero, List.take_nil, List.drop_nil]
 repeat (go_big_quiet_step (first | fail | (go_at_call 34; with_reducible exact cls_call hF1 hF2 HN.out _)))
 refine wpQuiet_nil ?_
 rintro wq ⟨xq, rfl⟩
 replace hL0 := hL0.call (hF1 xq)
 clear  hq0 hF2
 generalize F xq = x2 at hL0 ⊢
 clear hF1 xq iα F α
 have hA := hL0.fc
 simp only [fcG, cellsF, neK, and_true, ne_eq, Nat.zero_add, Nat.reduceAdd] at hA
 have hP := hL0.put 0 (w.heap.size + 1) _ rfl [.int .u64 ((zl m : Nat) : Int), .string (zh m), .bool (zs m), .int .u64 ((lo e : Nat) : Int), .string (hs e)] rfl
 simp only [setAll, List.set_cons_zero, List.set_cons_succ] at hP
 generalize hput1 : (((((x2.setCell ⟨w.heap.size + 1, 0, none⟩ (.int .u64 ((zl m : Nat) : Int))).setCell ⟨w.heap.size + 1, 1, none⟩ (.string (zh m))).setCell ⟨w.heap.size + 1, 2, none⟩ (.bool (zs m))).setCell ⟨w.heap.size + 1, 3, none⟩ (.int .u64 ((lo e : Nat) : Int))).setCell ⟨w.heap.size + 1, 4, none⟩ (.string (hs e))) = x3 at hP
 have hB1 := hP.fc
 simp only [fcG, cellsF, neK, and_true, ne_eq, Nat.zero_add, Nat.reduceAdd] at hB1
 replace hL0 := hP
 go_wp2_with fail
 exact bodyPost_ret (v := frV m e) (by simp [results, Tryz.results35, go_sem, hB1]) rfl ⟨rfl, hL0.bl⟩
end Go.Proofs.YtloipmieaefcpaaGreatDoor
namespace Go.Proofs.YtloipmieaefcpaaGreatDoor
open Go.RowKit
attribute [local irreducible] lo hs sm s64 c64 d64 b64 mh ml pd pc qd qc val hiB str cmpI srD lz nb isq zl zh zs
theorem negF (q : Rat) (w : World) : Calls Tryz.prog 35 #[fracV q] w fun x w' => x = .returned (fracV (-q)) ∧ Below w.heap.size w w' := fneg_w q.num (-q.num) (fe q) (fun w => negI q.num w) w
end Go.Proofs.YtloipmieaefcpaaGreatDoor
namespace Go.Proofs.YtloipmieaefcpaaGreatDoor
theorem backO_none {a : Int} {m : Nat} : backO a m = none ↔ ∀ q, ¬ (fitsB q a m = true ∧ farB q m = true) := by
 constructor
 ·intro h q hq
  have := backO_iff.2 hq
  rw [h] at this; cases this
 ·intro h
  cases e : backO a m with
  | none => rfl
  | some q => exact absurd (backO_iff.1 e) (h q)
theorem back_congr {a b : Int} {m : Nat} (h : ∀ q, fitsB q a m = fitsB q b m) : backB a m = backB b m ∧ backQ a m = backQ b m := by
 cases e : backO b m with
 | none =>
  have : backO a m = none := backO_none.2 fun q hq => backO_none.1 e q (by rw [← h]; exact hq)
  unfold backB backQ; rw [this, e]; exact ⟨rfl, rfl⟩
 | some q =>
  have : backO a m = some q := backO_iff.2 (by rw [h]; exact backO_iff.1 e)
  unfold backB backQ; rw [this, e]; exact ⟨rfl, rfl⟩
theorem fitsB_add (q : Rat) (a : Int) (m : Nat) : fitsB q (a + (m : Int)) m = fitsB q a m := by
 unfold fitsB
 rw [Int.add_mul, Int.add_mul_emod_self_left]
theorem fitsB_neg (q : Rat) (a : Int) (m : Nat) : fitsB (-q) (-a) m = fitsB q a m := by
 have h : fitsB (-q) (-a) m = true ↔ fitsB q a m = true := by
  rw [fitsB_iff, fitsB_iff, Rat.neg_num, Rat.neg_den]
  refine and_congr_right fun _ => ?_
  rw [show -q.num - -a * (q.den : Int) = -(q.num - a * (q.den : Int)) by grind]
  exact Int.dvd_neg
 cases h1 : fitsB q a m <;> cases h2 : fitsB (-q) (-a) m <;> simp_all
theorem farB_neg (q : Rat) (m : Nat) : farB (-q) m = farB q m := by unfold farB; rw [Rat.neg_num, Rat.neg_den, Int.natAbs_neg]
theorem back_neg (a : Int) (m : Nat) : backB (-a) m = backB a m ∧ backQ (-a) m = -backQ a m := by
 cases e : backO a m with
 | none =>
  have : backO (-a) m = none := backO_none.2 fun q hq => backO_none.1 e (-q) (by
   have h1 := fitsB_neg q (-a) m
   rw [Int.neg_neg] at h1
   rw [h1, farB_neg]; exact hq)
  unfold backB backQ; rw [this, e]; exact ⟨rfl, by simp⟩
 | some q =>
  have : backO (-a) m = some (-q) := backO_iff.2 (by rw [fitsB_neg, farB_neg]; exact backO_iff.1 e)
  unfold backB backQ; rw [this, e]; exact ⟨rfl, rfl⟩
theorem small_uniq {a : Int} {m : Nat} {p q : Rat} (p1 : fitsB p a m = true) (p2 : farB p m = true) (q1 : fitsB q a m = true) (q2 : farB q m = true) : p = q := by
 have := backO_iff.2 ⟨p1, p2⟩
 rw [backO_iff.2 ⟨q1, q2⟩] at this
 exact (Option.some.inj this).symm
end Go.Proofs.YtloipmieaefcpaaGreatDoor
namespace Go.Proofs.YtloipmieaefcpaaGreatDoor
open Go.RowKit
attribute [local irreducible] lo hs sm s64 c64 d64 b64 mh ml pd pc qd qc val hiB str cmpI srD lz nb isq zl zh zs fe fitsB farB backB backQ
set_option maxHeartbeats 4000000 in
set_option maxRecDepth 100000 in
theorem pone_big0 (sx sy : Bool) (ax qx ay qy am : Option Addr) (nx cx mx dx ny cy my dy nm cm : Nat) (i : Int) (KT : World → Prop) (hKT : Keeps KT) (HW : ∀ w, KT w → Calls Tryz.prog 15 #[] w fun xe w' => xe = .returned (.bool true) ∧ Below w.heap.size w w') (l0 : decide ((2 : Int) < ((nx : Nat) : Int)) = true) (k0 : decide (2 < nx) = true) (w : World) (kKT : KT w) :
  Calls Tryz.prog 7 #[.agg #[.bool sx, .slice ax nx cx, .slice qx mx dx], .agg #[.bool sy, .slice ay ny cy, .slice qy my dy], .slice am nm cm, .int .i64 i] w fun xe w' => xe = .returned (.bool true) ∧ Below w.heap.size w w' := by
 have hL0 : GL w w [] := GL.start w
 replace hKT := Lib.hid hKT
 replace HW := Lib.hid HW
 replace hL0 := ((hL0.new rfl [.bool sx, .slice ax nx cx, .slice qx mx dx] 70).new (K := w.heap.size + 1) (szA _ _) [.bool sy, .slice ay ny cy, .slice qy my dy] 70)
 generalize hweq : ((w.alloc (.cells #[.bool sx, .slice ax nx cx, .slice qx mx dx] 70)).alloc (.cells #[.bool sy, .slice ay ny cy, .slice qy my dy] 70)) = x1 at hL0
 go_enter Tryz.func7, Tryz.ntmps7
 have hN0 := cells_of _ 0 [] rfl (hL0.get _ _ (List.mem_cons_of_mem _ List.mem_cons_self))
 simp only [cellsF, and_true, Nat.zero_add, Nat.reduceAdd] at hN0
 go_wp2_with fail
 clear hN0
 with_reducible refine Calls.mono (HW.out _ (hKT.out.at hL0.bl kKT)) ?_
 rintro e x2 ⟨rfl, hb⟩
 replace hL0 := hL0.call hb
 clear hb hweq
 go_wp2_with fail
 exact bodyPost_ret (v := .bool true) (by simp [results, Tryz.results7, go_sem]) rfl ⟨rfl, hL0.bl⟩
set_option maxHeartbeats 4000000 in
set_option maxRecDepth 100000 in
theorem pone_big1 (sx sy : Bool) (ax qx ay qy am : Option Addr) (nx cx mx dx ny cy my dy nm cm : Nat) (i : Int) (KT : World → Prop) (hKT : Keeps KT) (HW : ∀ w, KT w → Calls Tryz.prog 15 #[] w fun xe w' => xe = .returned (.bool true) ∧ Below w.heap.size w w') (l0 : decide ((2 : Int) < ((nx : Nat) : Int)) = false) (k0 : decide (2 < nx) = false) (l1 : decide ((2 : Int) < ((mx : Nat) : Int)) = true) (k1 : decide (2 < mx) = true) (w : World) (kKT : KT w) :
  Calls Tryz.prog 7 #[.agg #[.bool sx, .slice ax nx cx, .slice qx mx dx], .agg #[.bool sy, .slice ay ny cy, .slice qy my dy], .slice am nm cm, .int .i64 i] w fun xe w' => xe = .returned (.bool true) ∧ Below w.heap.size w w' := by
 have hL0 : GL w w [] := GL.start w
 replace hKT := Lib.hid hKT
 replace HW := Lib.hid HW
 replace hL0 := ((hL0.new rfl [.bool sx, .slice ax nx cx, .slice qx mx dx] 70).new (K := w.heap.size + 1) (szA _ _) [.bool sy, .slice ay ny cy, .slice qy my dy] 70)
 generalize hweq : ((w.alloc (.cells #[.bool sx, .slice ax nx cx, .slice qx mx dx] 70)).alloc (.cells #[.bool sy, .slice ay ny cy, .slice qy my dy] 70)) = x1 at hL0
 go_enter Tryz.func7, Tryz.ntmps7
 have hN0 := cells_of _ 0 [] rfl (hL0.get _ _ (List.mem_cons_of_mem _ List.mem_cons_self))
 simp only [cellsF, and_true, Nat.zero_add, Nat.reduceAdd] at hN0
 go_wp2_with fail
 clear hN0
 with_reducible refine Calls.mono (HW.out _ (hKT.out.at hL0.bl kKT)) ?_
 rintro e x2 ⟨rfl, hb⟩
 replace hL0 := hL0.call hb
 clear hb hweq
 go_wp2_with fail
 exact bodyPost_ret (v := .bool true) (by simp [results, Tryz.results7, go_sem]) rfl ⟨rfl, hL0.bl⟩
set_option maxHeartbeats 4000000 in
set_option maxRecDepth 100000 in
theorem pone_big2 (sx sy : Bool) (ax qx ay qy am : Option Addr) (nx cx mx dx ny cy my dy nm cm : Nat) (i : Int) (KT : World → Prop) (hKT : Keeps KT) (HW : ∀ w, KT w → Calls Tryz.prog 15 #[] w fun xe w' => xe = .returned (.bool true) ∧ Below w.heap.size w w') (l0 : decide ((2 : Int) < ((nx : Nat) : Int)) = false) (k0 : decide (2 < nx) = false) (l1 : decide ((2 : Int) < ((mx : Nat) : Int)) = false) (k1 : decide (2 < mx) = false) (l2 : decide ((2 : Int) < ((ny : Nat) : Int)) = true) (k2 : decide (2 < ny) = true) (w : World) (kKT : KT w) :
  Calls Tryz.prog 7 #[.agg #[.bool sx, .slice ax nx cx, .slice qx mx dx], .agg #[.bool sy, .slice ay ny cy, .slice qy my dy], .slice am nm cm, .int .i64 i] w fun xe w' => xe = .returned (.bool true) ∧ Below w.heap.size w w' := by
 have hL0 : GL w w [] := GL.start w
 replace hKT := Lib.hid hKT
 replace HW := Lib.hid HW
 replace hL0 := ((hL0.new rfl [.bool sx, .slice ax nx cx, .slice qx mx dx] 70).new (K := w.heap.size + 1) (szA _ _) [.bool sy, .slice ay ny cy, .slice qy my dy] 70)
 generalize hweq : ((w.alloc (.cells #[.bool sx, .slice ax nx cx, .slice qx mx dx] 70)).alloc (.cells #[.bool sy, .slice ay ny cy, .slice qy my dy] 70)) = x1 at hL0
 go_enter Tryz.func7, Tryz.ntmps7
 have hN0 := cells_of _ 0 [] rfl (hL0.get _ _ List.mem_cons_self)
 simp only [cellsF, and_true, Nat.zero_add, Nat.reduceAdd] at hN0
 have hN1 := cells_of _ 0 [] rfl (hL0.get _ _ (List.mem_cons_of_mem _ List.mem_cons_self))
 simp only [cellsF, and_true, Nat.zero_add, Nat.reduceAdd] at hN1
 go_wp2_with fail
 clear hN0 hN1
 with_reducible refine Calls.mono (HW.out _ (hKT.out.at hL0.bl kKT)) ?_
 rintro e x2 ⟨rfl, hb⟩
 replace hL0 := hL0.call hb
 clear hb hweq
 go_wp2_with fail
 exact bodyPost_ret (v := .bool true) (by simp [results, Tryz.results7, go_sem]) rfl ⟨rfl, hL0.bl⟩
set_option maxHeartbeats 4000000 in
set_option maxRecDepth 100000 in
theorem pone_big3 (sx sy : Bool) (ax qx ay qy am : Option Addr) (nx cx mx dx ny cy my dy nm cm : Nat) (i : Int) (KT : World → Prop) (hKT : Keeps KT) (HW : ∀ w, KT w → Calls Tryz.prog 15 #[] w fun xe w' => xe = .returned (.bool true) ∧ Below w.heap.size w w') (l0 : decide ((2 : Int) < ((nx : Nat) : Int)) = false) (k0 : decide (2 < nx) = false) (l1 : decide ((2 : Int) < ((mx : Nat) : Int)) = false) (k1 : decide (2 < mx) = false) (l2 : decide ((2 : Int) < ((ny : Nat) : Int)) = false) (k2 : decide (2 < ny) = false) (l3 : decide ((2 : Int) < ((my : Nat) : Int)) = true) (k3 : decide (2 < my) = true) (w : World) (kKT : KT w) :
  Calls Tryz.prog 7 #[.agg #[.bool sx, .slice ax nx cx, .slice qx mx dx], .agg #[.bool sy, .slice ay ny cy, .slice qy my dy], .slice am nm cm, .int .i64 i] w fun xe w' => xe = .returned (.bool true) ∧ Below w.heap.size w w' := by
 have hL0 : GL w w [] := GL.start w
 replace hKT := Lib.hid hKT
 replace HW := Lib.hid HW
 replace hL0 := ((hL0.new rfl [.bool sx, .slice ax nx cx, .slice qx mx dx] 70).new (K := w.heap.size + 1) (szA _ _) [.bool sy, .slice ay ny cy, .slice qy my dy] 70)
 generalize hweq : ((w.alloc (.cells #[.bool sx, .slice ax nx cx, .slice qx mx dx] 70)).alloc (.cells #[.bool sy, .slice ay ny cy, .slice qy my dy] 70)) = x1 at hL0
 go_enter Tryz.func7, Tryz.ntmps7
 have hN0 := cells_of _ 0 [] rfl (hL0.get _ _ List.mem_cons_self)
 simp only [cellsF, and_true, Nat.zero_add, Nat.reduceAdd] at hN0
 have hN1 := cells_of _ 0 [] rfl (hL0.get _ _ (List.mem_cons_of_mem _ List.mem_cons_self))
 simp only [cellsF, and_true, Nat.zero_add, Nat.reduceAdd] at hN1
 go_wp2_with fail
 clear hN0 hN1
 with_reducible refine Calls.mono (HW.out _ (hKT.out.at hL0.bl kKT)) ?_
 rintro e x2 ⟨rfl, hb⟩
 replace hL0 := hL0.call hb
 clear hb hweq
 go_wp2_with fail
 exact bodyPost_ret (v := .bool true) (by simp [results, Tryz.results7, go_sem]) rfl ⟨rfl, hL0.bl⟩
set_option maxHeartbeats 4000000 in
set_option maxRecDepth 100000 in
theorem pone_big4 (sx sy : Bool) (ax qx ay qy am : Option Addr) (nx cx mx dx ny cy my dy nm cm : Nat) (i : Int) (KT : World → Prop) (hKT : Keeps KT) (HW : ∀ w, KT w → Calls Tryz.prog 15 #[] w fun xe w' => xe = .returned (.bool true) ∧ Below w.heap.size w w') (l0 : decide ((2 : Int) < ((nx : Nat) : Int)) = false) (k0 : decide (2 < nx) = false) (l1 : decide ((2 : Int) < ((mx : Nat) : Int)) = false) (k1 : decide (2 < mx) = false) (l2 : decide ((2 : Int) < ((ny : Nat) : Int)) = false) (k2 : decide (2 < ny) = false) (l3 : decide ((2 : Int) < ((my : Nat) : Int)) = false) (k3 : decide (2 < my) = false) (l4 : decide ((6 : Int) < ((nm : Nat) : Int)) = true) (k4 : decide (6 < nm) = true) (w : World) (kKT : KT w) :
  Calls Tryz.prog 7 #[.agg #[.bool sx, .slice ax nx cx, .slice qx mx dx], .agg #[.bool sy, .slice ay ny cy, .slice qy my dy], .slice am nm cm, .int .i64 i] w fun xe w' => xe = .returned (.bool true) ∧ Below w.heap.size w w' := by
 have hL0 : GL w w [] := GL.start w
 replace hKT := Lib.hid hKT
 replace HW := Lib.hid HW
 replace hL0 := ((hL0.new rfl [.bool sx, .slice ax nx cx, .slice qx mx dx] 70).new (K := w.heap.size + 1) (szA _ _) [.bool sy, .slice ay ny cy, .slice qy my dy] 70)
 generalize hweq : ((w.alloc (.cells #[.bool sx, .slice ax nx cx, .slice qx mx dx] 70)).alloc (.cells #[.bool sy, .slice ay ny cy, .slice qy my dy] 70)) = x1 at hL0
 go_enter Tryz.func7, Tryz.ntmps7
 have hN0 := cells_of _ 0 [] rfl (hL0.get _ _ List.mem_cons_self)
 simp only [cellsF, and_true, Nat.zero_add, Nat.reduceAdd] at hN0
 have hN1 := cells_of _ 0 [] rfl (hL0.get _ _ (List.mem_cons_of_mem _ List.mem_cons_self))
 simp only [cellsF, and_true, Nat.zero_add, Nat.reduceAdd] at hN1
 go_wp2_with fail
 clear hN0 hN1
 with_reducible refine Calls.mono (HW.out _ (hKT.out.at hL0.bl kKT)) ?_
 rintro e x2 ⟨rfl, hb⟩
 replace hL0 := hL0.call hb
 clear hb hweq
 go_wp2_with fail
 exact bodyPost_ret (v := .bool true) (by simp [results, Tryz.results7, go_sem]) rfl ⟨rfl, hL0.bl⟩
set_option maxHeartbeats 4000000 in
set_option maxRecDepth 100000 in
theorem pone_a (sx sy : Bool) (ax qx ay qy am : Option Addr) (nx cx mx dx ny cy my dy nm cm : Nat) (i : Int) (b y s t : Int) (n : Nat) (f g h l : Rat) (k : Bool) (Km : World → Prop) (hKm : Keeps Km) (HM : ∀ w, Km w → Calls Tryz.prog 27 #[.slice am nm cm] w fun xe w' => xe = .returned (natV n) ∧ Below w.heap.size w w') (HO : ∀ w, Calls Tryz.prog 11 #[.int .i64 i] w fun xe w' => xe = .returned (intV b) ∧ Below w.heap.size w w') (Kx : World → Prop) (hKx : Keeps Kx) (Gx : ∀ w, Kx w → Calls Tryz.prog 29 #[.agg #[.bool sx, .slice ax nx cx, .slice qx mx dx]] w fun xe w' => xe = .returned (fracV f) ∧ Below w.heap.size w w') (Ky : World → Prop) (hKy : Keeps Ky) (Gy : ∀ w, Ky w → Calls Tryz.prog 29 #[.agg #[.bool sy, .slice ay ny cy, .slice qy my dy]] w fun xe w' => xe = .returned (fracV g) ∧ Below w.heap.size w w') (H1 : ∀ w, Calls Tryz.prog 22 #[fracV f, natV n] w fun xe w' => xe = .returned (.bool false) ∧ Below w.heap.size w w') (HB : ∀ w, Calls Tryz.prog 10 #[intV b, natV n] w fun xe w' => xe = .returned (.tuple #[fracV h, .bool k]) ∧ Below w.heap.size w w') (HY : ∀ w, Calls Tryz.prog 31 #[.bool false, natV n] w fun xe w' => xe = .returned (intV y) ∧ Below w.heap.size w w') (HA : ∀ w, Calls Tryz.prog 33 #[intV b, intV y] w fun xe w' => xe = .returned (intV s) ∧ Below w.heap.size w w') (HB2 : ∀ w, Calls Tryz.prog 10 #[intV s, natV n] w fun xe w' => xe = .returned (.tuple #[fracV h, .bool k]) ∧ Below w.heap.size w w') (HN : ∀ w, Calls Tryz.prog 34 #[intV b] w fun xe w' => xe = .returned (intV t) ∧ Below w.heap.size w w') (HB3 : ∀ w, Calls Tryz.prog 10 #[intV t, natV n] w fun xe w' => xe = .returned (.tuple #[fracV l, .bool k]) ∧ Below w.heap.size w w') (HNf : ∀ w, Calls Tryz.prog 35 #[fracV h] w fun xe w' => xe = .returned (fracV l) ∧ Below w.heap.size w w') (KT : World → Prop) (hKT : Keeps KT) (HW : ∀ w, KT w → Calls Tryz.prog 15 #[] w fun xe w' => xe = .returned (.bool true) ∧ Below w.heap.size w w') (l0 : decide ((2 : Int) < ((nx : Nat) : Int)) = false) (k0 : decide (2 < nx) = false) (l1 : decide ((2 : Int) < ((mx : Nat) : Int)) = false) (k1 : decide (2 < mx) = false) (l2 : decide ((2 : Int) < ((ny : Nat) : Int)) = false) (k2 : decide (2 < ny) = false) (l3 : decide ((2 : Int) < ((my : Nat) : Int)) = false) (k3 : decide (2 < my) = false) (l4 : decide ((6 : Int) < ((nm : Nat) : Int)) = false) (k4 : decide (6 < nm) = false) (w : World) (kKm : Km w) (kKx : Kx w) (kKy : Ky w) (kKT : KT w) :
  Calls Tryz.prog 7 #[.agg #[.bool sx, .slice ax nx cx, .slice qx mx dx], .agg #[.bool sy, .slice ay ny cy, .slice qy my dy], .slice am nm cm, .int .i64 i] w fun xe w' => xe = .returned (.bool true) ∧ Below w.heap.size w w' := by
 have hL0 : GL w w [] := GL.start w
 replace hKm := Lib.hid hKm
 replace HM := Lib.hid HM
 replace HO := Lib.hid HO
 replace hKx := Lib.hid hKx
 replace Gx := Lib.hid Gx
 replace hKy := Lib.hid hKy
 replace Gy := Lib.hid Gy
 replace H1 := Lib.hid H1
 replace HB := Lib.hid HB
 replace HY := Lib.hid HY
 replace HA := Lib.hid HA
 replace HB2 := Lib.hid HB2
 replace HN := Lib.hid HN
 replace HB3 := Lib.hid HB3
 replace HNf := Lib.hid HNf
 replace hKT := Lib.hid hKT
 replace HW := Lib.hid HW
 replace hL0 := ((hL0.new rfl [.bool sx, .slice ax nx cx, .slice qx mx dx] 70).new (K := w.heap.size + 1) (szA _ _) [.bool sy, .slice ay ny cy, .slice qy my dy] 70)
 generalize hweq : ((w.alloc (.cells #[.bool sx, .slice ax nx cx, .slice qx mx dx] 70)).alloc (.cells #[.bool sy, .slice ay ny cy, .slice qy my dy] 70)) = x1 at hL0
 go_enter Tryz.func7, Tryz.ntmps7
 have hN0 := cells_of _ 0 [] rfl (hL0.get _ _ List.mem_cons_self)
 simp only [cellsF, and_true, Nat.zero_add, Nat.reduceAdd] at hN0
 have hN1 := cells_of _ 0 [] rfl (hL0.get _ _ (List.mem_cons_of_mem _ List.mem_cons_self))
 simp only [cellsF, and_true, Nat.zero_add, Nat.reduceAdd] at hN1
 go_wp2_with fail
 clear hN0 hN1
 with_reducible refine Calls.mono (HM.out _ (hKm.out.at hL0.bl kKm)) ?_
 rintro e x2 ⟨rfl, hb⟩
 replace hL0 := hL0.call hb
 clear hb hweq
 go_wp2_with fail
 with_reducible refine Calls.mono (HO.out _) ?_
 rintro e x3 ⟨rfl, hb⟩
 replace hL0 := hL0.call hb
 clear hb
 replace hL0 := ((hL0.new rfl [.int .u64 ((lo n : Nat) : Int), .string (hs n)] 26).new (K := x3.heap.size + 1) (szA _ _) [.int .u64 ((zl b : Nat) : Int), .string (zh b), .bool (zs b)] 28)
 generalize hweq : ((x3.alloc (.cells #[.int .u64 ((lo n : Nat) : Int), .string (hs n)] 26)).alloc (.cells #[.int .u64 ((zl b : Nat) : Int), .string (zh b), .bool (zs b)] 28)) = x4 at hL0
 go_upto_region 4 with fail
 have kKx1 := hKx.out.at hL0.bl kKx
 have kKy1 := hKy.out.at hL0.bl kKy
 clear hweq
 refine region_gh (by kernel_rfl) (by kernel_rfl) ?_
 refine lex_seg (gl := []) 4 (by kernel_rfl) ?_
 intro α iα F hF1 hF2
 have hq := GL.seg hF1 hL0
 simp only [fcC, cellsC, and_true, Nat.zero_add, Nat.reduceAdd] at hq
 simp only [List.take_succ_cons, List.take_zero, List.drop_succ_cons, List.drop_zero, List.take_nil, List.drop_nil]
 repeat (go_big_quiet_step (first | fail | (go_at_call 29; with_reducible exact seg_callK hKx.out hF1 hF2 kKx1 Gx.out _) | (go_at_call 29; with_reducible exact seg_callK hKy.out hF1 hF2 kKy1 Gy.out _)))
 refine wpQuiet_nil ?_
 clear hq hF1 hF2 iα F α
 refine lex_new [.int .u64 0, .string ⟨#[]⟩, .bool false, .int .u64 0, .string ⟨#[]⟩] 11 30 30 rfl rfl (of_decide_eq_true (by kernel_rfl)) (by kernel_rfl) rfl new_frac ?_
 simp only [Act.put, List.setIfInBounds_toArray, List.set_cons_succ, List.set_cons_zero]
 refine lex_new [.int .u64 0, .string ⟨#[]⟩, .bool false, .int .u64 0, .string ⟨#[]⟩] 12 30 30 rfl rfl (of_decide_eq_true (by kernel_rfl)) (by kernel_rfl) rfl new_frac ?_
 simp only [Act.put, List.setIfInBounds_toArray, List.set_cons_succ, List.set_cons_zero]
 refine lex_put [.int .u64 ((zl f.num : Nat) : Int), .string (zh f.num), .bool (zs f.num), .int .u64 ((lo (fe f) : Nat) : Int), .string (hs (fe f))] [.int .u64 0, .string ⟨#[]⟩, .bool false, .int .u64 0, .string ⟨#[]⟩] 11 30 (.tmp 54) rfl (by kernel_rfl) (by simp [toG, upd]) rfl (fun w k h => put_frac _ _ _ _ _ _ _ _ _ _ w k h) ?_
 simp only [Act.put]
 refine lex_put [.int .u64 ((zl g.num : Nat) : Int), .string (zh g.num), .bool (zs g.num), .int .u64 ((lo (fe g) : Nat) : Int), .string (hs (fe g))] [.int .u64 0, .string ⟨#[]⟩, .bool false, .int .u64 0, .string ⟨#[]⟩] 12 30 (.tmp 56) rfl (by kernel_rfl) (by simp [toG, upd]) rfl (fun w k h => put_frac _ _ _ _ _ _ _ _ _ _ w k h) ?_
 simp only [Act.put]
 refine lexG_nil ?_
 intro κ x5 hS
 replace hL0 := hL0.ghs hS [(12, [.int .u64 ((zl g.num : Nat) : Int), .string (zh g.num), .bool (zs g.num), .int .u64 ((lo (fe g) : Nat) : Int), .string (hs (fe g))]), (11, [.int .u64 ((zl f.num : Nat) : Int), .string (zh f.num), .bool (zs f.num), .int .u64 ((lo (fe f) : Nat) : Int), .string (hs (fe f))])] (by simp) (by intro p hp; simp only [List.mem_cons, List.not_mem_nil, or_false] at hp; rcases hp with rfl | rfl <;> exact ⟨_, by simp only [toG, upd]; rfl⟩)
 simp only [List.map_cons, List.map_nil, List.cons_append, List.nil_append] at hL0
 simp only [over_toG, over_nil, Act.put, List.setIfInBounds_toArray, List.set_cons_succ, List.set_cons_zero]
 clear hS
 generalize κ 12 = k5_12 at *
 generalize κ 11 = k5_11 at *
 clear kKx1 kKy1
 have hN0 := cells_of _ 0 [] rfl (hL0.get _ _ (List.mem_cons_of_mem _ List.mem_cons_self))
 simp only [cellsF, and_true, Nat.zero_add, Nat.reduceAdd] at hN0
 have hN1 := cells_of _ 0 [] rfl (hL0.get _ _ (List.mem_cons_of_mem _ (List.mem_cons_of_mem _ (List.mem_cons_of_mem _ List.mem_cons_self))))
 simp only [cellsF, and_true, Nat.zero_add, Nat.reduceAdd] at hN1
 go_wp2_with fail
 clear hN0 hN1
 with_reducible refine Calls.mono (H1.out _) ?_
 rintro e x6 ⟨rfl, hb⟩
 replace hL0 := hL0.call hb
 clear hb
 have hN0 := cells_of _ 0 [] rfl (hL0.get _ _ (List.mem_cons_of_mem _ (List.mem_cons_of_mem _ List.mem_cons_self)))
 simp only [cellsF, and_true, Nat.zero_add, Nat.reduceAdd] at hN0
 have hN1 := cells_of _ 0 [] rfl (hL0.get _ _ (List.mem_cons_of_mem _ (List.mem_cons_of_mem _ (List.mem_cons_of_mem _ List.mem_cons_self))))
 simp only [cellsF, and_true, Nat.zero_add, Nat.reduceAdd] at hN1
 go_wp2_with fail
 clear hN0 hN1
 with_reducible refine Calls.mono (HB.out _) ?_
 rintro e x7 ⟨rfl, hb⟩
 replace hL0 := hL0.call hb
 clear hb
 replace hL0 := (hL0.new rfl [.int .u64 ((zl h.num : Nat) : Int), .string (zh h.num), .bool (zs h.num), .int .u64 ((lo (fe h) : Nat) : Int), .string (hs (fe h))] 30)
 generalize hweq : (x7.alloc (.cells #[.int .u64 ((zl h.num : Nat) : Int), .string (zh h.num), .bool (zs h.num), .int .u64 ((lo (fe h) : Nat) : Int), .string (hs (fe h))] 30)) = x8 at hL0
 go_upto_region 8 with fail
 clear hweq
 refine region_gh (by kernel_rfl) (by kernel_rfl) ?_
 refine lex_seg (gl := []) 9 (by kernel_rfl) ?_
 intro α iα F hF1 hF2
 have hq := GL.seg hF1 hL0
 simp only [fcC, cellsC, and_true, Nat.zero_add, Nat.reduceAdd] at hq
 simp only [List.take_succ_cons, List.take_zero, List.drop_succ_cons, List.drop_zero, List.take_nil, List.drop_nil]
 repeat (go_big_quiet_step (first | fail | (go_at_call 31; with_reducible exact seg_call hF2 HY.out _) | (go_at_call 33; with_reducible exact seg_call hF2 HA.out _) | (go_at_call 10; with_reducible exact seg_call hF2 HB2.out _)))
 refine wpQuiet_nil ?_
 clear hq hF1 hF2 iα F α
 refine lex_new [.int .u64 0, .string ⟨#[]⟩, .bool false, .int .u64 0, .string ⟨#[]⟩] 15 30 30 rfl rfl (of_decide_eq_true (by kernel_rfl)) (by kernel_rfl) rfl new_frac ?_
 simp only [Act.put, List.setIfInBounds_toArray, List.set_cons_succ, List.set_cons_zero]
 refine lex_put [.int .u64 ((zl h.num : Nat) : Int), .string (zh h.num), .bool (zs h.num), .int .u64 ((lo (fe h) : Nat) : Int), .string (hs (fe h))] [.int .u64 0, .string ⟨#[]⟩, .bool false, .int .u64 0, .string ⟨#[]⟩] 15 30 (.tmp 95) rfl (by kernel_rfl) (by simp [toG, upd]) rfl (fun w k h => put_frac _ _ _ _ _ _ _ _ _ _ w k h) ?_
 simp only [Act.put]
 refine lex_seg (gl := [(15, [.int .u64 ((zl h.num : Nat) : Int), .string (zh h.num), .bool (zs h.num), .int .u64 ((lo (fe h) : Nat) : Int), .string (hs (fe h))], true), (15, [.int .u64 0, .string ⟨#[]⟩, .bool false, .int .u64 0, .string ⟨#[]⟩], false)]) 1 (by kernel_rfl) ?_
 intro α iα F hF1 hF2
 have hq := GL.seg hF1 hL0
 simp only [fcC, cellsC, and_true, Nat.zero_add, Nat.reduceAdd] at hq
 simp only [List.take_succ_cons, List.take_zero, List.drop_succ_cons, List.drop_zero, List.take_nil, List.drop_nil]
 repeat (go_big_quiet_step (first | fail | (go_at_call 31; with_reducible exact seg_call hF2 HY.out _) | (go_at_call 33; with_reducible exact seg_call hF2 HA.out _) | (go_at_call 10; with_reducible exact seg_call hF2 HB2.out _)))
 refine wpQuiet_nil ?_
 clear hq hF1 hF2 iα F α
 refine lexG_nil ?_
 intro κ x9 hS
 replace hL0 := hL0.ghs hS [(15, [.int .u64 ((zl h.num : Nat) : Int), .string (zh h.num), .bool (zs h.num), .int .u64 ((lo (fe h) : Nat) : Int), .string (hs (fe h))])] (by simp) (by intro p hp; simp only [List.mem_cons, List.not_mem_nil, or_false] at hp; rcases hp with rfl <;> exact ⟨_, by simp only [toG, upd]; rfl⟩)
 simp only [List.map_cons, List.map_nil, List.cons_append, List.nil_append] at hL0
 simp only [over_toG, over_nil, Act.put, List.setIfInBounds_toArray, List.set_cons_succ, List.set_cons_zero]
 clear hS
 generalize κ 15 = k9_15 at *
 go_upto_region 9 with fail
 refine region_gh (by kernel_rfl) (by kernel_rfl) ?_
 refine lex_seg (gl := []) 7 (by kernel_rfl) ?_
 intro α iα F hF1 hF2
 have hq := GL.seg hF1 hL0
 simp only [fcC, cellsC, and_true, Nat.zero_add, Nat.reduceAdd] at hq
 simp only [List.take_succ_cons, List.take_zero, List.drop_succ_cons, List.drop_zero, List.take_nil, List.drop_nil]
 repeat (go_big_quiet_step (first | fail | (go_at_call 34; with_reducible exact seg_call hF2 HN.out _) | (go_at_call 10; with_reducible exact seg_call hF2 HB3.out _)))
 refine wpQuiet_nil ?_
 clear hq hF1 hF2 iα F α
 refine lex_new [.int .u64 0, .string ⟨#[]⟩, .bool false, .int .u64 0, .string ⟨#[]⟩] 17 30 30 rfl rfl (of_decide_eq_true (by kernel_rfl)) (by kernel_rfl) rfl new_frac ?_
 simp only [Act.put, List.setIfInBounds_toArray, List.set_cons_succ, List.set_cons_zero]
 refine lex_put [.int .u64 ((zl l.num : Nat) : Int), .string (zh l.num), .bool (zs l.num), .int .u64 ((lo (fe l) : Nat) : Int), .string (hs (fe l))] [.int .u64 0, .string ⟨#[]⟩, .bool false, .int .u64 0, .string ⟨#[]⟩] 17 30 (.tmp 102) rfl (by kernel_rfl) (by simp [toG, upd]) rfl (fun w k h => put_frac _ _ _ _ _ _ _ _ _ _ w k h) ?_
 simp only [Act.put]
 refine lex_seg (gl := [(17, [.int .u64 ((zl l.num : Nat) : Int), .string (zh l.num), .bool (zs l.num), .int .u64 ((lo (fe l) : Nat) : Int), .string (hs (fe l))], true), (17, [.int .u64 0, .string ⟨#[]⟩, .bool false, .int .u64 0, .string ⟨#[]⟩], false)]) 1 (by kernel_rfl) ?_
 intro α iα F hF1 hF2
 have hq := GL.seg hF1 hL0
 simp only [fcC, cellsC, and_true, Nat.zero_add, Nat.reduceAdd] at hq
 simp only [List.take_succ_cons, List.take_zero, List.drop_succ_cons, List.drop_zero, List.take_nil, List.drop_nil]
 repeat (go_big_quiet_step (first | fail | (go_at_call 34; with_reducible exact seg_call hF2 HN.out _) | (go_at_call 10; with_reducible exact seg_call hF2 HB3.out _)))
 refine wpQuiet_nil ?_
 clear hq hF1 hF2 iα F α
 refine lexG_nil ?_
 intro κ x10 hS
 replace hL0 := hL0.ghs hS [(17, [.int .u64 ((zl l.num : Nat) : Int), .string (zh l.num), .bool (zs l.num), .int .u64 ((lo (fe l) : Nat) : Int), .string (hs (fe l))])] (by simp) (by intro p hp; simp only [List.mem_cons, List.not_mem_nil, or_false] at hp; rcases hp with rfl <;> exact ⟨_, by simp only [toG, upd]; rfl⟩)
 simp only [List.map_cons, List.map_nil, List.cons_append, List.nil_append] at hL0
 simp only [over_toG, over_nil, Act.put, List.setIfInBounds_toArray, List.set_cons_succ, List.set_cons_zero]
 clear hS
 generalize κ 17 = k10_17 at *
 go_upto_region 10 with fail
 have kKT1 := hKT.out.at hL0.bl kKT
 obtain ⟨α, iα, F, hF1, hF2⟩ := cls x10
 have hq0 := cls_box hF1 hL0 _ _ List.mem_cons_self
 simp only [cellsC, and_true, Nat.zero_add, Nat.reduceAdd] at hq0
 have hq1 := cls_box hF1 hL0 _ _ (List.mem_cons_of_mem _ List.mem_cons_self)
 simp only [cellsC, and_true, Nat.zero_add, Nat.reduceAdd] at hq1
 have hq2 := cls_box hF1 hL0 _ _ (List.mem_cons_of_mem _ (List.mem_cons_of_mem _ List.mem_cons_self))
 simp only [cellsC, and_true, Nat.zero_add, Nat.reduceAdd] at hq2
 refine region_qs 23 (C := fun w' => ∃ x, w' = F x) (by kernel_rfl) (by kernel_rfl) (cls_drew hF2) ?_
 simp only [List.take_succ_cons, List.take_zero, List.drop_succ_cons, List.drop_zero, List.take_nil, List.drop_nil]
 repeat (go_big_quiet_step (first | fail | (go_at_call 35; with_reducible exact cls_call hF1 hF2 HNf.out _) | (go_at_call 15; with_reducible exact cls_callK hKT.out hF1 hF2 kKT1 HW.out _)))
 refine wpQuiet_nil ?_
 rintro wq ⟨xq, rfl⟩
 replace hL0 := hL0.call (hF1 xq)
 clear  hq0 hq1 hq2 hF2
 generalize F xq = x11 at hL0 ⊢
 clear hF1 xq iα F α
 clear kKT1
 go_wp2_with fail
 exact bodyPost_ret (v := .bool true) (by simp [results, Tryz.results7, go_sem]) rfl ⟨rfl, hL0.bl⟩
set_option maxHeartbeats 4000000 in
set_option maxRecDepth 100000 in
theorem pone_b (sx sy : Bool) (ax qx ay qy am : Option Addr) (nx cx mx dx ny cy my dy nm cm : Nat) (i : Int) (b y s t : Int) (n : Nat) (f g h l : Rat) (k : Bool) (Km : World → Prop) (hKm : Keeps Km) (HM : ∀ w, Km w → Calls Tryz.prog 27 #[.slice am nm cm] w fun xe w' => xe = .returned (natV n) ∧ Below w.heap.size w w') (HO : ∀ w, Calls Tryz.prog 11 #[.int .i64 i] w fun xe w' => xe = .returned (intV b) ∧ Below w.heap.size w w') (Kx : World → Prop) (hKx : Keeps Kx) (Gx : ∀ w, Kx w → Calls Tryz.prog 29 #[.agg #[.bool sx, .slice ax nx cx, .slice qx mx dx]] w fun xe w' => xe = .returned (fracV f) ∧ Below w.heap.size w w') (Ky : World → Prop) (hKy : Keeps Ky) (Gy : ∀ w, Ky w → Calls Tryz.prog 29 #[.agg #[.bool sy, .slice ay ny cy, .slice qy my dy]] w fun xe w' => xe = .returned (fracV g) ∧ Below w.heap.size w w') (H1 : ∀ w, Calls Tryz.prog 22 #[fracV f, natV n] w fun xe w' => xe = .returned (.bool true) ∧ Below w.heap.size w w') (H2 : ∀ w, Calls Tryz.prog 22 #[fracV g, natV n] w fun xe w' => xe = .returned (.bool false) ∧ Below w.heap.size w w') (HB : ∀ w, Calls Tryz.prog 10 #[intV b, natV n] w fun xe w' => xe = .returned (.tuple #[fracV h, .bool k]) ∧ Below w.heap.size w w') (HY : ∀ w, Calls Tryz.prog 31 #[.bool false, natV n] w fun xe w' => xe = .returned (intV y) ∧ Below w.heap.size w w') (HA : ∀ w, Calls Tryz.prog 33 #[intV b, intV y] w fun xe w' => xe = .returned (intV s) ∧ Below w.heap.size w w') (HB2 : ∀ w, Calls Tryz.prog 10 #[intV s, natV n] w fun xe w' => xe = .returned (.tuple #[fracV h, .bool k]) ∧ Below w.heap.size w w') (HN : ∀ w, Calls Tryz.prog 34 #[intV b] w fun xe w' => xe = .returned (intV t) ∧ Below w.heap.size w w') (HB3 : ∀ w, Calls Tryz.prog 10 #[intV t, natV n] w fun xe w' => xe = .returned (.tuple #[fracV l, .bool k]) ∧ Below w.heap.size w w') (HNf : ∀ w, Calls Tryz.prog 35 #[fracV h] w fun xe w' => xe = .returned (fracV l) ∧ Below w.heap.size w w') (KT : World → Prop) (hKT : Keeps KT) (HW : ∀ w, KT w → Calls Tryz.prog 15 #[] w fun xe w' => xe = .returned (.bool true) ∧ Below w.heap.size w w') (l0 : decide ((2 : Int) < ((nx : Nat) : Int)) = false) (k0 : decide (2 < nx) = false) (l1 : decide ((2 : Int) < ((mx : Nat) : Int)) = false) (k1 : decide (2 < mx) = false) (l2 : decide ((2 : Int) < ((ny : Nat) : Int)) = false) (k2 : decide (2 < ny) = false) (l3 : decide ((2 : Int) < ((my : Nat) : Int)) = false) (k3 : decide (2 < my) = false) (l4 : decide ((6 : Int) < ((nm : Nat) : Int)) = false) (k4 : decide (6 < nm) = false) (w : World) (kKm : Km w) (kKx : Kx w) (kKy : Ky w) (kKT : KT w) :
  Calls Tryz.prog 7 #[.agg #[.bool sx, .slice ax nx cx, .slice qx mx dx], .agg #[.bool sy, .slice ay ny cy, .slice qy my dy], .slice am nm cm, .int .i64 i] w fun xe w' => xe = .returned (.bool true) ∧ Below w.heap.size w w' := by
 have hL0 : GL w w [] := GL.start w
 replace hKm := Lib.hid hKm
 replace HM := Lib.hid HM
 replace HO := Lib.hid HO
 replace hKx := Lib.hid hKx
 replace Gx := Lib.hid Gx
 replace hKy := Lib.hid hKy
 replace Gy := Lib.hid Gy
 replace H1 := Lib.hid H1
 replace H2 := Lib.hid H2
 replace HB := Lib.hid HB
 replace HY := Lib.hid HY
 replace HA := Lib.hid HA
 replace HB2 := Lib.hid HB2
 replace HN := Lib.hid HN
 replace HB3 := Lib.hid HB3
 replace HNf := Lib.hid HNf
 replace hKT := Lib.hid hKT
 replace HW := Lib.hid HW
 replace hL0 := ((hL0.new rfl [.bool sx, .slice ax nx cx, .slice qx mx dx] 70).new (K := w.heap.size + 1) (szA _ _) [.bool sy, .slice ay ny cy, .slice qy my dy] 70)
 generalize hweq : ((w.alloc (.cells #[.bool sx, .slice ax nx cx, .slice qx mx dx] 70)).alloc (.cells #[.bool sy, .slice ay ny cy, .slice qy my dy] 70)) = x1 at hL0
 go_enter Tryz.func7, Tryz.ntmps7
 have hN0 := cells_of _ 0 [] rfl (hL0.get _ _ List.mem_cons_self)
 simp only [cellsF, and_true, Nat.zero_add, Nat.reduceAdd] at hN0
 have hN1 := cells_of _ 0 [] rfl (hL0.get _ _ (List.mem_cons_of_mem _ List.mem_cons_self))
 simp only [cellsF, and_true, Nat.zero_add, Nat.reduceAdd] at hN1
 go_wp2_with fail
 clear hN0 hN1
 with_reducible refine Calls.mono (HM.out _ (hKm.out.at hL0.bl kKm)) ?_
 rintro e x2 ⟨rfl, hb⟩
 replace hL0 := hL0.call hb
 clear hb hweq
 go_wp2_with fail
 with_reducible refine Calls.mono (HO.out _) ?_
 rintro e x3 ⟨rfl, hb⟩
 replace hL0 := hL0.call hb
 clear hb
 replace hL0 := ((hL0.new rfl [.int .u64 ((lo n : Nat) : Int), .string (hs n)] 26).new (K := x3.heap.size + 1) (szA _ _) [.int .u64 ((zl b : Nat) : Int), .string (zh b), .bool (zs b)] 28)
 generalize hweq : ((x3.alloc (.cells #[.int .u64 ((lo n : Nat) : Int), .string (hs n)] 26)).alloc (.cells #[.int .u64 ((zl b : Nat) : Int), .string (zh b), .bool (zs b)] 28)) = x4 at hL0
 go_upto_region 4 with fail
 have kKx1 := hKx.out.at hL0.bl kKx
 have kKy1 := hKy.out.at hL0.bl kKy
 clear hweq
 refine region_gh (by kernel_rfl) (by kernel_rfl) ?_
 refine lex_seg (gl := []) 4 (by kernel_rfl) ?_
 intro α iα F hF1 hF2
 have hq := GL.seg hF1 hL0
 simp only [fcC, cellsC, and_true, Nat.zero_add, Nat.reduceAdd] at hq
 simp only [List.take_succ_cons, List.take_zero, List.drop_succ_cons, List.drop_zero, List.take_nil, List.drop_nil]
 repeat (go_big_quiet_step (first | fail | (go_at_call 29; with_reducible exact seg_callK hKx.out hF1 hF2 kKx1 Gx.out _) | (go_at_call 29; with_reducible exact seg_callK hKy.out hF1 hF2 kKy1 Gy.out _)))
 refine wpQuiet_nil ?_
 clear hq hF1 hF2 iα F α
 refine lex_new [.int .u64 0, .string ⟨#[]⟩, .bool false, .int .u64 0, .string ⟨#[]⟩] 11 30 30 rfl rfl (of_decide_eq_true (by kernel_rfl)) (by kernel_rfl) rfl new_frac ?_
 simp only [Act.put, List.setIfInBounds_toArray, List.set_cons_succ, List.set_cons_zero]
 refine lex_new [.int .u64 0, .string ⟨#[]⟩, .bool false, .int .u64 0, .string ⟨#[]⟩] 12 30 30 rfl rfl (of_decide_eq_true (by kernel_rfl)) (by kernel_rfl) rfl new_frac ?_
 simp only [Act.put, List.setIfInBounds_toArray, List.set_cons_succ, List.set_cons_zero]
 refine lex_put [.int .u64 ((zl f.num : Nat) : Int), .string (zh f.num), .bool (zs f.num), .int .u64 ((lo (fe f) : Nat) : Int), .string (hs (fe f))] [.int .u64 0, .string ⟨#[]⟩, .bool false, .int .u64 0, .string ⟨#[]⟩] 11 30 (.tmp 54) rfl (by kernel_rfl) (by simp [toG, upd]) rfl (fun w k h => put_frac _ _ _ _ _ _ _ _ _ _ w k h) ?_
 simp only [Act.put]
 refine lex_put [.int .u64 ((zl g.num : Nat) : Int), .string (zh g.num), .bool (zs g.num), .int .u64 ((lo (fe g) : Nat) : Int), .string (hs (fe g))] [.int .u64 0, .string ⟨#[]⟩, .bool false, .int .u64 0, .string ⟨#[]⟩] 12 30 (.tmp 56) rfl (by kernel_rfl) (by simp [toG, upd]) rfl (fun w k h => put_frac _ _ _ _ _ _ _ _ _ _ w k h) ?_
 simp only [Act.put]
 refine lexG_nil ?_
 intro κ x5 hS
 replace hL0 := hL0.ghs hS [(12, [.int .u64 ((zl g.num : Nat) : Int), .string (zh g.num), .bool (zs g.num), .int .u64 ((lo (fe g) : Nat) : Int), .string (hs (fe g))]), (11, [.int .u64 ((zl f.num : Nat) : Int), .string (zh f.num), .bool (zs f.num), .int .u64 ((lo (fe f) : Nat) : Int), .string (hs (fe f))])] (by simp) (by intro p hp; simp only [List.mem_cons, List.not_mem_nil, or_false] at hp; rcases hp with rfl | rfl <;> exact ⟨_, by simp only [toG, upd]; rfl⟩)
 simp only [List.map_cons, List.map_nil, List.cons_append, List.nil_append] at hL0
 simp only [over_toG, over_nil, Act.put, List.setIfInBounds_toArray, List.set_cons_succ, List.set_cons_zero]
 clear hS
 generalize κ 12 = k5_12 at *
 generalize κ 11 = k5_11 at *
 clear kKx1 kKy1
 have hN0 := cells_of _ 0 [] rfl (hL0.get _ _ (List.mem_cons_of_mem _ List.mem_cons_self))
 simp only [cellsF, and_true, Nat.zero_add, Nat.reduceAdd] at hN0
 have hN1 := cells_of _ 0 [] rfl (hL0.get _ _ (List.mem_cons_of_mem _ (List.mem_cons_of_mem _ (List.mem_cons_of_mem _ List.mem_cons_self))))
 simp only [cellsF, and_true, Nat.zero_add, Nat.reduceAdd] at hN1
 go_wp2_with fail
 clear hN0 hN1
 with_reducible refine Calls.mono (H1.out _) ?_
 rintro e x6 ⟨rfl, hb⟩
 replace hL0 := hL0.call hb
 clear hb
 have hN0 := cells_of _ 0 [] rfl (hL0.get _ _ List.mem_cons_self)
 simp only [cellsF, and_true, Nat.zero_add, Nat.reduceAdd] at hN0
 have hN1 := cells_of _ 0 [] rfl (hL0.get _ _ (List.mem_cons_of_mem _ (List.mem_cons_of_mem _ (List.mem_cons_of_mem _ List.mem_cons_self))))
 simp only [cellsF, and_true, Nat.zero_add, Nat.reduceAdd] at hN1
 go_wp2_with fail
 clear hN0 hN1
 with_reducible refine Calls.mono (H2.out _) ?_
 rintro e x7 ⟨rfl, hb⟩
 replace hL0 := hL0.call hb
 clear hb
 have hN0 := cells_of _ 0 [] rfl (hL0.get _ _ (List.mem_cons_of_mem _ (List.mem_cons_of_mem _ List.mem_cons_self)))
 simp only [cellsF, and_true, Nat.zero_add, Nat.reduceAdd] at hN0
 have hN1 := cells_of _ 0 [] rfl (hL0.get _ _ (List.mem_cons_of_mem _ (List.mem_cons_of_mem _ (List.mem_cons_of_mem _ List.mem_cons_self))))
 simp only [cellsF, and_true, Nat.zero_add, Nat.reduceAdd] at hN1
 go_wp2_with fail
 clear hN0 hN1
 with_reducible refine Calls.mono (HB.out _) ?_
 rintro e x8 ⟨rfl, hb⟩
 replace hL0 := hL0.call hb
 clear hb
 replace hL0 := (hL0.new rfl [.int .u64 ((zl h.num : Nat) : Int), .string (zh h.num), .bool (zs h.num), .int .u64 ((lo (fe h) : Nat) : Int), .string (hs (fe h))] 30)
 generalize hweq : (x8.alloc (.cells #[.int .u64 ((zl h.num : Nat) : Int), .string (zh h.num), .bool (zs h.num), .int .u64 ((lo (fe h) : Nat) : Int), .string (hs (fe h))] 30)) = x9 at hL0
 go_upto_region 8 with fail
 clear hweq
 refine region_gh (by kernel_rfl) (by kernel_rfl) ?_
 refine lex_seg (gl := []) 9 (by kernel_rfl) ?_
 intro α iα F hF1 hF2
 have hq := GL.seg hF1 hL0
 simp only [fcC, cellsC, and_true, Nat.zero_add, Nat.reduceAdd] at hq
 simp only [List.take_succ_cons, List.take_zero, List.drop_succ_cons, List.drop_zero, List.take_nil, List.drop_nil]
 repeat (go_big_quiet_step (first | fail | (go_at_call 31; with_reducible exact seg_call hF2 HY.out _) | (go_at_call 33; with_reducible exact seg_call hF2 HA.out _) | (go_at_call 10; with_reducible exact seg_call hF2 HB2.out _)))
 refine wpQuiet_nil ?_
 clear hq hF1 hF2 iα F α
 refine lex_new [.int .u64 0, .string ⟨#[]⟩, .bool false, .int .u64 0, .string ⟨#[]⟩] 15 30 30 rfl rfl (of_decide_eq_true (by kernel_rfl)) (by kernel_rfl) rfl new_frac ?_
 simp only [Act.put, List.setIfInBounds_toArray, List.set_cons_succ, List.set_cons_zero]
 refine lex_put [.int .u64 ((zl h.num : Nat) : Int), .string (zh h.num), .bool (zs h.num), .int .u64 ((lo (fe h) : Nat) : Int), .string (hs (fe h))] [.int .u64 0, .string ⟨#[]⟩, .bool false, .int .u64 0, .string ⟨#[]⟩] 15 30 (.tmp 95) rfl (by kernel_rfl) (by simp [toG, upd]) rfl (fun w k h => put_frac _ _ _ _ _ _ _ _ _ _ w k h) ?_
 simp only [Act.put]
 refine lex_seg (gl := [(15, [.int .u64 ((zl h.num : Nat) : Int), .string (zh h.num), .bool (zs h.num), .int .u64 ((lo (fe h) : Nat) : Int), .string (hs (fe h))], true), (15, [.int .u64 0, .string ⟨#[]⟩, .bool false, .int .u64 0, .string ⟨#[]⟩], false)]) 1 (by kernel_rfl) ?_
 intro α iα F hF1 hF2
 have hq := GL.seg hF1 hL0
 simp only [fcC, cellsC, and_true, Nat.zero_add, Nat.reduceAdd] at hq
 simp only [List.take_succ_cons, List.take_zero, List.drop_succ_cons, List.drop_zero, List.take_nil, List.drop_nil]
 repeat (go_big_quiet_step (first | fail | (go_at_call 31; with_reducible exact seg_call hF2 HY.out _) | (go_at_call 33; with_reducible exact seg_call hF2 HA.out _) | (go_at_call 10; with_reducible exact seg_call hF2 HB2.out _)))
 refine wpQuiet_nil ?_
 clear hq hF1 hF2 iα F α
 refine lexG_nil ?_
 intro κ x10 hS
 replace hL0 := hL0.ghs hS [(15, [.int .u64 ((zl h.num : Nat) : Int), .string (zh h.num), .bool (zs h.num), .int .u64 ((lo (fe h) : Nat) : Int), .string (hs (fe h))])] (by simp) (by intro p hp; simp only [List.mem_cons, List.not_mem_nil, or_false] at hp; rcases hp with rfl <;> exact ⟨_, by simp only [toG, upd]; rfl⟩)
 simp only [List.map_cons, List.map_nil, List.cons_append, List.nil_append] at hL0
 simp only [over_toG, over_nil, Act.put, List.setIfInBounds_toArray, List.set_cons_succ, List.set_cons_zero]
 clear hS
 generalize κ 15 = k10_15 at *
 go_upto_region 9 with fail
 refine region_gh (by kernel_rfl) (by kernel_rfl) ?_
 refine lex_seg (gl := []) 7 (by kernel_rfl) ?_
 intro α iα F hF1 hF2
 have hq := GL.seg hF1 hL0
 simp only [fcC, cellsC, and_true, Nat.zero_add, Nat.reduceAdd] at hq
 simp only [List.take_succ_cons, List.take_zero, List.drop_succ_cons, List.drop_zero, List.take_nil, List.drop_nil]
 repeat (go_big_quiet_step (first | fail | (go_at_call 34; with_reducible exact seg_call hF2 HN.out _) | (go_at_call 10; with_reducible exact seg_call hF2 HB3.out _)))
 refine wpQuiet_nil ?_
 clear hq hF1 hF2 iα F α
 refine lex_new [.int .u64 0, .string ⟨#[]⟩, .bool false, .int .u64 0, .string ⟨#[]⟩] 17 30 30 rfl rfl (of_decide_eq_true (by kernel_rfl)) (by kernel_rfl) rfl new_frac ?_
 simp only [Act.put, List.setIfInBounds_toArray, List.set_cons_succ, List.set_cons_zero]
 refine lex_put [.int .u64 ((zl l.num : Nat) : Int), .string (zh l.num), .bool (zs l.num), .int .u64 ((lo (fe l) : Nat) : Int), .string (hs (fe l))] [.int .u64 0, .string ⟨#[]⟩, .bool false, .int .u64 0, .string ⟨#[]⟩] 17 30 (.tmp 102) rfl (by kernel_rfl) (by simp [toG, upd]) rfl (fun w k h => put_frac _ _ _ _ _ _ _ _ _ _ w k h) ?_
 simp only [Act.put]
 refine lex_seg (gl := [(17, [.int .u64 ((zl l.num : Nat) : Int), .string (zh l.num), .bool (zs l.num), .int .u64 ((lo (fe l) : Nat) : Int), .string (hs (fe l))], true), (17, [.int .u64 0, .string ⟨#[]⟩, .bool false, .int .u64 0, .string ⟨#[]⟩], false)]) 1 (by kernel_rfl) ?_
 intro α iα F hF1 hF2
 have hq := GL.seg hF1 hL0
 simp only [fcC, cellsC, and_true, Nat.zero_add, Nat.reduceAdd] at hq
 simp only [List.take_succ_cons, List.take_zero, List.drop_succ_cons, List.drop_zero, List.take_nil, List.drop_nil]
 repeat (go_big_quiet_step (first | fail | (go_at_call 34; with_reducible exact seg_call hF2 HN.out _) | (go_at_call 10; with_reducible exact seg_call hF2 HB3.out _)))
 refine wpQuiet_nil ?_
 clear hq hF1 hF2 iα F α
 refine lexG_nil ?_
 intro κ x11 hS
 replace hL0 := hL0.ghs hS [(17, [.int .u64 ((zl l.num : Nat) : Int), .string (zh l.num), .bool (zs l.num), .int .u64 ((lo (fe l) : Nat) : Int), .string (hs (fe l))])] (by simp) (by intro p hp; simp only [List.mem_cons, List.not_mem_nil, or_false] at hp; rcases hp with rfl <;> exact ⟨_, by simp only [toG, upd]; rfl⟩)
 simp only [List.map_cons, List.map_nil, List.cons_append, List.nil_append] at hL0
 simp only [over_toG, over_nil, Act.put, List.setIfInBounds_toArray, List.set_cons_succ, List.set_cons_zero]
 clear hS
 generalize κ 17 = k11_17 at *
 go_upto_region 10 with fail
 have kKT1 := hKT.out.at hL0.bl kKT
 obtain ⟨α, iα, F, hF1, hF2⟩ := cls x11
 have hq0 := cls_box hF1 hL0 _ _ List.mem_cons_self
 simp only [cellsC, and_true, Nat.zero_add, Nat.reduceAdd] at hq0
 have hq1 := cls_box hF1 hL0 _ _ (List.mem_cons_of_mem _ List.mem_cons_self)
 simp only [cellsC, and_true, Nat.zero_add, Nat.reduceAdd] at hq1
 have hq2 := cls_box hF1 hL0 _ _ (List.mem_cons_of_mem _ (List.mem_cons_of_mem _ List.mem_cons_self))
 simp only [cellsC, and_true, Nat.zero_add, Nat.reduceAdd] at hq2
 refine region_qs 23 (C := fun w' => ∃ x, w' = F x) (by kernel_rfl) (by kernel_rfl) (cls_drew hF2) ?_
 simp only [List.take_succ_cons, List.take_zero, List.drop_succ_cons, List.drop_zero, List.take_nil, List.drop_nil]
 repeat (go_big_quiet_step (first | fail | (go_at_call 35; with_reducible exact cls_call hF1 hF2 HNf.out _) | (go_at_call 15; with_reducible exact cls_callK hKT.out hF1 hF2 kKT1 HW.out _)))
 refine wpQuiet_nil ?_
 rintro wq ⟨xq, rfl⟩
 replace hL0 := hL0.call (hF1 xq)
 clear  hq0 hq1 hq2 hF2
 generalize F xq = x12 at hL0 ⊢
 clear hF1 xq iα F α
 clear kKT1
 go_wp2_with fail
 exact bodyPost_ret (v := .bool true) (by simp [results, Tryz.results7, go_sem]) rfl ⟨rfl, hL0.bl⟩
set_option maxHeartbeats 4000000 in
set_option maxRecDepth 100000 in
theorem pone_c (sx sy : Bool) (ax qx ay qy am : Option Addr) (nx cx mx dx ny cy my dy nm cm : Nat) (i : Int) (b y s t : Int) (n : Nat) (f g h l : Rat) (k : Bool) (Km : World → Prop) (hKm : Keeps Km) (HM : ∀ w, Km w → Calls Tryz.prog 27 #[.slice am nm cm] w fun xe w' => xe = .returned (natV n) ∧ Below w.heap.size w w') (HO : ∀ w, Calls Tryz.prog 11 #[.int .i64 i] w fun xe w' => xe = .returned (intV b) ∧ Below w.heap.size w w') (Kx : World → Prop) (hKx : Keeps Kx) (Gx : ∀ w, Kx w → Calls Tryz.prog 29 #[.agg #[.bool sx, .slice ax nx cx, .slice qx mx dx]] w fun xe w' => xe = .returned (fracV f) ∧ Below w.heap.size w w') (Ky : World → Prop) (hKy : Keeps Ky) (Gy : ∀ w, Ky w → Calls Tryz.prog 29 #[.agg #[.bool sy, .slice ay ny cy, .slice qy my dy]] w fun xe w' => xe = .returned (fracV g) ∧ Below w.heap.size w w') (H1 : ∀ w, Calls Tryz.prog 22 #[fracV f, natV n] w fun xe w' => xe = .returned (.bool true) ∧ Below w.heap.size w w') (H2 : ∀ w, Calls Tryz.prog 22 #[fracV g, natV n] w fun xe w' => xe = .returned (.bool true) ∧ Below w.heap.size w w') (H3 : ∀ w, Calls Tryz.prog 20 #[fracV f, intV b, natV n] w fun xe w' => xe = .returned (.bool false) ∧ Below w.heap.size w w') (HB : ∀ w, Calls Tryz.prog 10 #[intV b, natV n] w fun xe w' => xe = .returned (.tuple #[fracV h, .bool k]) ∧ Below w.heap.size w w') (HY : ∀ w, Calls Tryz.prog 31 #[.bool false, natV n] w fun xe w' => xe = .returned (intV y) ∧ Below w.heap.size w w') (HA : ∀ w, Calls Tryz.prog 33 #[intV b, intV y] w fun xe w' => xe = .returned (intV s) ∧ Below w.heap.size w w') (HB2 : ∀ w, Calls Tryz.prog 10 #[intV s, natV n] w fun xe w' => xe = .returned (.tuple #[fracV h, .bool k]) ∧ Below w.heap.size w w') (HN : ∀ w, Calls Tryz.prog 34 #[intV b] w fun xe w' => xe = .returned (intV t) ∧ Below w.heap.size w w') (HB3 : ∀ w, Calls Tryz.prog 10 #[intV t, natV n] w fun xe w' => xe = .returned (.tuple #[fracV l, .bool k]) ∧ Below w.heap.size w w') (HNf : ∀ w, Calls Tryz.prog 35 #[fracV h] w fun xe w' => xe = .returned (fracV l) ∧ Below w.heap.size w w') (KT : World → Prop) (hKT : Keeps KT) (HW : ∀ w, KT w → Calls Tryz.prog 15 #[] w fun xe w' => xe = .returned (.bool true) ∧ Below w.heap.size w w') (l0 : decide ((2 : Int) < ((nx : Nat) : Int)) = false) (k0 : decide (2 < nx) = false) (l1 : decide ((2 : Int) < ((mx : Nat) : Int)) = false) (k1 : decide (2 < mx) = false) (l2 : decide ((2 : Int) < ((ny : Nat) : Int)) = false) (k2 : decide (2 < ny) = false) (l3 : decide ((2 : Int) < ((my : Nat) : Int)) = false) (k3 : decide (2 < my) = false) (l4 : decide ((6 : Int) < ((nm : Nat) : Int)) = false) (k4 : decide (6 < nm) = false) (w : World) (kKm : Km w) (kKx : Kx w) (kKy : Ky w) (kKT : KT w) :
  Calls Tryz.prog 7 #[.agg #[.bool sx, .slice ax nx cx, .slice qx mx dx], .agg #[.bool sy, .slice ay ny cy, .slice qy my dy], .slice am nm cm, .int .i64 i] w fun xe w' => xe = .returned (.bool true) ∧ Below w.heap.size w w' := by
 have hL0 : GL w w [] := GL.start w
 replace hKm := Lib.hid hKm
 replace HM := Lib.hid HM
 replace HO := Lib.hid HO
 replace hKx := Lib.hid hKx
 replace Gx := Lib.hid Gx
 replace hKy := Lib.hid hKy
 replace Gy := Lib.hid Gy
 replace H1 := Lib.hid H1
 replace H2 := Lib.hid H2
 replace H3 := Lib.hid H3
 replace HB := Lib.hid HB
 replace HY := Lib.hid HY
 replace HA := Lib.hid HA
 replace HB2 := Lib.hid HB2
 replace HN := Lib.hid HN
 replace HB3 := Lib.hid HB3
 replace HNf := Lib.hid HNf
 replace hKT := Lib.hid hKT
 replace HW := Lib.hid HW
 replace hL0 := ((hL0.new rfl [.bool sx, .slice ax nx cx, .slice qx mx dx] 70).new (K := w.heap.size + 1) (szA _ _) [.bool sy, .slice ay ny cy, .slice qy my dy] 70)
 generalize hweq : ((w.alloc (.cells #[.bool sx, .slice ax nx cx, .slice qx mx dx] 70)).alloc (.cells #[.bool sy, .slice ay ny cy, .slice qy my dy] 70)) = x1 at hL0
 go_enter Tryz.func7, Tryz.ntmps7
 have hN0 := cells_of _ 0 [] rfl (hL0.get _ _ List.mem_cons_self)
 simp only [cellsF, and_true, Nat.zero_add, Nat.reduceAdd] at hN0
 have hN1 := cells_of _ 0 [] rfl (hL0.get _ _ (List.mem_cons_of_mem _ List.mem_cons_self))
 simp only [cellsF, and_true, Nat.zero_add, Nat.reduceAdd] at hN1
 go_wp2_with fail
 clear hN0 hN1
 with_reducible refine Calls.mono (HM.out _ (hKm.out.at hL0.bl kKm)) ?_
 rintro e x2 ⟨rfl, hb⟩
 replace hL0 := hL0.call hb
 clear hb hweq
 go_wp2_with fail
 with_reducible refine Calls.mono (HO.out _) ?_
 rintro e x3 ⟨rfl, hb⟩
 replace hL0 := hL0.call hb
 clear hb
 replace hL0 := ((hL0.new rfl [.int .u64 ((lo n : Nat) : Int), .string (hs n)] 26).new (K := x3.heap.size + 1) (szA _ _) [.int .u64 ((zl b : Nat) : Int), .string (zh b), .bool (zs b)] 28)
 generalize hweq : ((x3.alloc (.cells #[.int .u64 ((lo n : Nat) : Int), .string (hs n)] 26)).alloc (.cells #[.int .u64 ((zl b : Nat) : Int), .string (zh b), .bool (zs b)] 28)) = x4 at hL0
 go_upto_region 4 with fail
 have kKx1 := hKx.out.at hL0.bl kKx
 have kKy1 := hKy.out.at hL0.bl kKy
 clear hweq
 refine region_gh (by kernel_rfl) (by kernel_rfl) ?_
 refine lex_seg (gl := []) 4 (by kernel_rfl) ?_
 intro α iα F hF1 hF2
 have hq := GL.seg hF1 hL0
 simp only [fcC, cellsC, and_true, Nat.zero_add, Nat.reduceAdd] at hq
 simp only [List.take_succ_cons, List.take_zero, List.drop_succ_cons, List.drop_zero, List.take_nil, List.drop_nil]
 repeat (go_big_quiet_step (first | fail | (go_at_call 29; with_reducible exact seg_callK hKx.out hF1 hF2 kKx1 Gx.out _) | (go_at_call 29; with_reducible exact seg_callK hKy.out hF1 hF2 kKy1 Gy.out _)))
 refine wpQuiet_nil ?_
 clear hq hF1 hF2 iα F α
 refine lex_new [.int .u64 0, .string ⟨#[]⟩, .bool false, .int .u64 0, .string ⟨#[]⟩] 11 30 30 rfl rfl (of_decide_eq_true (by kernel_rfl)) (by kernel_rfl) rfl new_frac ?_
 simp only [Act.put, List.setIfInBounds_toArray, List.set_cons_succ, List.set_cons_zero]
 refine lex_new [.int .u64 0, .string ⟨#[]⟩, .bool false, .int .u64 0, .string ⟨#[]⟩] 12 30 30 rfl rfl (of_decide_eq_true (by kernel_rfl)) (by kernel_rfl) rfl new_frac ?_
 simp only [Act.put, List.setIfInBounds_toArray, List.set_cons_succ, List.set_cons_zero]
 refine lex_put [.int .u64 ((zl f.num : Nat) : Int), .string (zh f.num), .bool (zs f.num), .int .u64 ((lo (fe f) : Nat) : Int), .string (hs (fe f))] [.int .u64 0, .string ⟨#[]⟩, .bool false, .int .u64 0, .string ⟨#[]⟩] 11 30 (.tmp 54) rfl (by kernel_rfl) (by simp [toG, upd]) rfl (fun w k h => put_frac _ _ _ _ _ _ _ _ _ _ w k h) ?_
 simp only [Act.put]
 refine lex_put [.int .u64 ((zl g.num : Nat) : Int), .string (zh g.num), .bool (zs g.num), .int .u64 ((lo (fe g) : Nat) : Int), .string (hs (fe g))] [.int .u64 0, .string ⟨#[]⟩, .bool false, .int .u64 0, .string ⟨#[]⟩] 12 30 (.tmp 56) rfl (by kernel_rfl) (by simp [toG, upd]) rfl (fun w k h => put_frac _ _ _ _ _ _ _ _ _ _ w k h) ?_
 simp only [Act.put]
 refine lexG_nil ?_
 intro κ x5 hS
 replace hL0 := hL0.ghs hS [(12, [.int .u64 ((zl g.num : Nat) : Int), .string (zh g.num), .bool (zs g.num), .int .u64 ((lo (fe g) : Nat) : Int), .string (hs (fe g))]), (11, [.int .u64 ((zl f.num : Nat) : Int), .string (zh f.num), .bool (zs f.num), .int .u64 ((lo (fe f) : Nat) : Int), .string (hs (fe f))])] (by simp) (by intro p hp; simp only [List.mem_cons, List.not_mem_nil, or_false] at hp; rcases hp with rfl | rfl <;> exact ⟨_, by simp only [toG, upd]; rfl⟩)
 simp only [List.map_cons, List.map_nil, List.cons_append, List.nil_append] at hL0
 simp only [over_toG, over_nil, Act.put, List.setIfInBounds_toArray, List.set_cons_succ, List.set_cons_zero]
 clear hS
 generalize κ 12 = k5_12 at *
 generalize κ 11 = k5_11 at *
 clear kKx1 kKy1
 have hN0 := cells_of _ 0 [] rfl (hL0.get _ _ (List.mem_cons_of_mem _ List.mem_cons_self))
 simp only [cellsF, and_true, Nat.zero_add, Nat.reduceAdd] at hN0
 have hN1 := cells_of _ 0 [] rfl (hL0.get _ _ (List.mem_cons_of_mem _ (List.mem_cons_of_mem _ (List.mem_cons_of_mem _ List.mem_cons_self))))
 simp only [cellsF, and_true, Nat.zero_add, Nat.reduceAdd] at hN1
 go_wp2_with fail
 clear hN0 hN1
 with_reducible refine Calls.mono (H1.out _) ?_
 rintro e x6 ⟨rfl, hb⟩
 replace hL0 := hL0.call hb
 clear hb
 have hN0 := cells_of _ 0 [] rfl (hL0.get _ _ List.mem_cons_self)
 simp only [cellsF, and_true, Nat.zero_add, Nat.reduceAdd] at hN0
 have hN1 := cells_of _ 0 [] rfl (hL0.get _ _ (List.mem_cons_of_mem _ (List.mem_cons_of_mem _ (List.mem_cons_of_mem _ List.mem_cons_self))))
 simp only [cellsF, and_true, Nat.zero_add, Nat.reduceAdd] at hN1
 go_wp2_with fail
 clear hN0 hN1
 with_reducible refine Calls.mono (H2.out _) ?_
 rintro e x7 ⟨rfl, hb⟩
 replace hL0 := hL0.call hb
 clear hb
 have hN0 := cells_of _ 0 [] rfl (hL0.get _ _ (List.mem_cons_of_mem _ List.mem_cons_self))
 simp only [cellsF, and_true, Nat.zero_add, Nat.reduceAdd] at hN0
 have hN1 := cells_of _ 0 [] rfl (hL0.get _ _ (List.mem_cons_of_mem _ (List.mem_cons_of_mem _ List.mem_cons_self)))
 simp only [cellsF, and_true, Nat.zero_add, Nat.reduceAdd] at hN1
 have hN2 := cells_of _ 0 [] rfl (hL0.get _ _ (List.mem_cons_of_mem _ (List.mem_cons_of_mem _ (List.mem_cons_of_mem _ List.mem_cons_self))))
 simp only [cellsF, and_true, Nat.zero_add, Nat.reduceAdd] at hN2
 go_wp2_with fail
 clear hN0 hN1 hN2
 with_reducible refine Calls.mono (H3.out _) ?_
 rintro e x8 ⟨rfl, hb⟩
 replace hL0 := hL0.call hb
 clear hb
 have hN0 := cells_of _ 0 [] rfl (hL0.get _ _ (List.mem_cons_of_mem _ (List.mem_cons_of_mem _ List.mem_cons_self)))
 simp only [cellsF, and_true, Nat.zero_add, Nat.reduceAdd] at hN0
 have hN1 := cells_of _ 0 [] rfl (hL0.get _ _ (List.mem_cons_of_mem _ (List.mem_cons_of_mem _ (List.mem_cons_of_mem _ List.mem_cons_self))))
 simp only [cellsF, and_true, Nat.zero_add, Nat.reduceAdd] at hN1
 go_wp2_with fail
 clear hN0 hN1
 with_reducible refine Calls.mono (HB.out _) ?_
 rintro e x9 ⟨rfl, hb⟩
 replace hL0 := hL0.call hb
 clear hb
 replace hL0 := (hL0.new rfl [.int .u64 ((zl h.num : Nat) : Int), .string (zh h.num), .bool (zs h.num), .int .u64 ((lo (fe h) : Nat) : Int), .string (hs (fe h))] 30)
 generalize hweq : (x9.alloc (.cells #[.int .u64 ((zl h.num : Nat) : Int), .string (zh h.num), .bool (zs h.num), .int .u64 ((lo (fe h) : Nat) : Int), .string (hs (fe h))] 30)) = x10 at hL0
 go_upto_region 8 with fail
 clear hweq
 refine region_gh (by kernel_rfl) (by kernel_rfl) ?_
 refine lex_seg (gl := []) 9 (by kernel_rfl) ?_
 intro α iα F hF1 hF2
 have hq := GL.seg hF1 hL0
 simp only [fcC, cellsC, and_true, Nat.zero_add, Nat.reduceAdd] at hq
 simp only [List.take_succ_cons, List.take_zero, List.drop_succ_cons, List.drop_zero, List.take_nil, List.drop_nil]
 repeat (go_big_quiet_step (first | fail | (go_at_call 31; with_reducible exact seg_call hF2 HY.out _) | (go_at_call 33; with_reducible exact seg_call hF2 HA.out _) | (go_at_call 10; with_reducible exact seg_call hF2 HB2.out _)))
 refine wpQuiet_nil ?_
 clear hq hF1 hF2 iα F α
 refine lex_new [.int .u64 0, .string ⟨#[]⟩, .bool false, .int .u64 0, .string ⟨#[]⟩] 15 30 30 rfl rfl (of_decide_eq_true (by kernel_rfl)) (by kernel_rfl) rfl new_frac ?_
 simp only [Act.put, List.setIfInBounds_toArray, List.set_cons_succ, List.set_cons_zero]
 refine lex_put [.int .u64 ((zl h.num : Nat) : Int), .string (zh h.num), .bool (zs h.num), .int .u64 ((lo (fe h) : Nat) : Int), .string (hs (fe h))] [.int .u64 0, .string ⟨#[]⟩, .bool false, .int .u64 0, .string ⟨#[]⟩] 15 30 (.tmp 95) rfl (by kernel_rfl) (by simp [toG, upd]) rfl (fun w k h => put_frac _ _ _ _ _ _ _ _ _ _ w k h) ?_
 simp only [Act.put]
 refine lex_seg (gl := [(15, [.int .u64 ((zl h.num : Nat) : Int), .string (zh h.num), .bool (zs h.num), .int .u64 ((lo (fe h) : Nat) : Int), .string (hs (fe h))], true), (15, [.int .u64 0, .string ⟨#[]⟩, .bool false, .int .u64 0, .string ⟨#[]⟩], false)]) 1 (by kernel_rfl) ?_
 intro α iα F hF1 hF2
 have hq := GL.seg hF1 hL0
 simp only [fcC, cellsC, and_true, Nat.zero_add, Nat.reduceAdd] at hq
 simp only [List.take_succ_cons, List.take_zero, List.drop_succ_cons, List.drop_zero, List.take_nil, List.drop_nil]
 repeat (go_big_quiet_step (first | fail | (go_at_call 31; with_reducible exact seg_call hF2 HY.out _) | (go_at_call 33; with_reducible exact seg_call hF2 HA.out _) | (go_at_call 10; with_reducible exact seg_call hF2 HB2.out _)))
 refine wpQuiet_nil ?_
 clear hq hF1 hF2 iα F α
 refine lexG_nil ?_
 intro κ x11 hS
 replace hL0 := hL0.ghs hS [(15, [.int .u64 ((zl h.num : Nat) : Int), .string (zh h.num), .bool (zs h.num), .int .u64 ((lo (fe h) : Nat) : Int), .string (hs (fe h))])] (by simp) (by intro p hp; simp only [List.mem_cons, List.not_mem_nil, or_false] at hp; rcases hp with rfl <;> exact ⟨_, by simp only [toG, upd]; rfl⟩)
 simp only [List.map_cons, List.map_nil, List.cons_append, List.nil_append] at hL0
 simp only [over_toG, over_nil, Act.put, List.setIfInBounds_toArray, List.set_cons_succ, List.set_cons_zero]
 clear hS
 generalize κ 15 = k11_15 at *
 go_upto_region 9 with fail
 refine region_gh (by kernel_rfl) (by kernel_rfl) ?_
 refine lex_seg (gl := []) 7 (by kernel_rfl) ?_
 intro α iα F hF1 hF2
 have hq := GL.seg hF1 hL0
 simp only [fcC, cellsC, and_true, Nat.zero_add, Nat.reduceAdd] at hq
 simp only [List.take_succ_cons, List.take_zero, List.drop_succ_cons, List.drop_zero, List.take_nil, List.drop_nil]
 repeat (go_big_quiet_step (first | fail | (go_at_call 34; with_reducible exact seg_call hF2 HN.out _) | (go_at_call 10; with_reducible exact seg_call hF2 HB3.out _)))
 refine wpQuiet_nil ?_
 clear hq hF1 hF2 iα F α
 refine lex_new [.int .u64 0, .string ⟨#[]⟩, .bool false, .int .u64 0, .string ⟨#[]⟩] 17 30 30 rfl rfl (of_decide_eq_true (by kernel_rfl)) (by kernel_rfl) rfl new_frac ?_
 simp only [Act.put, List.setIfInBounds_toArray, List.set_cons_succ, List.set_cons_zero]
 refine lex_put [.int .u64 ((zl l.num : Nat) : Int), .string (zh l.num), .bool (zs l.num), .int .u64 ((lo (fe l) : Nat) : Int), .string (hs (fe l))] [.int .u64 0, .string ⟨#[]⟩, .bool false, .int .u64 0, .string ⟨#[]⟩] 17 30 (.tmp 102) rfl (by kernel_rfl) (by simp [toG, upd]) rfl (fun w k h => put_frac _ _ _ _ _ _ _ _ _ _ w k h) ?_
 simp only [Act.put]
 refine lex_seg (gl := [(17, [.int .u64 ((zl l.num : Nat) : Int), .string (zh l.num), .bool (zs l.num), .int .u64 ((lo (fe l) : Nat) : Int), .string (hs (fe l))], true), (17, [.int .u64 0, .string ⟨#[]⟩, .bool false, .int .u64 0, .string ⟨#[]⟩], false)]) 1 (by kernel_rfl) ?_
 intro α iα F hF1 hF2
 have hq := GL.seg hF1 hL0
 simp only [fcC, cellsC, and_true, Nat.zero_add, Nat.reduceAdd] at hq
 simp only [List.take_succ_cons, List.take_zero, List.drop_succ_cons, List.drop_zero, List.take_nil, List.drop_nil]
 repeat (go_big_quiet_step (first | fail | (go_at_call 34; with_reducible exact seg_call hF2 HN.out _) | (go_at_call 10; with_reducible exact seg_call hF2 HB3.out _)))
 refine wpQuiet_nil ?_
 clear hq hF1 hF2 iα F α
 refine lexG_nil ?_
 intro κ x12 hS
 replace hL0 := hL0.ghs hS [(17, [.int .u64 ((zl l.num : Nat) : Int), .string (zh l.num), .bool (zs l.num), .int .u64 ((lo (fe l) : Nat) : Int), .string (hs (fe l))])] (by simp) (by intro p hp; simp only [List.mem_cons, List.not_mem_nil, or_false] at hp; rcases hp with rfl <;> exact ⟨_, by simp only [toG, upd]; rfl⟩)
 simp only [List.map_cons, List.map_nil, List.cons_append, List.nil_append] at hL0
 simp only [over_toG, over_nil, Act.put, List.setIfInBounds_toArray, List.set_cons_succ, List.set_cons_zero]
 clear hS
 generalize κ 17 = k12_17 at *
 go_upto_region 10 with fail
 have kKT1 := hKT.out.at hL0.bl kKT
 obtain ⟨α, iα, F, hF1, hF2⟩ := cls x12
 have hq0 := cls_box hF1 hL0 _ _ List.mem_cons_self
 simp only [cellsC, and_true, Nat.zero_add, Nat.reduceAdd] at hq0
 have hq1 := cls_box hF1 hL0 _ _ (List.mem_cons_of_mem _ List.mem_cons_self)
 simp only [cellsC, and_true, Nat.zero_add, Nat.reduceAdd] at hq1
 have hq2 := cls_box hF1 hL0 _ _ (List.mem_cons_of_mem _ (List.mem_cons_of_mem _ List.mem_cons_self))
 simp only [cellsC, and_true, Nat.zero_add, Nat.reduceAdd] at hq2
 refine region_qs 23 (C := fun w' => ∃ x, w' = F x) (by kernel_rfl) (by kernel_rfl) (cls_drew hF2) ?_
 simp only [List.take_succ_cons, List.take_zero, List.drop_succ_cons, List.drop_zero, List.take_nil, List.drop_nil]
 repeat (go_big_quiet_step (first | fail | (go_at_call 35; with_reducible exact cls_call hF1 hF2 HNf.out _) | (go_at_call 15; with_reducible exact cls_callK hKT.out hF1 hF2 kKT1 HW.out _)))
 refine wpQuiet_nil ?_
 rintro wq ⟨xq, rfl⟩
 replace hL0 := hL0.call (hF1 xq)
 clear  hq0 hq1 hq2 hF2
 generalize F xq = x13 at hL0 ⊢
 clear hF1 xq iα F α
 clear kKT1
 go_wp2_with fail
 exact bodyPost_ret (v := .bool true) (by simp [results, Tryz.results7, go_sem]) rfl ⟨rfl, hL0.bl⟩
set_option maxHeartbeats 4000000 in
set_option maxRecDepth 100000 in
theorem pone_d (sx sy : Bool) (ax qx ay qy am : Option Addr) (nx cx mx dx ny cy my dy nm cm : Nat) (i : Int) (b y s t : Int) (n : Nat) (f g h l : Rat) (k : Bool) (Km : World → Prop) (hKm : Keeps Km) (HM : ∀ w, Km w → Calls Tryz.prog 27 #[.slice am nm cm] w fun xe w' => xe = .returned (natV n) ∧ Below w.heap.size w w') (HO : ∀ w, Calls Tryz.prog 11 #[.int .i64 i] w fun xe w' => xe = .returned (intV b) ∧ Below w.heap.size w w') (Kx : World → Prop) (hKx : Keeps Kx) (Gx : ∀ w, Kx w → Calls Tryz.prog 29 #[.agg #[.bool sx, .slice ax nx cx, .slice qx mx dx]] w fun xe w' => xe = .returned (fracV f) ∧ Below w.heap.size w w') (Ky : World → Prop) (hKy : Keeps Ky) (Gy : ∀ w, Ky w → Calls Tryz.prog 29 #[.agg #[.bool sy, .slice ay ny cy, .slice qy my dy]] w fun xe w' => xe = .returned (fracV g) ∧ Below w.heap.size w w') (H1 : ∀ w, Calls Tryz.prog 22 #[fracV f, natV n] w fun xe w' => xe = .returned (.bool true) ∧ Below w.heap.size w w') (H2 : ∀ w, Calls Tryz.prog 22 #[fracV g, natV n] w fun xe w' => xe = .returned (.bool true) ∧ Below w.heap.size w w') (H3 : ∀ w, Calls Tryz.prog 20 #[fracV f, intV b, natV n] w fun xe w' => xe = .returned (.bool true) ∧ Below w.heap.size w w') (H4 : ∀ w, Calls Tryz.prog 20 #[fracV g, intV b, natV n] w fun xe w' => xe = .returned (.bool false) ∧ Below w.heap.size w w') (HB : ∀ w, Calls Tryz.prog 10 #[intV b, natV n] w fun xe w' => xe = .returned (.tuple #[fracV h, .bool k]) ∧ Below w.heap.size w w') (HY : ∀ w, Calls Tryz.prog 31 #[.bool false, natV n] w fun xe w' => xe = .returned (intV y) ∧ Below w.heap.size w w') (HA : ∀ w, Calls Tryz.prog 33 #[intV b, intV y] w fun xe w' => xe = .returned (intV s) ∧ Below w.heap.size w w') (HB2 : ∀ w, Calls Tryz.prog 10 #[intV s, natV n] w fun xe w' => xe = .returned (.tuple #[fracV h, .bool k]) ∧ Below w.heap.size w w') (HN : ∀ w, Calls Tryz.prog 34 #[intV b] w fun xe w' => xe = .returned (intV t) ∧ Below w.heap.size w w') (HB3 : ∀ w, Calls Tryz.prog 10 #[intV t, natV n] w fun xe w' => xe = .returned (.tuple #[fracV l, .bool k]) ∧ Below w.heap.size w w') (HNf : ∀ w, Calls Tryz.prog 35 #[fracV h] w fun xe w' => xe = .returned (fracV l) ∧ Below w.heap.size w w') (KT : World → Prop) (hKT : Keeps KT) (HW : ∀ w, KT w → Calls Tryz.prog 15 #[] w fun xe w' => xe = .returned (.bool true) ∧ Below w.heap.size w w') (l0 : decide ((2 : Int) < ((nx : Nat) : Int)) = false) (k0 : decide (2 < nx) = false) (l1 : decide ((2 : Int) < ((mx : Nat) : Int)) = false) (k1 : decide (2 < mx) = false) (l2 : decide ((2 : Int) < ((ny : Nat) : Int)) = false) (k2 : decide (2 < ny) = false) (l3 : decide ((2 : Int) < ((my : Nat) : Int)) = false) (k3 : decide (2 < my) = false) (l4 : decide ((6 : Int) < ((nm : Nat) : Int)) = false) (k4 : decide (6 < nm) = false) (w : World) (kKm : Km w) (kKx : Kx w) (kKy : Ky w) (kKT : KT w) :
  Calls Tryz.prog 7 #[.agg #[.bool sx, .slice ax nx cx, .slice qx mx dx], .agg #[.bool sy, .slice ay ny cy, .slice qy my dy], .slice am nm cm, .int .i64 i] w fun xe w' => xe = .returned (.bool true) ∧ Below w.heap.size w w' := by
 have hL0 : GL w w [] := GL.start w
 replace hKm := Lib.hid hKm
 replace HM := Lib.hid HM
 replace HO := Lib.hid HO
 replace hKx := Lib.hid hKx
 replace Gx := Lib.hid Gx
 replace hKy := Lib.hid hKy
 replace Gy := Lib.hid Gy
 replace H1 := Lib.hid H1
 replace H2 := Lib.hid H2
 replace H3 := Lib.hid H3
 replace H4 := Lib.hid H4
 replace HB := Lib.hid HB
 replace HY := Lib.hid HY
 replace HA := Lib.hid HA
 replace HB2 := Lib.hid HB2
 replace HN := Lib.hid HN
 replace HB3 := Lib.hid HB3
 replace HNf := Lib.hid HNf
 replace hKT := Lib.hid hKT
 replace HW := Lib.hid HW
 replace hL0 := ((hL0.new rfl [.bool sx, .slice ax nx cx, .slice qx mx dx] 70).new (K := w.heap.size + 1) (szA _ _) [.bool sy, .slice ay ny cy, .slice qy my dy] 70)
 generalize hweq : ((w.alloc (.cells #[.bool sx, .slice ax nx cx, .slice qx mx dx] 70)).alloc (.cells #[.bool sy, .slice ay ny cy, .slice qy my dy] 70)) = x1 at hL0
 go_enter Tryz.func7, Tryz.ntmps7
 have hN0 := cells_of _ 0 [] rfl (hL0.get _ _ List.mem_cons_self)
 simp only [cellsF, and_true, Nat.zero_add, Nat.reduceAdd] at hN0
 have hN1 := cells_of _ 0 [] rfl (hL0.get _ _ (List.mem_cons_of_mem _ List.mem_cons_self))
 simp only [cellsF, and_true, Nat.zero_add, Nat.reduceAdd] at hN1
 go_wp2_with fail
 clear hN0 hN1
 with_reducible refine Calls.mono (HM.out _ (hKm.out.at hL0.bl kKm)) ?_
 rintro e x2 ⟨rfl, hb⟩
 replace hL0 := hL0.call hb
 clear hb hweq
 go_wp2_with fail
 with_reducible refine Calls.mono (HO.out _) ?_
 rintro e x3 ⟨rfl, hb⟩
 replace hL0 := hL0.call hb
 clear hb
 replace hL0 := ((hL0.new rfl [.int .u64 ((lo n : Nat) : Int), .string (hs n)] 26).new (K := x3.heap.size + 1) (szA _ _) [.int .u64 ((zl b : Nat) : Int), .string (zh b), .bool (zs b)] 28)
 generalize hweq : ((x3.alloc (.cells #[.int .u64 ((lo n : Nat) : Int), .string (hs n)] 26)).alloc (.cells #[.int .u64 ((zl b : Nat) : Int), .string (zh b), .bool (zs b)] 28)) = x4 at hL0
 go_upto_region 4 with fail
 have kKx1 := hKx.out.at hL0.bl kKx
 have kKy1 := hKy.out.at hL0.bl kKy
 clear hweq
 refine region_gh (by kernel_rfl) (by kernel_rfl) ?_
 refine lex_seg (gl := []) 4 (by kernel_rfl) ?_
 intro α iα F hF1 hF2
 have hq := GL.seg hF1 hL0
 simp only [fcC, cellsC, and_true, Nat.zero_add, Nat.reduceAdd] at hq
 simp only [List.take_succ_cons, List.take_zero, List.drop_succ_cons, List.drop_zero, List.take_nil, List.drop_nil]
 repeat (go_big_quiet_step (first | fail | (go_at_call 29; with_reducible exact seg_callK hKx.out hF1 hF2 kKx1 Gx.out _) | (go_at_call 29; with_reducible exact seg_callK hKy.out hF1 hF2 kKy1 Gy.out _)))
 refine wpQuiet_nil ?_
 clear hq hF1 hF2 iα F α
 refine lex_new [.int .u64 0, .string ⟨#[]⟩, .bool false, .int .u64 0, .string ⟨#[]⟩] 11 30 30 rfl rfl (of_decide_eq_true (by kernel_rfl)) (by kernel_rfl) rfl new_frac ?_
 simp only [Act.put, List.setIfInBounds_toArray, List.set_cons_succ, List.set_cons_zero]
 refine lex_new [.int .u64 0, .string ⟨#[]⟩, .bool false, .int .u64 0, .string ⟨#[]⟩] 12 30 30 rfl rfl (of_decide_eq_true (by kernel_rfl)) (by kernel_rfl) rfl new_frac ?_
 simp only [Act.put, List.setIfInBounds_toArray, List.set_cons_succ, List.set_cons_zero]
 refine lex_put [.int .u64 ((zl f.num : Nat) : Int), .string (zh f.num), .bool (zs f.num), .int .u64 ((lo (fe f) : Nat) : Int), .string (hs (fe f))] [.int .u64 0, .string ⟨#[]⟩, .bool false, .int .u64 0, .string ⟨#[]⟩] 11 30 (.tmp 54) rfl (by kernel_rfl) (by simp [toG, upd]) rfl (fun w k h => put_frac _ _ _ _ _ _ _ _ _ _ w k h) ?_
 simp only [Act.put]
 refine lex_put [.int .u64 ((zl g.num : Nat) : Int), .string (zh g.num), .bool (zs g.num), .int .u64 ((lo (fe g) : Nat) : Int), .string (hs (fe g))] [.int .u64 0, .string ⟨#[]⟩, .bool false, .int .u64 0, .string ⟨#[]⟩] 12 30 (.tmp 56) rfl (by kernel_rfl) (by simp [toG, upd]) rfl (fun w k h => put_frac _ _ _ _ _ _ _ _ _ _ w k h) ?_
 simp only [Act.put]
 refine lexG_nil ?_
 intro κ x5 hS
 replace hL0 := hL0.ghs hS [(12, [.int .u64 ((zl g.num : Nat) : Int), .string (zh g.num), .bool (zs g.num), .int .u64 ((lo (fe g) : Nat) : Int), .string (hs (fe g))]), (11, [.int .u64 ((zl f.num : Nat) : Int), .string (zh f.num), .bool (zs f.num), .int .u64 ((lo (fe f) : Nat) : Int), .string (hs (fe f))])] (by simp) (by intro p hp; simp only [List.mem_cons, List.not_mem_nil, or_false] at hp; rcases hp with rfl | rfl <;> exact ⟨_, by simp only [toG, upd]; rfl⟩)
 simp only [List.map_cons, List.map_nil, List.cons_append, List.nil_append] at hL0
 simp only [over_toG, over_nil, Act.put, List.setIfInBounds_toArray, List.set_cons_succ, List.set_cons_zero]
 clear hS
 generalize κ 12 = k5_12 at *
 generalize κ 11 = k5_11 at *
 clear kKx1 kKy1
 have hN0 := cells_of _ 0 [] rfl (hL0.get _ _ (List.mem_cons_of_mem _ List.mem_cons_self))
 simp only [cellsF, and_true, Nat.zero_add, Nat.reduceAdd] at hN0
 have hN1 := cells_of _ 0 [] rfl (hL0.get _ _ (List.mem_cons_of_mem _ (List.mem_cons_of_mem _ (List.mem_cons_of_mem _ List.mem_cons_self))))
 simp only [cellsF, and_true, Nat.zero_add, Nat.reduceAdd] at hN1
 go_wp2_with fail
 clear hN0 hN1
 with_reducible refine Calls.mono (H1.out _) ?_
 rintro e x6 ⟨rfl, hb⟩
 replace hL0 := hL0.call hb
 clear hb
 have hN0 := cells_of _ 0 [] rfl (hL0.get _ _ List.mem_cons_self)
 simp only [cellsF, and_true, Nat.zero_add, Nat.reduceAdd] at hN0
 have hN1 := cells_of _ 0 [] rfl (hL0.get _ _ (List.mem_cons_of_mem _ (List.mem_cons_of_mem _ (List.mem_cons_of_mem _ List.mem_cons_self))))
 simp only [cellsF, and_true, Nat.zero_add, Nat.reduceAdd] at hN1
 go_wp2_with fail
 clear hN0 hN1
 with_reducible refine Calls.mono (H2.out _) ?_
 rintro e x7 ⟨rfl, hb⟩
 replace hL0 := hL0.call hb
 clear hb
 have hN0 := cells_of _ 0 [] rfl (hL0.get _ _ (List.mem_cons_of_mem _ List.mem_cons_self))
 simp only [cellsF, and_true, Nat.zero_add, Nat.reduceAdd] at hN0
 have hN1 := cells_of _ 0 [] rfl (hL0.get _ _ (List.mem_cons_of_mem _ (List.mem_cons_of_mem _ List.mem_cons_self)))
 simp only [cellsF, and_true, Nat.zero_add, Nat.reduceAdd] at hN1
 have hN2 := cells_of _ 0 [] rfl (hL0.get _ _ (List.mem_cons_of_mem _ (List.mem_cons_of_mem _ (List.mem_cons_of_mem _ List.mem_cons_self))))
 simp only [cellsF, and_true, Nat.zero_add, Nat.reduceAdd] at hN2
 go_wp2_with fail
 clear hN0 hN1 hN2
 with_reducible refine Calls.mono (H3.out _) ?_
 rintro e x8 ⟨rfl, hb⟩
 replace hL0 := hL0.call hb
 clear hb
 have hN0 := cells_of _ 0 [] rfl (hL0.get _ _ List.mem_cons_self)
 simp only [cellsF, and_true, Nat.zero_add, Nat.reduceAdd] at hN0
 have hN1 := cells_of _ 0 [] rfl (hL0.get _ _ (List.mem_cons_of_mem _ (List.mem_cons_of_mem _ List.mem_cons_self)))
 simp only [cellsF, and_true, Nat.zero_add, Nat.reduceAdd] at hN1
 have hN2 := cells_of _ 0 [] rfl (hL0.get _ _ (List.mem_cons_of_mem _ (List.mem_cons_of_mem _ (List.mem_cons_of_mem _ List.mem_cons_self))))
 simp only [cellsF, and_true, Nat.zero_add, Nat.reduceAdd] at hN2
 go_wp2_with fail
 clear hN0 hN1 hN2
 with_reducible refine Calls.mono (H4.out _) ?_
 rintro e x9 ⟨rfl, hb⟩
 replace hL0 := hL0.call hb
 clear hb
 have hN0 := cells_of _ 0 [] rfl (hL0.get _ _ (List.mem_cons_of_mem _ (List.mem_cons_of_mem _ List.mem_cons_self)))
 simp only [cellsF, and_true, Nat.zero_add, Nat.reduceAdd] at hN0
 have hN1 := cells_of _ 0 [] rfl (hL0.get _ _ (List.mem_cons_of_mem _ (List.mem_cons_of_mem _ (List.mem_cons_of_mem _ List.mem_cons_self))))
 simp only [cellsF, and_true, Nat.zero_add, Nat.reduceAdd] at hN1
 go_wp2_with fail
 clear hN0 hN1
 with_reducible refine Calls.mono (HB.out _) ?_
 rintro e x10 ⟨rfl, hb⟩
 replace hL0 := hL0.call hb
 clear hb
 replace hL0 := (hL0.new rfl [.int .u64 ((zl h.num : Nat) : Int), .string (zh h.num), .bool (zs h.num), .int .u64 ((lo (fe h) : Nat) : Int), .string (hs (fe h))] 30)
 generalize hweq : (x10.alloc (.cells #[.int .u64 ((zl h.num : Nat) : Int), .string (zh h.num), .bool (zs h.num), .int .u64 ((lo (fe h) : Nat) : Int), .string (hs (fe h))] 30)) = x11 at hL0
 go_upto_region 8 with fail
 clear hweq
 refine region_gh (by kernel_rfl) (by kernel_rfl) ?_
 refine lex_seg (gl := []) 9 (by kernel_rfl) ?_
 intro α iα F hF1 hF2
 have hq := GL.seg hF1 hL0
 simp only [fcC, cellsC, and_true, Nat.zero_add, Nat.reduceAdd] at hq
 simp only [List.take_succ_cons, List.take_zero, List.drop_succ_cons, List.drop_zero, List.take_nil, List.drop_nil]
 repeat (go_big_quiet_step (first | fail | (go_at_call 31; with_reducible exact seg_call hF2 HY.out _) | (go_at_call 33; with_reducible exact seg_call hF2 HA.out _) | (go_at_call 10; with_reducible exact seg_call hF2 HB2.out _)))
 refine wpQuiet_nil ?_
 clear hq hF1 hF2 iα F α
 refine lex_new [.int .u64 0, .string ⟨#[]⟩, .bool false, .int .u64 0, .string ⟨#[]⟩] 15 30 30 rfl rfl (of_decide_eq_true (by kernel_rfl)) (by kernel_rfl) rfl new_frac ?_
 simp only [Act.put, List.setIfInBounds_toArray, List.set_cons_succ, List.set_cons_zero]
 refine lex_put [.int .u64 ((zl h.num : Nat) : Int), .string (zh h.num), .bool (zs h.num), .int .u64 ((lo (fe h) : Nat) : Int), .string (hs (fe h))] [.int .u64 0, .string ⟨#[]⟩, .bool false, .int .u64 0, .string ⟨#[]⟩] 15 30 (.tmp 95) rfl (by kernel_rfl) (by simp [toG, upd]) rfl (fun w k h => put_frac _ _ _ _ _ _ _ _ _ _ w k h) ?_
 simp only [Act.put]
 refine lex_seg (gl := [(15, [.int .u64 ((zl h.num : Nat) : Int), .string (zh h.num), .bool (zs h.num), .int .u64 ((lo (fe h) : Nat) : Int), .string (hs (fe h))], true), (15, [.int .u64 0, .string ⟨#[]⟩, .bool false, .int .u64 0, .string ⟨#[]⟩], false)]) 1 (by kernel_rfl) ?_
 intro α iα F hF1 hF2
 have hq := GL.seg hF1 hL0
 simp only [fcC, cellsC, and_true, Nat.zero_add, Nat.reduceAdd] at hq
 simp only [List.take_succ_cons, List.take_zero, List.drop_succ_cons, List.drop_zero, List.take_nil, List.drop_nil]
 repeat (go_big_quiet_step (first | fail | (go_at_call 31; with_reducible exact seg_call hF2 HY.out _) | (go_at_call 33; with_reducible exact seg_call hF2 HA.out _) | (go_at_call 10; with_reducible exact seg_call hF2 HB2.out _)))
 refine wpQuiet_nil ?_
 clear hq hF1 hF2 iα F α
 refine lexG_nil ?_
 intro κ x12 hS
 replace hL0 := hL0.ghs hS [(15, [.int .u64 ((zl h.num : Nat) : Int), .string (zh h.num), .bool (zs h.num), .int .u64 ((lo (fe h) : Nat) : Int), .string (hs (fe h))])] (by simp) (by intro p hp; simp only [List.mem_cons, List.not_mem_nil, or_false] at hp; rcases hp with rfl <;> exact ⟨_, by simp only [toG, upd]; rfl⟩)
 simp only [List.map_cons, List.map_nil, List.cons_append, List.nil_append] at hL0
 simp only [over_toG, over_nil, Act.put, List.setIfInBounds_toArray, List.set_cons_succ, List.set_cons_zero]
 clear hS
 generalize κ 15 = k12_15 at *
 go_upto_region 9 with fail
 refine region_gh (by kernel_rfl) (by kernel_rfl) ?_
 refine lex_seg (gl := []) 7 (by kernel_rfl) ?_
 intro α iα F hF1 hF2
 have hq := GL.seg hF1 hL0
 simp only [fcC, cellsC, and_true, Nat.zero_add, Nat.reduceAdd] at hq
 simp only [List.take_succ_cons, List.take_zero, List.drop_succ_cons, List.drop_zero, List.take_nil, List.drop_nil]
 repeat (go_big_quiet_step (first | fail | (go_at_call 34; with_reducible exact seg_call hF2 HN.out _) | (go_at_call 10; with_reducible exact seg_call hF2 HB3.out _)))
 refine wpQuiet_nil ?_
 clear hq hF1 hF2 iα F α
 refine lex_new [.int .u64 0, .string ⟨#[]⟩, .bool false, .int .u64 0, .string ⟨#[]⟩] 17 30 30 rfl rfl (of_decide_eq_true (by kernel_rfl)) (by kernel_rfl) rfl new_frac ?_
 simp only [Act.put, List.setIfInBounds_toArray, List.set_cons_succ, List.set_cons_zero]
 refine lex_put [.int .u64 ((zl l.num : Nat) : Int), .string (zh l.num), .bool (zs l.num), .int .u64 ((lo (fe l) : Nat) : Int), .string (hs (fe l))] [.int .u64 0, .string ⟨#[]⟩, .bool false, .int .u64 0, .string ⟨#[]⟩] 17 30 (.tmp 102) rfl (by kernel_rfl) (by simp [toG, upd]) rfl (fun w k h => put_frac _ _ _ _ _ _ _ _ _ _ w k h) ?_
 simp only [Act.put]
 refine lex_seg (gl := [(17, [.int .u64 ((zl l.num : Nat) : Int), .string (zh l.num), .bool (zs l.num), .int .u64 ((lo (fe l) : Nat) : Int), .string (hs (fe l))], true), (17, [.int .u64 0, .string ⟨#[]⟩, .bool false, .int .u64 0, .string ⟨#[]⟩], false)]) 1 (by kernel_rfl) ?_
 intro α iα F hF1 hF2
 have hq := GL.seg hF1 hL0
 simp only [fcC, cellsC, and_true, Nat.zero_add, Nat.reduceAdd] at hq
 simp only [List.take_succ_cons, List.take_zero, List.drop_succ_cons, List.drop_zero, List.take_nil, List.drop_nil]
 repeat (go_big_quiet_step (first | fail | (go_at_call 34; with_reducible exact seg_call hF2 HN.out _) | (go_at_call 10; with_reducible exact seg_call hF2 HB3.out _)))
 refine wpQuiet_nil ?_
 clear hq hF1 hF2 iα F α
 refine lexG_nil ?_
 intro κ x13 hS
 replace hL0 := hL0.ghs hS [(17, [.int .u64 ((zl l.num : Nat) : Int), .string (zh l.num), .bool (zs l.num), .int .u64 ((lo (fe l) : Nat) : Int), .string (hs (fe l))])] (by simp) (by intro p hp; simp only [List.mem_cons, List.not_mem_nil, or_false] at hp; rcases hp with rfl <;> exact ⟨_, by simp only [toG, upd]; rfl⟩)
 simp only [List.map_cons, List.map_nil, List.cons_append, List.nil_append] at hL0
 simp only [over_toG, over_nil, Act.put, List.setIfInBounds_toArray, List.set_cons_succ, List.set_cons_zero]
 clear hS
 generalize κ 17 = k13_17 at *
 go_upto_region 10 with fail
 have kKT1 := hKT.out.at hL0.bl kKT
 obtain ⟨α, iα, F, hF1, hF2⟩ := cls x13
 have hq0 := cls_box hF1 hL0 _ _ List.mem_cons_self
 simp only [cellsC, and_true, Nat.zero_add, Nat.reduceAdd] at hq0
 have hq1 := cls_box hF1 hL0 _ _ (List.mem_cons_of_mem _ List.mem_cons_self)
 simp only [cellsC, and_true, Nat.zero_add, Nat.reduceAdd] at hq1
 have hq2 := cls_box hF1 hL0 _ _ (List.mem_cons_of_mem _ (List.mem_cons_of_mem _ List.mem_cons_self))
 simp only [cellsC, and_true, Nat.zero_add, Nat.reduceAdd] at hq2
 refine region_qs 23 (C := fun w' => ∃ x, w' = F x) (by kernel_rfl) (by kernel_rfl) (cls_drew hF2) ?_
 simp only [List.take_succ_cons, List.take_zero, List.drop_succ_cons, List.drop_zero, List.take_nil, List.drop_nil]
 repeat (go_big_quiet_step (first | fail | (go_at_call 35; with_reducible exact cls_call hF1 hF2 HNf.out _) | (go_at_call 15; with_reducible exact cls_callK hKT.out hF1 hF2 kKT1 HW.out _)))
 refine wpQuiet_nil ?_
 rintro wq ⟨xq, rfl⟩
 replace hL0 := hL0.call (hF1 xq)
 clear  hq0 hq1 hq2 hF2
 generalize F xq = x14 at hL0 ⊢
 clear hF1 xq iα F α
 clear kKT1
 go_wp2_with fail
 exact bodyPost_ret (v := .bool true) (by simp [results, Tryz.results7, go_sem]) rfl ⟨rfl, hL0.bl⟩
set_option maxHeartbeats 4000000 in
set_option maxRecDepth 100000 in
theorem pone_e (sx sy : Bool) (ax qx ay qy am : Option Addr) (nx cx mx dx ny cy my dy nm cm : Nat) (i : Int) (b y s t : Int) (n : Nat) (f h l : Rat) (k : Bool) (Km : World → Prop) (hKm : Keeps Km) (HM : ∀ w, Km w → Calls Tryz.prog 27 #[.slice am nm cm] w fun xe w' => xe = .returned (natV n) ∧ Below w.heap.size w w') (HO : ∀ w, Calls Tryz.prog 11 #[.int .i64 i] w fun xe w' => xe = .returned (intV b) ∧ Below w.heap.size w w') (Kx : World → Prop) (hKx : Keeps Kx) (Gx : ∀ w, Kx w → Calls Tryz.prog 29 #[.agg #[.bool sx, .slice ax nx cx, .slice qx mx dx]] w fun xe w' => xe = .returned (fracV f) ∧ Below w.heap.size w w') (Ky : World → Prop) (hKy : Keeps Ky) (Gy : ∀ w, Ky w → Calls Tryz.prog 29 #[.agg #[.bool sy, .slice ay ny cy, .slice qy my dy]] w fun xe w' => xe = .returned (fracV f) ∧ Below w.heap.size w w') (H1 : ∀ w, Calls Tryz.prog 22 #[fracV f, natV n] w fun xe w' => xe = .returned (.bool true) ∧ Below w.heap.size w w') (H3 : ∀ w, Calls Tryz.prog 20 #[fracV f, intV b, natV n] w fun xe w' => xe = .returned (.bool true) ∧ Below w.heap.size w w') (HB : ∀ w, Calls Tryz.prog 10 #[intV b, natV n] w fun xe w' => xe = .returned (.tuple #[fracV h, .bool k]) ∧ Below w.heap.size w w') (HY : ∀ w, Calls Tryz.prog 31 #[.bool false, natV n] w fun xe w' => xe = .returned (intV y) ∧ Below w.heap.size w w') (HA : ∀ w, Calls Tryz.prog 33 #[intV b, intV y] w fun xe w' => xe = .returned (intV s) ∧ Below w.heap.size w w') (HB2 : ∀ w, Calls Tryz.prog 10 #[intV s, natV n] w fun xe w' => xe = .returned (.tuple #[fracV h, .bool k]) ∧ Below w.heap.size w w') (HN : ∀ w, Calls Tryz.prog 34 #[intV b] w fun xe w' => xe = .returned (intV t) ∧ Below w.heap.size w w') (HB3 : ∀ w, Calls Tryz.prog 10 #[intV t, natV n] w fun xe w' => xe = .returned (.tuple #[fracV l, .bool k]) ∧ Below w.heap.size w w') (HNf : ∀ w, Calls Tryz.prog 35 #[fracV h] w fun xe w' => xe = .returned (fracV l) ∧ Below w.heap.size w w') (KT : World → Prop) (hKT : Keeps KT) (HW : ∀ w, KT w → Calls Tryz.prog 15 #[] w fun xe w' => xe = .returned (.bool true) ∧ Below w.heap.size w w') (l0 : decide ((2 : Int) < ((nx : Nat) : Int)) = false) (k0 : decide (2 < nx) = false) (l1 : decide ((2 : Int) < ((mx : Nat) : Int)) = false) (k1 : decide (2 < mx) = false) (l2 : decide ((2 : Int) < ((ny : Nat) : Int)) = false) (k2 : decide (2 < ny) = false) (l3 : decide ((2 : Int) < ((my : Nat) : Int)) = false) (k3 : decide (2 < my) = false) (l4 : decide ((6 : Int) < ((nm : Nat) : Int)) = false) (k4 : decide (6 < nm) = false) (w : World) (kKm : Km w) (kKx : Kx w) (kKy : Ky w) (kKT : KT w) :
  Calls Tryz.prog 7 #[.agg #[.bool sx, .slice ax nx cx, .slice qx mx dx], .agg #[.bool sy, .slice ay ny cy, .slice qy my dy], .slice am nm cm, .int .i64 i] w fun xe w' => xe = .returned (.bool true) ∧ Below w.heap.size w w' := by
 have hL0 : GL w w [] := GL.start w
 replace hKm := Lib.hid hKm
 replace HM := Lib.hid HM
 replace HO := Lib.hid HO
 replace hKx := Lib.hid hKx
 replace Gx := Lib.hid Gx
 replace hKy := Lib.hid hKy
 replace Gy := Lib.hid Gy
 replace H1 := Lib.hid H1
 replace H3 := Lib.hid H3
 replace HB := Lib.hid HB
 replace HY := Lib.hid HY
 replace HA := Lib.hid HA
 replace HB2 := Lib.hid HB2
 replace HN := Lib.hid HN
 replace HB3 := Lib.hid HB3
 replace HNf := Lib.hid HNf
 replace hKT := Lib.hid hKT
 replace HW := Lib.hid HW
 replace hL0 := ((hL0.new rfl [.bool sx, .slice ax nx cx, .slice qx mx dx] 70).new (K := w.heap.size + 1) (szA _ _) [.bool sy, .slice ay ny cy, .slice qy my dy] 70)
 generalize hweq : ((w.alloc (.cells #[.bool sx, .slice ax nx cx, .slice qx mx dx] 70)).alloc (.cells #[.bool sy, .slice ay ny cy, .slice qy my dy] 70)) = x1 at hL0
 go_enter Tryz.func7, Tryz.ntmps7
 have hN0 := cells_of _ 0 [] rfl (hL0.get _ _ List.mem_cons_self)
 simp only [cellsF, and_true, Nat.zero_add, Nat.reduceAdd] at hN0
 have hN1 := cells_of _ 0 [] rfl (hL0.get _ _ (List.mem_cons_of_mem _ List.mem_cons_self))
 simp only [cellsF, and_true, Nat.zero_add, Nat.reduceAdd] at hN1
 go_wp2_with fail
 clear hN0 hN1
 with_reducible refine Calls.mono (HM.out _ (hKm.out.at hL0.bl kKm)) ?_
 rintro e x2 ⟨rfl, hb⟩
 replace hL0 := hL0.call hb
 clear hb hweq
 go_wp2_with fail
 with_reducible refine Calls.mono (HO.out _) ?_
 rintro e x3 ⟨rfl, hb⟩
 replace hL0 := hL0.call hb
 clear hb
 replace hL0 := ((hL0.new rfl [.int .u64 ((lo n : Nat) : Int), .string (hs n)] 26).new (K := x3.heap.size + 1) (szA _ _) [.int .u64 ((zl b : Nat) : Int), .string (zh b), .bool (zs b)] 28)
 generalize hweq : ((x3.alloc (.cells #[.int .u64 ((lo n : Nat) : Int), .string (hs n)] 26)).alloc (.cells #[.int .u64 ((zl b : Nat) : Int), .string (zh b), .bool (zs b)] 28)) = x4 at hL0
 go_upto_region 4 with fail
 have kKx1 := hKx.out.at hL0.bl kKx
 have kKy1 := hKy.out.at hL0.bl kKy
 clear hweq
 refine region_gh (by kernel_rfl) (by kernel_rfl) ?_
 refine lex_seg (gl := []) 4 (by kernel_rfl) ?_
 intro α iα F hF1 hF2
 have hq := GL.seg hF1 hL0
 simp only [fcC, cellsC, and_true, Nat.zero_add, Nat.reduceAdd] at hq
 simp only [List.take_succ_cons, List.take_zero, List.drop_succ_cons, List.drop_zero, List.take_nil, List.drop_nil]
 repeat (go_big_quiet_step (first | fail | (go_at_call 29; with_reducible exact seg_callK hKx.out hF1 hF2 kKx1 Gx.out _) | (go_at_call 29; with_reducible exact seg_callK hKy.out hF1 hF2 kKy1 Gy.out _)))
 refine wpQuiet_nil ?_
 clear hq hF1 hF2 iα F α
 refine lex_new [.int .u64 0, .string ⟨#[]⟩, .bool false, .int .u64 0, .string ⟨#[]⟩] 11 30 30 rfl rfl (of_decide_eq_true (by kernel_rfl)) (by kernel_rfl) rfl new_frac ?_
 simp only [Act.put, List.setIfInBounds_toArray, List.set_cons_succ, List.set_cons_zero]
 refine lex_new [.int .u64 0, .string ⟨#[]⟩, .bool false, .int .u64 0, .string ⟨#[]⟩] 12 30 30 rfl rfl (of_decide_eq_true (by kernel_rfl)) (by kernel_rfl) rfl new_frac ?_
 simp only [Act.put, List.setIfInBounds_toArray, List.set_cons_succ, List.set_cons_zero]
 refine lex_put [.int .u64 ((zl f.num : Nat) : Int), .string (zh f.num), .bool (zs f.num), .int .u64 ((lo (fe f) : Nat) : Int), .string (hs (fe f))] [.int .u64 0, .string ⟨#[]⟩, .bool false, .int .u64 0, .string ⟨#[]⟩] 11 30 (.tmp 54) rfl (by kernel_rfl) (by simp [toG, upd]) rfl (fun w k h => put_frac _ _ _ _ _ _ _ _ _ _ w k h) ?_
 simp only [Act.put]
 refine lex_put [.int .u64 ((zl f.num : Nat) : Int), .string (zh f.num), .bool (zs f.num), .int .u64 ((lo (fe f) : Nat) : Int), .string (hs (fe f))] [.int .u64 0, .string ⟨#[]⟩, .bool false, .int .u64 0, .string ⟨#[]⟩] 12 30 (.tmp 56) rfl (by kernel_rfl) (by simp [toG, upd]) rfl (fun w k h => put_frac _ _ _ _ _ _ _ _ _ _ w k h) ?_
 simp only [Act.put]
 refine lexG_nil ?_
 intro κ x5 hS
 replace hL0 := hL0.ghs hS [(12, [.int .u64 ((zl f.num : Nat) : Int), .string (zh f.num), .bool (zs f.num), .int .u64 ((lo (fe f) : Nat) : Int), .string (hs (fe f))]), (11, [.int .u64 ((zl f.num : Nat) : Int), .string (zh f.num), .bool (zs f.num), .int .u64 ((lo (fe f) : Nat) : Int), .string (hs (fe f))])] (by simp) (by intro p hp; simp only [List.mem_cons, List.not_mem_nil, or_false] at hp; rcases hp with rfl | rfl <;> exact ⟨_, by simp only [toG, upd]; rfl⟩)
 simp only [List.map_cons, List.map_nil, List.cons_append, List.nil_append] at hL0
 simp only [over_toG, over_nil, Act.put, List.setIfInBounds_toArray, List.set_cons_succ, List.set_cons_zero]
 clear hS
 generalize κ 12 = k5_12 at *
 generalize κ 11 = k5_11 at *
 clear kKx1 kKy1
 have hN0 := cells_of _ 0 [] rfl (hL0.get _ _ (List.mem_cons_of_mem _ List.mem_cons_self))
 simp only [cellsF, and_true, Nat.zero_add, Nat.reduceAdd] at hN0
 have hN1 := cells_of _ 0 [] rfl (hL0.get _ _ (List.mem_cons_of_mem _ (List.mem_cons_of_mem _ (List.mem_cons_of_mem _ List.mem_cons_self))))
 simp only [cellsF, and_true, Nat.zero_add, Nat.reduceAdd] at hN1
 go_wp2_with fail
 clear hN0 hN1
 with_reducible refine Calls.mono (H1.out _) ?_
 rintro e x6 ⟨rfl, hb⟩
 replace hL0 := hL0.call hb
 clear hb
 have hN0 := cells_of _ 0 [] rfl (hL0.get _ _ List.mem_cons_self)
 simp only [cellsF, and_true, Nat.zero_add, Nat.reduceAdd] at hN0
 have hN1 := cells_of _ 0 [] rfl (hL0.get _ _ (List.mem_cons_of_mem _ (List.mem_cons_of_mem _ (List.mem_cons_of_mem _ List.mem_cons_self))))
 simp only [cellsF, and_true, Nat.zero_add, Nat.reduceAdd] at hN1
 go_wp2_with fail
 clear hN0 hN1
 with_reducible refine Calls.mono (H1.out _) ?_
 rintro e x7 ⟨rfl, hb⟩
 replace hL0 := hL0.call hb
 clear hb
 have hN0 := cells_of _ 0 [] rfl (hL0.get _ _ (List.mem_cons_of_mem _ List.mem_cons_self))
 simp only [cellsF, and_true, Nat.zero_add, Nat.reduceAdd] at hN0
 have hN1 := cells_of _ 0 [] rfl (hL0.get _ _ (List.mem_cons_of_mem _ (List.mem_cons_of_mem _ List.mem_cons_self)))
 simp only [cellsF, and_true, Nat.zero_add, Nat.reduceAdd] at hN1
 have hN2 := cells_of _ 0 [] rfl (hL0.get _ _ (List.mem_cons_of_mem _ (List.mem_cons_of_mem _ (List.mem_cons_of_mem _ List.mem_cons_self))))
 simp only [cellsF, and_true, Nat.zero_add, Nat.reduceAdd] at hN2
 go_wp2_with fail
 clear hN0 hN1 hN2
 with_reducible refine Calls.mono (H3.out _) ?_
 rintro e x8 ⟨rfl, hb⟩
 replace hL0 := hL0.call hb
 clear hb
 have hN0 := cells_of _ 0 [] rfl (hL0.get _ _ List.mem_cons_self)
 simp only [cellsF, and_true, Nat.zero_add, Nat.reduceAdd] at hN0
 have hN1 := cells_of _ 0 [] rfl (hL0.get _ _ (List.mem_cons_of_mem _ (List.mem_cons_of_mem _ List.mem_cons_self)))
 simp only [cellsF, and_true, Nat.zero_add, Nat.reduceAdd] at hN1
 have hN2 := cells_of _ 0 [] rfl (hL0.get _ _ (List.mem_cons_of_mem _ (List.mem_cons_of_mem _ (List.mem_cons_of_mem _ List.mem_cons_self))))
 simp only [cellsF, and_true, Nat.zero_add, Nat.reduceAdd] at hN2
 go_wp2_with fail
 clear hN0 hN1 hN2
 with_reducible refine Calls.mono (H3.out _) ?_
 rintro e x9 ⟨rfl, hb⟩
 replace hL0 := hL0.call hb
 clear hb
 have hN0 := cells_of _ 0 [] rfl (hL0.get _ _ List.mem_cons_self)
 simp only [cellsF, and_true, Nat.zero_add, Nat.reduceAdd] at hN0
 have hN1 := cells_of _ 0 [] rfl (hL0.get _ _ (List.mem_cons_of_mem _ List.mem_cons_self))
 simp only [cellsF, and_true, Nat.zero_add, Nat.reduceAdd] at hN1
 have hN2 := cells_of _ 0 [] rfl (hL0.get _ _ (List.mem_cons_of_mem _ (List.mem_cons_of_mem _ List.mem_cons_self)))
 simp only [cellsF, and_true, Nat.zero_add, Nat.reduceAdd] at hN2
 have hN3 := cells_of _ 0 [] rfl (hL0.get _ _ (List.mem_cons_of_mem _ (List.mem_cons_of_mem _ (List.mem_cons_of_mem _ List.mem_cons_self))))
 simp only [cellsF, and_true, Nat.zero_add, Nat.reduceAdd] at hN3
 go_wp2_with fail
 clear hN0 hN1 hN2 hN3
 with_reducible refine Calls.mono (HB.out _) ?_
 rintro e x10 ⟨rfl, hb⟩
 replace hL0 := hL0.call hb
 clear hb
 replace hL0 := (hL0.new rfl [.int .u64 ((zl h.num : Nat) : Int), .string (zh h.num), .bool (zs h.num), .int .u64 ((lo (fe h) : Nat) : Int), .string (hs (fe h))] 30)
 generalize hweq : (x10.alloc (.cells #[.int .u64 ((zl h.num : Nat) : Int), .string (zh h.num), .bool (zs h.num), .int .u64 ((lo (fe h) : Nat) : Int), .string (hs (fe h))] 30)) = x11 at hL0
 go_upto_region 8 with fail
 clear hweq
 refine region_gh (by kernel_rfl) (by kernel_rfl) ?_
 refine lex_seg (gl := []) 9 (by kernel_rfl) ?_
 intro α iα F hF1 hF2
 have hq := GL.seg hF1 hL0
 simp only [fcC, cellsC, and_true, Nat.zero_add, Nat.reduceAdd] at hq
 simp only [List.take_succ_cons, List.take_zero, List.drop_succ_cons, List.drop_zero, List.take_nil, List.drop_nil]
 repeat (go_big_quiet_step (first | fail | (go_at_call 31; with_reducible exact seg_call hF2 HY.out _) | (go_at_call 33; with_reducible exact seg_call hF2 HA.out _) | (go_at_call 10; with_reducible exact seg_call hF2 HB2.out _)))
 refine wpQuiet_nil ?_
 clear hq hF1 hF2 iα F α
 refine lex_new [.int .u64 0, .string ⟨#[]⟩, .bool false, .int .u64 0, .string ⟨#[]⟩] 15 30 30 rfl rfl (of_decide_eq_true (by kernel_rfl)) (by kernel_rfl) rfl new_frac ?_
 simp only [Act.put, List.setIfInBounds_toArray, List.set_cons_succ, List.set_cons_zero]
 refine lex_put [.int .u64 ((zl h.num : Nat) : Int), .string (zh h.num), .bool (zs h.num), .int .u64 ((lo (fe h) : Nat) : Int), .string (hs (fe h))] [.int .u64 0, .string ⟨#[]⟩, .bool false, .int .u64 0, .string ⟨#[]⟩] 15 30 (.tmp 95) rfl (by kernel_rfl) (by simp [toG, upd]) rfl (fun w k h => put_frac _ _ _ _ _ _ _ _ _ _ w k h) ?_
 simp only [Act.put]
 refine lex_seg (gl := [(15, [.int .u64 ((zl h.num : Nat) : Int), .string (zh h.num), .bool (zs h.num), .int .u64 ((lo (fe h) : Nat) : Int), .string (hs (fe h))], true), (15, [.int .u64 0, .string ⟨#[]⟩, .bool false, .int .u64 0, .string ⟨#[]⟩], false)]) 1 (by kernel_rfl) ?_
 intro α iα F hF1 hF2
 have hq := GL.seg hF1 hL0
 simp only [fcC, cellsC, and_true, Nat.zero_add, Nat.reduceAdd] at hq
 simp only [List.take_succ_cons, List.take_zero, List.drop_succ_cons, List.drop_zero, List.take_nil, List.drop_nil]
 repeat (go_big_quiet_step (first | fail | (go_at_call 31; with_reducible exact seg_call hF2 HY.out _) | (go_at_call 33; with_reducible exact seg_call hF2 HA.out _) | (go_at_call 10; with_reducible exact seg_call hF2 HB2.out _)))
 refine wpQuiet_nil ?_
 clear hq hF1 hF2 iα F α
 refine lexG_nil ?_
 intro κ x12 hS
 replace hL0 := hL0.ghs hS [(15, [.int .u64 ((zl h.num : Nat) : Int), .string (zh h.num), .bool (zs h.num), .int .u64 ((lo (fe h) : Nat) : Int), .string (hs (fe h))])] (by simp) (by intro p hp; simp only [List.mem_cons, List.not_mem_nil, or_false] at hp; rcases hp with rfl <;> exact ⟨_, by simp only [toG, upd]; rfl⟩)
 simp only [List.map_cons, List.map_nil, List.cons_append, List.nil_append] at hL0
 simp only [over_toG, over_nil, Act.put, List.setIfInBounds_toArray, List.set_cons_succ, List.set_cons_zero]
 clear hS
 generalize κ 15 = k12_15 at *
 go_upto_region 9 with fail
 refine region_gh (by kernel_rfl) (by kernel_rfl) ?_
 refine lex_seg (gl := []) 7 (by kernel_rfl) ?_
 intro α iα F hF1 hF2
 have hq := GL.seg hF1 hL0
 simp only [fcC, cellsC, and_true, Nat.zero_add, Nat.reduceAdd] at hq
 simp only [List.take_succ_cons, List.take_zero, List.drop_succ_cons, List.drop_zero, List.take_nil, List.drop_nil]
 repeat (go_big_quiet_step (first | fail | (go_at_call 34; with_reducible exact seg_call hF2 HN.out _) | (go_at_call 10; with_reducible exact seg_call hF2 HB3.out _)))
 refine wpQuiet_nil ?_
 clear hq hF1 hF2 iα F α
 refine lex_new [.int .u64 0, .string ⟨#[]⟩, .bool false, .int .u64 0, .string ⟨#[]⟩] 17 30 30 rfl rfl (of_decide_eq_true (by kernel_rfl)) (by kernel_rfl) rfl new_frac ?_
 simp only [Act.put, List.setIfInBounds_toArray, List.set_cons_succ, List.set_cons_zero]
 refine lex_put [.int .u64 ((zl l.num : Nat) : Int), .string (zh l.num), .bool (zs l.num), .int .u64 ((lo (fe l) : Nat) : Int), .string (hs (fe l))] [.int .u64 0, .string ⟨#[]⟩, .bool false, .int .u64 0, .string ⟨#[]⟩] 17 30 (.tmp 102) rfl (by kernel_rfl) (by simp [toG, upd]) rfl (fun w k h => put_frac _ _ _ _ _ _ _ _ _ _ w k h) ?_
 simp only [Act.put]
 refine lex_seg (gl := [(17, [.int .u64 ((zl l.num : Nat) : Int), .string (zh l.num), .bool (zs l.num), .int .u64 ((lo (fe l) : Nat) : Int), .string (hs (fe l))], true), (17, [.int .u64 0, .string ⟨#[]⟩, .bool false, .int .u64 0, .string ⟨#[]⟩], false)]) 1 (by kernel_rfl) ?_
 intro α iα F hF1 hF2
 have hq := GL.seg hF1 hL0
 simp only [fcC, cellsC, and_true, Nat.zero_add, Nat.reduceAdd] at hq
 simp only [List.take_succ_cons, List.take_zero, List.drop_succ_cons, List.drop_zero, List.take_nil, List.drop_nil]
 repeat (go_big_quiet_step (first | fail | (go_at_call 34; with_reducible exact seg_call hF2 HN.out _) | (go_at_call 10; with_reducible exact seg_call hF2 HB3.out _)))
 refine wpQuiet_nil ?_
 clear hq hF1 hF2 iα F α
 refine lexG_nil ?_
 intro κ x13 hS
 replace hL0 := hL0.ghs hS [(17, [.int .u64 ((zl l.num : Nat) : Int), .string (zh l.num), .bool (zs l.num), .int .u64 ((lo (fe l) : Nat) : Int), .string (hs (fe l))])] (by simp) (by intro p hp; simp only [List.mem_cons, List.not_mem_nil, or_false] at hp; rcases hp with rfl <;> exact ⟨_, by simp only [toG, upd]; rfl⟩)
 simp only [List.map_cons, List.map_nil, List.cons_append, List.nil_append] at hL0
 simp only [over_toG, over_nil, Act.put, List.setIfInBounds_toArray, List.set_cons_succ, List.set_cons_zero]
 clear hS
 generalize κ 17 = k13_17 at *
 go_upto_region 10 with fail
 have kKT1 := hKT.out.at hL0.bl kKT
 obtain ⟨α, iα, F, hF1, hF2⟩ := cls x13
 have hq0 := cls_box hF1 hL0 _ _ List.mem_cons_self
 simp only [cellsC, and_true, Nat.zero_add, Nat.reduceAdd] at hq0
 have hq1 := cls_box hF1 hL0 _ _ (List.mem_cons_of_mem _ List.mem_cons_self)
 simp only [cellsC, and_true, Nat.zero_add, Nat.reduceAdd] at hq1
 have hq2 := cls_box hF1 hL0 _ _ (List.mem_cons_of_mem _ (List.mem_cons_of_mem _ List.mem_cons_self))
 simp only [cellsC, and_true, Nat.zero_add, Nat.reduceAdd] at hq2
 refine region_qs 23 (C := fun w' => ∃ x, w' = F x) (by kernel_rfl) (by kernel_rfl) (cls_drew hF2) ?_
 simp only [List.take_succ_cons, List.take_zero, List.drop_succ_cons, List.drop_zero, List.take_nil, List.drop_nil]
 repeat (go_big_quiet_step (first | fail | (go_at_call 35; with_reducible exact cls_call hF1 hF2 HNf.out _) | (go_at_call 15; with_reducible exact cls_callK hKT.out hF1 hF2 kKT1 HW.out _)))
 refine wpQuiet_nil ?_
 rintro wq ⟨xq, rfl⟩
 replace hL0 := hL0.call (hF1 xq)
 clear  hq0 hq1 hq2 hF2
 generalize F xq = x14 at hL0 ⊢
 clear hF1 xq iα F α
 clear kKT1
 go_wp2_with fail
 exact bodyPost_ret (v := .bool true) (by simp [results, Tryz.results7, go_sem]) rfl ⟨rfl, hL0.bl⟩
end Go.Proofs.YtloipmieaefcpaaGreatDoor
namespace Go.Proofs.YtloipmieaefcpaaGreatDoor
open Go.RowKit
attribute [local irreducible] lo hs sm s64 c64 d64 b64 mh ml pd pc qd qc val hiB str cmpI srD lz nb isq zl zh zs
theorem pone_any (sx sy : Bool) (ax qx ay qy am : Option Addr) (nx cx mx dx ny cy my dy nm cm : Nat) (lx kx ly ky lm : List Nat) (i : Int) (hi1 : -9223372036854775808 ≤ i) (hi2 : i < 9223372036854775808) (w : World) (hT : Tab w)
  (hwx : Ws w (.slice ax nx cx) lx) (hvx : Ws w (.slice qx mx dx) kx) (hwy : Ws w (.slice ay ny cy) ly) (hvy : Ws w (.slice qy my dy) ky) (hm : Ws w (.slice am nm cm) lm) :
  Calls Tryz.prog 7 #[.agg #[.bool sx, .slice ax nx cx, .slice qx mx dx], .agg #[.bool sy, .slice ay ny cy, .slice qy my dy], .slice am nm cm, .int .i64 i] w fun xe w' => xe = .returned (.bool true) ∧ Below w.heap.size w w' := by
 have e1 := hwx.len
 have e2 := hvx.len
 have e3 := hwy.len
 have e4 := hvy.len
 have e5 := hm.len
 have T {k n : Nat} (h : k < n) : decide ((k : Int) < ((n : Nat) : Int)) = true ∧ decide (k < n) = true := ⟨decide_eq_true (by omega), decide_eq_true h⟩
 have F {k n : Nat} (h : ¬ k < n) : decide ((k : Int) < ((n : Nat) : Int)) = false ∧ decide (k < n) = false := ⟨decide_eq_false (by omega), decide_eq_false h⟩
 by_cases h1 : 2 < nx
 ·exact pone_big0 sx sy ax qx ay qy am nx cx mx dx ny cy my dy nm cm i Tab Keeps.tab pworks_any (T h1).1 (T h1).2 w hT
 by_cases h2 : 2 < mx
 ·exact pone_big1 sx sy ax qx ay qy am nx cx mx dx ny cy my dy nm cm i Tab Keeps.tab pworks_any (F h1).1 (F h1).2 (T h2).1 (T h2).2 w hT
 by_cases h3 : 2 < ny
 ·exact pone_big2 sx sy ax qx ay qy am nx cx mx dx ny cy my dy nm cm i Tab Keeps.tab pworks_any (F h1).1 (F h1).2 (F h2).1 (F h2).2 (T h3).1 (T h3).2 w hT
 by_cases h4 : 2 < my
 ·exact pone_big3 sx sy ax qx ay qy am nx cx mx dx ny cy my dy nm cm i Tab Keeps.tab pworks_any (F h1).1 (F h1).2 (F h2).1 (F h2).2 (F h3).1 (F h3).2 (T h4).1 (T h4).2 w hT
 by_cases h5 : 6 < nm
 ·exact pone_big4 sx sy ax qx ay qy am nx cx mx dx ny cy my dy nm cm i Tab Keeps.tab pworks_any (F h1).1 (F h1).2 (F h2).1 (F h2).2 (F h3).1 (F h3).2 (F h4).1 (F h4).2 (T h5).1 (T h5).2 w hT
 have sf : Sz (gmade sx lx kx) 3 := gmade_sz (by omega) hwx hvx (by omega) (by omega)
 have sg : Sz (gmade sy ly ky) 3 := gmade_sz (by omega) hwy hvy (by omega) (by omega)
 have sn : (digs (made lm)).length ≤ 6 := Nat.le_trans (made_sz hm.lt) (by omega)
 have di := i64_dI hi1 hi2
 have GX : ∀ w, (Ws w (.slice ax nx cx) lx ∧ Ws w (.slice qx mx dx) kx) → _ := fun w h => gof_any sx ax qx nx cx mx dx lx kx (by omega) (by omega) w h.1 h.2
 have GY : ∀ w, (Ws w (.slice ay ny cy) ly ∧ Ws w (.slice qy my dy) ky) → _ := fun w h => gof_any sy ay qy ny cy my dy ly ky (by omega) (by omega) w h.1 h.2
 have HM : ∀ w, Ws w (.slice am nm cm) lm → _ := fun w h => made_any (.slice am nm cm) lm (by omega) w h
 generalize gmade sx lx kx = f at *
 generalize gmade sy ly ky = g at *
 generalize made lm = n at *
 have HO := fun w => ofI i hi1 hi2 w
 have dn : dI (n : Int) ≤ 6 := by rw [dI_nat]; exact sn
 have HB := fun w => backP i n (by omega) (by omega) w
 have HY := fun w => fromI false n (n : Int) rfl w
 have HA := fun w => addI i (n : Int) (by omega) (by omega) w
 have HB2 := fun w => backP (i + (n : Int)) n (Nat.le_trans (dI_add (k := 6) (by omega) dn) (by omega)) (by omega) w
 obtain ⟨b1, b2⟩ := back_congr (a := i + (n : Int)) (b := i) (m := n) (fun q => fitsB_add q i n)
 rw [b1, b2] at HB2
 have HN := fun w => negI i w
 have HB3 := fun w => backP (-i) n (by rw [dI_neg]; omega) (by omega) w
 obtain ⟨b3, b4⟩ := back_neg i n
 rw [b3, b4] at HB3
 have HNf := fun w => negF (backQ i n) w
 have p1 := F h1; have p2 := F h2; have p3 := F h3; have p4 := F h4; have p5 := F h5
 have H1 := fun w => farP f n 3 sf (by omega) w
 have H2 := fun w => farP g n 3 sg (by omega) w
 have H3 := fun w => fitsP f i n 3 sf (by omega) (by omega) (by omega) w
 have H4 := fun w => fitsP g i n 3 sg (by omega) (by omega) (by omega) w
 cases c1 : farB f n with
 | false =>
  rw [c1] at H1
  exact pone_a sx sy ax qx ay qy am nx cx mx dx ny cy my dy nm cm i i n _ _ n f g _ _ _ _ (Keeps.ws _ lm) HM HO _ (gpairP _ _ lx kx) GX _ (gpairP _ _ ly ky) GY H1 HB HY HA HB2 HN HB3 HNf Tab Keeps.tab pworks_any
   p1.1 p1.2 p2.1 p2.2 p3.1 p3.2 p4.1 p4.2 p5.1 p5.2 w hm ⟨hwx, hvx⟩ ⟨hwy, hvy⟩ hT
 | true =>
  rw [c1] at H1
  cases c2 : farB g n with
  | false =>
   rw [c2] at H2
   exact pone_b sx sy ax qx ay qy am nx cx mx dx ny cy my dy nm cm i i n _ _ n f g _ _ _ _ (Keeps.ws _ lm) HM HO _ (gpairP _ _ lx kx) GX _ (gpairP _ _ ly ky) GY H1 H2 HB HY HA HB2 HN HB3 HNf Tab Keeps.tab pworks_any
    p1.1 p1.2 p2.1 p2.2 p3.1 p3.2 p4.1 p4.2 p5.1 p5.2 w hm ⟨hwx, hvx⟩ ⟨hwy, hvy⟩ hT
  | true =>
   rw [c2] at H2
   cases c3 : fitsB f i n with
   | false =>
    rw [c3] at H3
    exact pone_c sx sy ax qx ay qy am nx cx mx dx ny cy my dy nm cm i i n _ _ n f g _ _ _ _ (Keeps.ws _ lm) HM HO _ (gpairP _ _ lx kx) GX _ (gpairP _ _ ly ky) GY H1 H2 H3 HB HY HA HB2 HN HB3 HNf Tab Keeps.tab pworks_any
     p1.1 p1.2 p2.1 p2.2 p3.1 p3.2 p4.1 p4.2 p5.1 p5.2 w hm ⟨hwx, hvx⟩ ⟨hwy, hvy⟩ hT
   | true =>
    rw [c3] at H3
    cases c4 : fitsB g i n with
    | false =>
     rw [c4] at H4
     exact pone_d sx sy ax qx ay qy am nx cx mx dx ny cy my dy nm cm i i n _ _ n f g _ _ _ _ (Keeps.ws _ lm) HM HO _ (gpairP _ _ lx kx) GX _ (gpairP _ _ ly ky) GY H1 H2 H3 H4 HB HY HA HB2 HN HB3 HNf Tab Keeps.tab pworks_any
      p1.1 p1.2 p2.1 p2.2 p3.1 p3.2 p4.1 p4.2 p5.1 p5.2 w hm ⟨hwx, hvx⟩ ⟨hwy, hvy⟩ hT
    | true =>
     obtain rfl := small_uniq c3 c1 c4 c2
     exact pone_e sx sy ax qx ay qy am nx cx mx dx ny cy my dy nm cm i i n _ _ n f _ _ _ _ (Keeps.ws _ lm) HM HO _ (gpairP _ _ lx kx) GX _ (gpairP _ _ ly ky) GY H1 H3 HB HY HA HB2 HN HB3 HNf Tab Keeps.tab pworks_any
      p1.1 p1.2 p2.1 p2.2 p3.1 p3.2 p4.1 p4.2 p5.1 p5.2 w hm ⟨hwx, hvx⟩ ⟨hwy, hvy⟩ hT
end Go.Proofs.YtloipmieaefcpaaGreatDoor
