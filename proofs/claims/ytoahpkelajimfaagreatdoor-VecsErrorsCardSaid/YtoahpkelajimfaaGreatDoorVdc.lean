/-
  The law answers true at every input, and leaves its arguments as they were: a part of the proof. CONDITIONS: the package-level tables start as the program's text lays them (the card ties them).
-/
import Derived.Test.YtoahpkelajimfaaGreatDoorVdb
set_option linter.unusedVariables false
set_option linter.unusedSimpArgs false
namespace Go.Proofs.YtoahpkelajimfaaGreatDoor
open Go.RowKit
attribute [local irreducible] lo hs sm s64 c64 d64 b64 mh ml pd pc qd qc val hiB str cmpI srD lz nb zl zh zs fe rowV tabV gv bsV mxV colV
set_option maxHeartbeats 16000000 in
set_option maxRecDepth 100000 in
theorem verr_1_neg_low (al am : Option Addr) (nl cl nm cm l m : Nat) (n1 d1 : Int) (n : Int) (i : Int) (x y v u p : List Rat) (c one xi : Rat) (KL : World → Prop) (hKL : Keeps KL) (HVa : ∀ w, KL w → Calls Tryz.prog 14 #[.slice al nl cl] w fun e w' => ∃ pv, e = .returned pv ∧ PT w' pv x ∧ (∀ g, pv.ownBlock = some g → w.heap.size ≤ g ∧ g < w'.heap.size) ∧ Below w.heap.size w w') (KM : World → Prop) (hKM : Keeps KM) (HVb : ∀ w, KM w → Calls Tryz.prog 14 #[.slice am nm cm] w fun e w' => ∃ pv, e = .returned pv ∧ PT w' pv y ∧ (∀ g, pv.ownBlock = some g → w.heap.size ≤ g ∧ g < w'.heap.size) ∧ Below w.heap.size w w') (HQ : ∀ w, Calls Tryz.prog 15 #[.agg #[.int .i64 n1, .int .u32 d1]] w fun xe w' => xe = .returned (fracV c) ∧ Below w.heap.size w w') (HR : ∀ (p1 p2 : Value) (w : World), PT w p1 x → PT w p2 y → Calls Tryz.prog 48 #[fracV c, p1, p2] w fun e w' => e = .returned (.int .i64 1) ∧ Below w.heap.size w w') (HNo : ∀ (p1 p2 : Value) (w : World), PT w p1 x → PT w p2 y → Calls Tryz.prog 49 #[fracV c, p1, p2] w fun e w' => e = .returned (.bool true) ∧ Below w.heap.size w w') (HZ : ∀ w, Calls Tryz.prog 40 #[.int .i64 n] w fun xe w' => xe = .returned (.tuple #[.slice none 0 0, .int .i64 1]) ∧ Below w.heap.size w w') (HU : ∀ w, Calls Tryz.prog 47 #[.int .i64 n, .int .i64 i] w fun xe w' => xe = .returned (.tuple #[.slice none 0 0, .int .i64 1]) ∧ Below w.heap.size w w') (HP : ∀ (p0 p1 : Value) (w : World), PT w p0 x → ILs w p1 ([i]) → Calls Tryz.prog 39 #[p0, p1] w fun e w' => e = .returned (.tuple #[.slice none 0 0, .int .i64 1]) ∧ Below w.heap.size w w') (HI1 : ∀ w, Calls Tryz.prog 34 #[.int .i64 1] w fun xe w' => xe = .returned (fracV one) ∧ Below w.heap.size w w') (HMv : ∀ (p0 : Value) (w : World), PT w p0 v → Calls Tryz.prog 30 #[p0] w fun e w' => e = .returned (.agg #[.int .u64 0, .string ⟨#[]⟩, .bool false, .int .u64 0, .string ⟨#[]⟩]) ∧ Below w.heap.size w w') (KT : World → Prop) (hKT : Keeps KT) (HW : ∀ w, KT w → Calls Tryz.prog 12 #[] w fun xe w' => xe = .returned (.bool true) ∧ Below w.heap.size w w') (l_nl : decide ((20 : Int) < ((nl : Nat) : Int)) = false) (k_nl : decide (20 < nl) = false) (l_nm : decide ((20 : Int) < ((nm : Nat) : Int)) = false) (k_nm : decide (20 < nm) = false) (lx : x.length = l) (ly : y.length = m) (lv : v.length = 0) (lu : u.length = 0) (lp : p.length = 1) (hl1 : l ≤ 20) (hlm : ¬ ((l : Nat) : Int) = ((m : Nat) : Int)) (hlm2 : (((l : Nat) : Int) != ((m : Nat) : Int)) = true) (hlm3 : ¬ l = m) (hn : n < 0) (hi : i < 0) (hi2 : ¬ 0 ≤ i) (w : World) (kKL : KL w) (kKM : KM w) (kKT : KT w) :
  Calls Tryz.prog 9 #[.agg #[.int .i64 n1, .int .u32 d1], .slice al nl cl, .slice am nm cm, .int .i64 n, .int .i64 i] w fun e w' => e = .returned (.bool true) ∧ Below w.heap.size w w' := by
 replace hKL := Lib.hid hKL
 replace HVa := Lib.hid HVa
 replace hKM := Lib.hid hKM
 replace HVb := Lib.hid HVb
 replace HQ := Lib.hid HQ
 replace HR := Lib.hid HR
 replace HNo := Lib.hid HNo
 replace HZ := Lib.hid HZ
 replace HU := Lib.hid HU
 replace HP := Lib.hid HP
 replace HI1 := Lib.hid HI1
 replace HMv := Lib.hid HMv
 replace hKT := Lib.hid hKT
 replace HW := Lib.hid HW
 have hL0 : GL w w [] := GL.start w
 have hT : PTs w [] := PTs.nil w
 replace lx := Lib.hid lx
 replace ly := Lib.hid ly
 replace lv := Lib.hid lv
 replace lu := Lib.hid lu
 replace lp := Lib.hid lp
 replace hT := (hT.new (.cells #[.int .i64 n1, .int .u32 d1] 24))
 replace hL0 := (hL0.new rfl [.int .i64 n1, .int .u32 d1] 24)
 generalize hweq : (w.alloc (.cells #[.int .i64 n1, .int .u32 d1] 24)) = x1 at hL0 hT
 go_enter Tryz.func9, Tryz.ntmps9
 have hN0 := cells_of _ 0 [] rfl (hL0.get _ _ List.mem_cons_self)
 simp only [cellsF, and_true, Nat.zero_add, Nat.reduceAdd] at hN0
 go_upto_region 3 with fail
 clear hN0
 clear hweq
 refine region_tfl 7 [EV (.slice al nl cl), PO x, EV (.slice am nm cm), PO y, EV (.agg #[.int .i64 n1, .int .u32 d1]), EV (fracV c), NewB x1.heap.size [.int .u64 0, .string ⟨#[]⟩, .bool false, .int .u64 0, .string ⟨#[]⟩]] [6] [1, 3] (by kernel_rfl) (by kernel_rfl) ?_ ?_ ?_ ?_ ?_ ?_
 ·exact stays_cons (stays_eq _) (stays_cons (stays_po _) (stays_cons (stays_eq _) (stays_cons (stays_po _) (stays_cons (stays_eq _) (stays_cons (stays_eq _) (stays_cons (stays_new _ _) stays_nil))))))
 ·simp only [List.take_succ_cons, List.take_zero, hopsRF, and_true]
  refine ⟨?_, ?_, ?_, ?_, ?_, ?_, ?_⟩ <;> intro fv w1 hb1 hp
  all_goals (simp only [putsV, Act.put, List.setIfInBounds_toArray, List.set_cons_succ, List.set_cons_zero, Nat.zero_add, Nat.reduceAdd])
  ·refine fr_no rfl (tyAt_none rfl ?_)
   simp [tyUpon, execOp, go_sem, Act.eval, Below.refl]
  ·have h0 : EV _ (fv 0) w1 := hp 0 (LC (by kernel_rfl))
   refine tyAt_none rfl ?_
   refine ty_call (f := 14) (args := #[.slice al nl cl]) (by simp [execOp, go_sem, Act.eval, h0]) ?_
   exact (HVa.out w1 (hKL.out.at ((hL0.call (below_drew hb1)).bl) kKL)).mono fun e w2 ⟨pv, h1, h2, h3, h4⟩ => ⟨pv, h1, ⟨⟨h2, fun g hg => (h3 g hg).2⟩, fun _ g hg => (h3 g hg).1⟩, h4⟩
  ·refine fr_no rfl (tyAt_none rfl ?_)
   simp [tyUpon, execOp, go_sem, Act.eval, Below.refl]
  ·have h2 : EV _ (fv 2) w1 := hp 2 (LC (by kernel_rfl))
   refine tyAt_none rfl ?_
   refine ty_call (f := 14) (args := #[.slice am nm cm]) (by simp [execOp, go_sem, Act.eval, h2]) ?_
   exact (HVb.out w1 (hKM.out.at ((hL0.call (below_drew hb1)).bl) kKM)).mono fun e w2 ⟨pv, h1, h2, h3, h4⟩ => ⟨pv, h1, ⟨⟨h2, fun g hg => (h3 g hg).2⟩, fun _ g hg => (h3 g hg).1⟩, h4⟩
  ·refine fr_no rfl (tyAt_none rfl ?_)
   have hc := (hL0.call (below_drew hb1)).fc
   simp only [fcG, cellsF, neK, and_true, ne_eq, Nat.zero_add, Nat.reduceAdd] at hc
   simp [tyUpon, execOp, go_sem, Act.eval, hc, Below.refl]
  ·have h4 : EV _ (fv 4) w1 := hp 4 (LC (by kernel_rfl))
   refine fr_no rfl (tyAt_none rfl ?_)
   refine ty_call (f := 15) (args := #[.agg #[.int .i64 n1, .int .u32 d1]]) (by simp [execOp, go_sem, Act.eval, h4]) ?_
   exact (HQ.out w1).mono fun e w2 ⟨h1, h2⟩ => ⟨_, h1, rfl, h2⟩
  ·exact fr_no rfl (tyAt_new rfl rfl new_frac (below_drew hb1).size)
 ·intro j hj u w2 hT2
  simp only [List.contains_iff_mem, List.mem_cons, List.not_mem_nil, or_false] at hj
  rcases hj with rfl
  exact NewB.ptr hT2
 ·intro j hj u w2 hT2
  simp only [List.contains_iff_mem, List.mem_cons, List.not_mem_nil, or_false] at hj
  rcases hj with rfl | rfl <;> exact hT2.2
 ·exact ⟨⟨_, _, _, _, rfl, rfl, rfl, new_frac⟩, trivial⟩
 ·intro fv x2 hb1 hv hne hsp
  have e0 : fv 0 = _ := hv 0 (by omega)
  obtain ⟨q1, -⟩ : PO x (fv 1) x2 := hv 1 (by omega)
  obtain ⟨g1, g1c, e1⟩ := ptn_form q1 lx.out
  have e2 : fv 2 = _ := hv 2 (by omega)
  obtain ⟨q3, -⟩ : PO y (fv 3) x2 := hv 3 (by omega)
  obtain ⟨g2, g2c, e3⟩ := ptn_form q3 ly.out
  have e4 : fv 4 = _ := hv 4 (by omega)
  have e5 : fv 5 = _ := hv 5 (by omega)
  obtain ⟨kb6, e6, n6, m6⟩ : NewB x1.heap.size [.int .u64 0, .string ⟨#[]⟩, .bool false, .int .u64 0, .string ⟨#[]⟩] (fv 6) x2 := hv 6 (by omega)
  have s1 : ∀ g, (fv 1).ownBlock = some g → g ≠ kb6 := fun g hg e => hsp 6 1 (by omega) (by omega) rfl rfl g hg (by rw [e6, e])
  have s3 : ∀ g, (fv 3).ownBlock = some g → g ≠ kb6 := fun g hg e => hsp 6 3 (by omega) (by omega) rfl rfl g hg (by rw [e6, e])
  rw [e1] at q1 s1
  rw [e3] at q3 s3
  simp only [List.take_succ_cons, List.take_zero, putsV, Act.put, List.setIfInBounds_toArray, List.set_cons_succ, List.set_cons_zero, List.drop_succ_cons, List.drop_zero, Nat.zero_add, Nat.reduceAdd, e0, e1, e2, e3, e4, e5, e6]
  have hx0 := hL0
  replace hL0 := hL0.call (below_drew hb1)
  replace hT := hT.call (below_drew hb1)
  replace hL0 := GL.tnew (M := []) hL0 hx0 n6 m6 (fun p hp => by cases hp)
  simp only [List.cons_append, List.nil_append] at hL0
  replace hT := (hT.cons q1).cons q3
  have hsS : ∀ p ∈ ([(.slice g2 m g2c, y), (.slice g1 l g1c, x)] : List (Value × List Rat)), ∀ g, p.1.ownBlock = some g → g ≠ kb6 := by
   intro p hp
   rcases List.mem_cons.1 hp with rfl | hp
   ·exact s3
   ·rw [List.mem_singleton.1 hp]; exact s1
  have hT1 := hT.putS ((((((Upd.refl kb6 x2).setCell 0 (.int .u64 ((zl c.num : Nat) : Int))).setCell 1 (.string (zh c.num))).setCell 2 (.bool (zs c.num))).setCell 3 (.int .u64 ((lo (fe c) : Nat) : Int))).setCell 4 (.string (hs (fe c)))) hsS
  have hA := hL0.fc
  simp only [fcG, cellsF, neK, and_true, ne_eq, Nat.zero_add, Nat.reduceAdd] at hA
  have hP := hL0.put 0 (kb6) _ rfl [.int .u64 ((zl c.num : Nat) : Int), .string (zh c.num), .bool (zs c.num), .int .u64 ((lo (fe c) : Nat) : Int), .string (hs (fe c))] rfl
  simp only [setAll, List.set_cons_zero, List.set_cons_succ] at hP
  generalize hput1 : (((((x2.setCell ⟨kb6, 0, none⟩ (.int .u64 ((zl c.num : Nat) : Int))).setCell ⟨kb6, 1, none⟩ (.string (zh c.num))).setCell ⟨kb6, 2, none⟩ (.bool (zs c.num))).setCell ⟨kb6, 3, none⟩ (.int .u64 ((lo (fe c) : Nat) : Int))).setCell ⟨kb6, 4, none⟩ (.string (hs (fe c)))) = x3 at hP hT1
  have hB1 := hP.fc
  simp only [fcG, cellsF, neK, and_true, ne_eq, Nat.zero_add, Nat.reduceAdd] at hB1
  replace hL0 := hP
  replace hT := hT1
  clear hT1 hsS s1 s3 q1 q3 n6 m6 hx0 hne hsp hv hb1 e0 e1 e2 e3 e4 e5 e6 fv
  go_wp2_with fail
  clear hA
  with_reducible refine Calls.mono (HR.out (.slice g1 l g1c) (.slice g2 m g2c) _ (hT.get (List.mem_cons_of_mem _ List.mem_cons_self)) (hT.get List.mem_cons_self)) ?_
  rintro e x4 ⟨rfl, hb⟩
  replace hL0 := hL0.call hb
  replace hT := hT.call hb
  clear hb hput1 hB1
  have hN0 := cells_of _ 0 [] rfl (hL0.get _ _ List.mem_cons_self)
  simp only [cellsF, and_true, Nat.zero_add, Nat.reduceAdd] at hN0
  go_wp2_with fail
  clear hN0
  with_reducible refine Calls.mono (HNo.out (.slice g1 l g1c) (.slice g2 m g2c) _ (hT.get (List.mem_cons_of_mem _ List.mem_cons_self)) (hT.get List.mem_cons_self)) ?_
  rintro e x5 ⟨rfl, hb⟩
  replace hL0 := hL0.call hb
  replace hT := hT.call hb
  clear hb
  go_wp2_with fail
  with_reducible refine Calls.mono (HZ.out _) ?_
  rintro e x6 ⟨rfl, hb⟩
  replace hL0 := hL0.call hb
  replace hT := hT.call hb
  clear hb
  go_wp2_with fail
  with_reducible refine Calls.mono (HU.out _) ?_
  rintro e x7 ⟨rfl, hb⟩
  replace hL0 := hL0.call hb
  replace hT := hT.call hb
  clear hb
  go_upto_region 19 with fail
  obtain ⟨α, iα, F, hF1, hF2⟩ := cls x7
  refine region_cls (F := F) (by kernel_rfl) (lexB_of_fast (by kernel_rfl)) (cls_drew hF2) ?_
  repeat (go_big_quiet_step (first | fail | (go_at_call 34; with_reducible exact cls_call hF1 hF2 HI1.out _)))
  refine wpQuiet_nil ?_
  rintro wq ⟨xq, rfl⟩
  replace hL0 := hL0.call (hF1 xq)
  replace hT := hT.call (hF1 xq)
  clear  hF2
  generalize F xq = x8 at hL0 hT ⊢
  clear hF1 xq iα F α
  replace hT := (hT.new (.cells #[.int .i64 i] 3))
  replace hL0 := (hL0.new rfl [.int .i64 i] 3)
  generalize hweq : (x8.alloc (.cells #[.int .i64 i] 3)) = x9 at hL0 hT
  have hbv1 : ILs x9 (.slice (some ⟨x8.heap.size, 0, none⟩) 1 1) [i] := ils_at (hL0.get _ _ List.mem_cons_self) rfl rfl
  replace hbv1 := Lib.hid hbv1
  go_wp2_with fail
  with_reducible refine Calls.mono (HP.out (.slice g1 l g1c) (.slice (some ⟨x8.heap.size, 0, none⟩) 1 1) _ (hT.get (List.mem_cons_of_mem _ List.mem_cons_self)) hbv1.out) ?_
  rintro e x10 ⟨rfl, hb⟩
  replace hL0 := hL0.call hb
  replace hT := hT.call hb
  clear hb hweq
  go_upto_region 22 with fail
  have hd1 : ¬ (0 : Int) ≤ i := by omega
  have hd2 : decide ((0 : Int) ≤ i) = false := decide_eq_false hd1
  obtain ⟨α, iα, F, hF1, hF2⟩ := cls x10
  refine region_cls (F := F) (by kernel_rfl) (lexB_of_fast (by kernel_rfl)) (cls_drew hF2) ?_
  repeat (go_big_quiet_step (first | fail))
  refine wpQuiet_nil ?_
  rintro wq ⟨xq, rfl⟩
  replace hL0 := hL0.call (hF1 xq)
  replace hT := hT.call (hF1 xq)
  clear hd1 hd2 hF2
  generalize F xq = x11 at hL0 hT ⊢
  clear hF1 xq iα F α
  go_wp2_with fail
  with_reducible refine Calls.mono (HW.out _ (hKT.out.at hL0.bl kKT)) ?_
  rintro e x12 ⟨rfl, hb⟩
  replace hL0 := hL0.call hb
  replace hT := hT.call hb
  clear hb
  go_wp2_with fail
  exact bodyPost_ret (v := .bool true) (by simp [results, Tryz.results9, go_sem]) rfl ⟨rfl, hL0.bl⟩
set_option maxHeartbeats 16000000 in
set_option maxRecDepth 100000 in
theorem verr_1_big_low (al am : Option Addr) (nl cl nm cm l m : Nat) (n1 d1 : Int) (n : Int) (i : Int) (x y v u p : List Rat) (c one xi : Rat) (KL : World → Prop) (hKL : Keeps KL) (HVa : ∀ w, KL w → Calls Tryz.prog 14 #[.slice al nl cl] w fun e w' => ∃ pv, e = .returned pv ∧ PT w' pv x ∧ (∀ g, pv.ownBlock = some g → w.heap.size ≤ g ∧ g < w'.heap.size) ∧ Below w.heap.size w w') (KM : World → Prop) (hKM : Keeps KM) (HVb : ∀ w, KM w → Calls Tryz.prog 14 #[.slice am nm cm] w fun e w' => ∃ pv, e = .returned pv ∧ PT w' pv y ∧ (∀ g, pv.ownBlock = some g → w.heap.size ≤ g ∧ g < w'.heap.size) ∧ Below w.heap.size w w') (HQ : ∀ w, Calls Tryz.prog 15 #[.agg #[.int .i64 n1, .int .u32 d1]] w fun xe w' => xe = .returned (fracV c) ∧ Below w.heap.size w w') (HR : ∀ (p1 p2 : Value) (w : World), PT w p1 x → PT w p2 y → Calls Tryz.prog 48 #[fracV c, p1, p2] w fun e w' => e = .returned (.int .i64 1) ∧ Below w.heap.size w w') (HNo : ∀ (p1 p2 : Value) (w : World), PT w p1 x → PT w p2 y → Calls Tryz.prog 49 #[fracV c, p1, p2] w fun e w' => e = .returned (.bool true) ∧ Below w.heap.size w w') (HZ : ∀ w, Calls Tryz.prog 40 #[.int .i64 n] w fun xe w' => xe = .returned (.tuple #[.slice none 0 0, .int .i64 3]) ∧ Below w.heap.size w w') (HU : ∀ w, Calls Tryz.prog 47 #[.int .i64 n, .int .i64 i] w fun xe w' => xe = .returned (.tuple #[.slice none 0 0, .int .i64 3]) ∧ Below w.heap.size w w') (HP : ∀ (p0 p1 : Value) (w : World), PT w p0 x → ILs w p1 ([i]) → Calls Tryz.prog 39 #[p0, p1] w fun e w' => e = .returned (.tuple #[.slice none 0 0, .int .i64 1]) ∧ Below w.heap.size w w') (HI1 : ∀ w, Calls Tryz.prog 34 #[.int .i64 1] w fun xe w' => xe = .returned (fracV one) ∧ Below w.heap.size w w') (HMv : ∀ (p0 : Value) (w : World), PT w p0 v → Calls Tryz.prog 30 #[p0] w fun e w' => e = .returned (.agg #[.int .u64 0, .string ⟨#[]⟩, .bool false, .int .u64 0, .string ⟨#[]⟩]) ∧ Below w.heap.size w w') (KT : World → Prop) (hKT : Keeps KT) (HW : ∀ w, KT w → Calls Tryz.prog 12 #[] w fun xe w' => xe = .returned (.bool true) ∧ Below w.heap.size w w') (l_nl : decide ((20 : Int) < ((nl : Nat) : Int)) = false) (k_nl : decide (20 < nl) = false) (l_nm : decide ((20 : Int) < ((nm : Nat) : Int)) = false) (k_nm : decide (20 < nm) = false) (lx : x.length = l) (ly : y.length = m) (lv : v.length = 0) (lu : u.length = 0) (lp : p.length = 1) (hl1 : l ≤ 20) (hlm : ¬ ((l : Nat) : Int) = ((m : Nat) : Int)) (hlm2 : (((l : Nat) : Int) != ((m : Nat) : Int)) = true) (hlm3 : ¬ l = m) (hn : ¬ n < 0) (hn2 : 2048 < n) (hi : i < 0) (hi2 : ¬ 0 ≤ i) (w : World) (kKL : KL w) (kKM : KM w) (kKT : KT w) :
  Calls Tryz.prog 9 #[.agg #[.int .i64 n1, .int .u32 d1], .slice al nl cl, .slice am nm cm, .int .i64 n, .int .i64 i] w fun e w' => e = .returned (.bool true) ∧ Below w.heap.size w w' := by
 replace hKL := Lib.hid hKL
 replace HVa := Lib.hid HVa
 replace hKM := Lib.hid hKM
 replace HVb := Lib.hid HVb
 replace HQ := Lib.hid HQ
 replace HR := Lib.hid HR
 replace HNo := Lib.hid HNo
 replace HZ := Lib.hid HZ
 replace HU := Lib.hid HU
 replace HP := Lib.hid HP
 replace HI1 := Lib.hid HI1
 replace HMv := Lib.hid HMv
 replace hKT := Lib.hid hKT
 replace HW := Lib.hid HW
 have hL0 : GL w w [] := GL.start w
 have hT : PTs w [] := PTs.nil w
 replace lx := Lib.hid lx
 replace ly := Lib.hid ly
 replace lv := Lib.hid lv
 replace lu := Lib.hid lu
 replace lp := Lib.hid lp
 replace hT := (hT.new (.cells #[.int .i64 n1, .int .u32 d1] 24))
 replace hL0 := (hL0.new rfl [.int .i64 n1, .int .u32 d1] 24)
 generalize hweq : (w.alloc (.cells #[.int .i64 n1, .int .u32 d1] 24)) = x1 at hL0 hT
 go_enter Tryz.func9, Tryz.ntmps9
 have hN0 := cells_of _ 0 [] rfl (hL0.get _ _ List.mem_cons_self)
 simp only [cellsF, and_true, Nat.zero_add, Nat.reduceAdd] at hN0
 go_upto_region 3 with fail
 clear hN0
 clear hweq
 refine region_tfl 7 [EV (.slice al nl cl), PO x, EV (.slice am nm cm), PO y, EV (.agg #[.int .i64 n1, .int .u32 d1]), EV (fracV c), NewB x1.heap.size [.int .u64 0, .string ⟨#[]⟩, .bool false, .int .u64 0, .string ⟨#[]⟩]] [6] [1, 3] (by kernel_rfl) (by kernel_rfl) ?_ ?_ ?_ ?_ ?_ ?_
 ·exact stays_cons (stays_eq _) (stays_cons (stays_po _) (stays_cons (stays_eq _) (stays_cons (stays_po _) (stays_cons (stays_eq _) (stays_cons (stays_eq _) (stays_cons (stays_new _ _) stays_nil))))))
 ·simp only [List.take_succ_cons, List.take_zero, hopsRF, and_true]
  refine ⟨?_, ?_, ?_, ?_, ?_, ?_, ?_⟩ <;> intro fv w1 hb1 hp
  all_goals (simp only [putsV, Act.put, List.setIfInBounds_toArray, List.set_cons_succ, List.set_cons_zero, Nat.zero_add, Nat.reduceAdd])
  ·refine fr_no rfl (tyAt_none rfl ?_)
   simp [tyUpon, execOp, go_sem, Act.eval, Below.refl]
  ·have h0 : EV _ (fv 0) w1 := hp 0 (LC (by kernel_rfl))
   refine tyAt_none rfl ?_
   refine ty_call (f := 14) (args := #[.slice al nl cl]) (by simp [execOp, go_sem, Act.eval, h0]) ?_
   exact (HVa.out w1 (hKL.out.at ((hL0.call (below_drew hb1)).bl) kKL)).mono fun e w2 ⟨pv, h1, h2, h3, h4⟩ => ⟨pv, h1, ⟨⟨h2, fun g hg => (h3 g hg).2⟩, fun _ g hg => (h3 g hg).1⟩, h4⟩
  ·refine fr_no rfl (tyAt_none rfl ?_)
   simp [tyUpon, execOp, go_sem, Act.eval, Below.refl]
  ·have h2 : EV _ (fv 2) w1 := hp 2 (LC (by kernel_rfl))
   refine tyAt_none rfl ?_
   refine ty_call (f := 14) (args := #[.slice am nm cm]) (by simp [execOp, go_sem, Act.eval, h2]) ?_
   exact (HVb.out w1 (hKM.out.at ((hL0.call (below_drew hb1)).bl) kKM)).mono fun e w2 ⟨pv, h1, h2, h3, h4⟩ => ⟨pv, h1, ⟨⟨h2, fun g hg => (h3 g hg).2⟩, fun _ g hg => (h3 g hg).1⟩, h4⟩
  ·refine fr_no rfl (tyAt_none rfl ?_)
   have hc := (hL0.call (below_drew hb1)).fc
   simp only [fcG, cellsF, neK, and_true, ne_eq, Nat.zero_add, Nat.reduceAdd] at hc
   simp [tyUpon, execOp, go_sem, Act.eval, hc, Below.refl]
  ·have h4 : EV _ (fv 4) w1 := hp 4 (LC (by kernel_rfl))
   refine fr_no rfl (tyAt_none rfl ?_)
   refine ty_call (f := 15) (args := #[.agg #[.int .i64 n1, .int .u32 d1]]) (by simp [execOp, go_sem, Act.eval, h4]) ?_
   exact (HQ.out w1).mono fun e w2 ⟨h1, h2⟩ => ⟨_, h1, rfl, h2⟩
  ·exact fr_no rfl (tyAt_new rfl rfl new_frac (below_drew hb1).size)
 ·intro j hj u w2 hT2
  simp only [List.contains_iff_mem, List.mem_cons, List.not_mem_nil, or_false] at hj
  rcases hj with rfl
  exact NewB.ptr hT2
 ·intro j hj u w2 hT2
  simp only [List.contains_iff_mem, List.mem_cons, List.not_mem_nil, or_false] at hj
  rcases hj with rfl | rfl <;> exact hT2.2
 ·exact ⟨⟨_, _, _, _, rfl, rfl, rfl, new_frac⟩, trivial⟩
 ·intro fv x2 hb1 hv hne hsp
  have e0 : fv 0 = _ := hv 0 (by omega)
  obtain ⟨q1, -⟩ : PO x (fv 1) x2 := hv 1 (by omega)
  obtain ⟨g1, g1c, e1⟩ := ptn_form q1 lx.out
  have e2 : fv 2 = _ := hv 2 (by omega)
  obtain ⟨q3, -⟩ : PO y (fv 3) x2 := hv 3 (by omega)
  obtain ⟨g2, g2c, e3⟩ := ptn_form q3 ly.out
  have e4 : fv 4 = _ := hv 4 (by omega)
  have e5 : fv 5 = _ := hv 5 (by omega)
  obtain ⟨kb6, e6, n6, m6⟩ : NewB x1.heap.size [.int .u64 0, .string ⟨#[]⟩, .bool false, .int .u64 0, .string ⟨#[]⟩] (fv 6) x2 := hv 6 (by omega)
  have s1 : ∀ g, (fv 1).ownBlock = some g → g ≠ kb6 := fun g hg e => hsp 6 1 (by omega) (by omega) rfl rfl g hg (by rw [e6, e])
  have s3 : ∀ g, (fv 3).ownBlock = some g → g ≠ kb6 := fun g hg e => hsp 6 3 (by omega) (by omega) rfl rfl g hg (by rw [e6, e])
  rw [e1] at q1 s1
  rw [e3] at q3 s3
  simp only [List.take_succ_cons, List.take_zero, putsV, Act.put, List.setIfInBounds_toArray, List.set_cons_succ, List.set_cons_zero, List.drop_succ_cons, List.drop_zero, Nat.zero_add, Nat.reduceAdd, e0, e1, e2, e3, e4, e5, e6]
  have hx0 := hL0
  replace hL0 := hL0.call (below_drew hb1)
  replace hT := hT.call (below_drew hb1)
  replace hL0 := GL.tnew (M := []) hL0 hx0 n6 m6 (fun p hp => by cases hp)
  simp only [List.cons_append, List.nil_append] at hL0
  replace hT := (hT.cons q1).cons q3
  have hsS : ∀ p ∈ ([(.slice g2 m g2c, y), (.slice g1 l g1c, x)] : List (Value × List Rat)), ∀ g, p.1.ownBlock = some g → g ≠ kb6 := by
   intro p hp
   rcases List.mem_cons.1 hp with rfl | hp
   ·exact s3
   ·rw [List.mem_singleton.1 hp]; exact s1
  have hT1 := hT.putS ((((((Upd.refl kb6 x2).setCell 0 (.int .u64 ((zl c.num : Nat) : Int))).setCell 1 (.string (zh c.num))).setCell 2 (.bool (zs c.num))).setCell 3 (.int .u64 ((lo (fe c) : Nat) : Int))).setCell 4 (.string (hs (fe c)))) hsS
  have hA := hL0.fc
  simp only [fcG, cellsF, neK, and_true, ne_eq, Nat.zero_add, Nat.reduceAdd] at hA
  have hP := hL0.put 0 (kb6) _ rfl [.int .u64 ((zl c.num : Nat) : Int), .string (zh c.num), .bool (zs c.num), .int .u64 ((lo (fe c) : Nat) : Int), .string (hs (fe c))] rfl
  simp only [setAll, List.set_cons_zero, List.set_cons_succ] at hP
  generalize hput1 : (((((x2.setCell ⟨kb6, 0, none⟩ (.int .u64 ((zl c.num : Nat) : Int))).setCell ⟨kb6, 1, none⟩ (.string (zh c.num))).setCell ⟨kb6, 2, none⟩ (.bool (zs c.num))).setCell ⟨kb6, 3, none⟩ (.int .u64 ((lo (fe c) : Nat) : Int))).setCell ⟨kb6, 4, none⟩ (.string (hs (fe c)))) = x3 at hP hT1
  have hB1 := hP.fc
  simp only [fcG, cellsF, neK, and_true, ne_eq, Nat.zero_add, Nat.reduceAdd] at hB1
  replace hL0 := hP
  replace hT := hT1
  clear hT1 hsS s1 s3 q1 q3 n6 m6 hx0 hne hsp hv hb1 e0 e1 e2 e3 e4 e5 e6 fv
  go_wp2_with fail
  clear hA
  with_reducible refine Calls.mono (HR.out (.slice g1 l g1c) (.slice g2 m g2c) _ (hT.get (List.mem_cons_of_mem _ List.mem_cons_self)) (hT.get List.mem_cons_self)) ?_
  rintro e x4 ⟨rfl, hb⟩
  replace hL0 := hL0.call hb
  replace hT := hT.call hb
  clear hb hput1 hB1
  have hN0 := cells_of _ 0 [] rfl (hL0.get _ _ List.mem_cons_self)
  simp only [cellsF, and_true, Nat.zero_add, Nat.reduceAdd] at hN0
  go_wp2_with fail
  clear hN0
  with_reducible refine Calls.mono (HNo.out (.slice g1 l g1c) (.slice g2 m g2c) _ (hT.get (List.mem_cons_of_mem _ List.mem_cons_self)) (hT.get List.mem_cons_self)) ?_
  rintro e x5 ⟨rfl, hb⟩
  replace hL0 := hL0.call hb
  replace hT := hT.call hb
  clear hb
  go_wp2_with fail
  with_reducible refine Calls.mono (HZ.out _) ?_
  rintro e x6 ⟨rfl, hb⟩
  replace hL0 := hL0.call hb
  replace hT := hT.call hb
  clear hb
  go_wp2_with fail
  with_reducible refine Calls.mono (HU.out _) ?_
  rintro e x7 ⟨rfl, hb⟩
  replace hL0 := hL0.call hb
  replace hT := hT.call hb
  clear hb
  go_upto_region 19 with fail
  obtain ⟨α, iα, F, hF1, hF2⟩ := cls x7
  refine region_cls (F := F) (by kernel_rfl) (lexB_of_fast (by kernel_rfl)) (cls_drew hF2) ?_
  repeat (go_big_quiet_step (first | fail | (go_at_call 34; with_reducible exact cls_call hF1 hF2 HI1.out _)))
  refine wpQuiet_nil ?_
  rintro wq ⟨xq, rfl⟩
  replace hL0 := hL0.call (hF1 xq)
  replace hT := hT.call (hF1 xq)
  clear  hF2
  generalize F xq = x8 at hL0 hT ⊢
  clear hF1 xq iα F α
  replace hT := (hT.new (.cells #[.int .i64 i] 3))
  replace hL0 := (hL0.new rfl [.int .i64 i] 3)
  generalize hweq : (x8.alloc (.cells #[.int .i64 i] 3)) = x9 at hL0 hT
  have hbv1 : ILs x9 (.slice (some ⟨x8.heap.size, 0, none⟩) 1 1) [i] := ils_at (hL0.get _ _ List.mem_cons_self) rfl rfl
  replace hbv1 := Lib.hid hbv1
  go_wp2_with fail
  with_reducible refine Calls.mono (HP.out (.slice g1 l g1c) (.slice (some ⟨x8.heap.size, 0, none⟩) 1 1) _ (hT.get (List.mem_cons_of_mem _ List.mem_cons_self)) hbv1.out) ?_
  rintro e x10 ⟨rfl, hb⟩
  replace hL0 := hL0.call hb
  replace hT := hT.call hb
  clear hb hweq
  go_upto_region 22 with fail
  have hd1 : ¬ (0 : Int) ≤ i := by omega
  have hd2 : decide ((0 : Int) ≤ i) = false := decide_eq_false hd1
  obtain ⟨α, iα, F, hF1, hF2⟩ := cls x10
  refine region_cls (F := F) (by kernel_rfl) (lexB_of_fast (by kernel_rfl)) (cls_drew hF2) ?_
  repeat (go_big_quiet_step (first | fail))
  refine wpQuiet_nil ?_
  rintro wq ⟨xq, rfl⟩
  replace hL0 := hL0.call (hF1 xq)
  replace hT := hT.call (hF1 xq)
  clear hd1 hd2 hF2
  generalize F xq = x11 at hL0 hT ⊢
  clear hF1 xq iα F α
  go_wp2_with fail
  with_reducible refine Calls.mono (HW.out _ (hKT.out.at hL0.bl kKT)) ?_
  rintro e x12 ⟨rfl, hb⟩
  replace hL0 := hL0.call hb
  replace hT := hT.call hb
  clear hb
  go_wp2_with fail
  exact bodyPost_ret (v := .bool true) (by simp [results, Tryz.results9, go_sem]) rfl ⟨rfl, hL0.bl⟩
set_option maxHeartbeats 16000000 in
set_option maxRecDepth 100000 in
theorem verr_1_low_low (al am : Option Addr) (nl cl nm cm l m : Nat) (n1 d1 : Int) (n : Nat) (i : Int) (x y v u p : List Rat) (c one xi : Rat) (KL : World → Prop) (hKL : Keeps KL) (HVa : ∀ w, KL w → Calls Tryz.prog 14 #[.slice al nl cl] w fun e w' => ∃ pv, e = .returned pv ∧ PT w' pv x ∧ (∀ g, pv.ownBlock = some g → w.heap.size ≤ g ∧ g < w'.heap.size) ∧ Below w.heap.size w w') (KM : World → Prop) (hKM : Keeps KM) (HVb : ∀ w, KM w → Calls Tryz.prog 14 #[.slice am nm cm] w fun e w' => ∃ pv, e = .returned pv ∧ PT w' pv y ∧ (∀ g, pv.ownBlock = some g → w.heap.size ≤ g ∧ g < w'.heap.size) ∧ Below w.heap.size w w') (HQ : ∀ w, Calls Tryz.prog 15 #[.agg #[.int .i64 n1, .int .u32 d1]] w fun xe w' => xe = .returned (fracV c) ∧ Below w.heap.size w w') (HR : ∀ (p1 p2 : Value) (w : World), PT w p1 x → PT w p2 y → Calls Tryz.prog 48 #[fracV c, p1, p2] w fun e w' => e = .returned (.int .i64 1) ∧ Below w.heap.size w w') (HNo : ∀ (p1 p2 : Value) (w : World), PT w p1 x → PT w p2 y → Calls Tryz.prog 49 #[fracV c, p1, p2] w fun e w' => e = .returned (.bool true) ∧ Below w.heap.size w w') (HZ : ∀ (w : World), Calls Tryz.prog 40 #[.int .i64 (n : Int)] w fun e w' => ∃ pv, e = .returned (.tuple #[pv, .int .i64 0]) ∧ PT w' pv v ∧ Below w.heap.size w w') (HU : ∀ w, Calls Tryz.prog 47 #[.int .i64 (n : Int), .int .i64 i] w fun xe w' => xe = .returned (.tuple #[.slice none 0 0, .int .i64 1]) ∧ Below w.heap.size w w') (HP : ∀ (p0 p1 : Value) (w : World), PT w p0 x → ILs w p1 ([i]) → Calls Tryz.prog 39 #[p0, p1] w fun e w' => e = .returned (.tuple #[.slice none 0 0, .int .i64 1]) ∧ Below w.heap.size w w') (HI1 : ∀ w, Calls Tryz.prog 34 #[.int .i64 1] w fun xe w' => xe = .returned (fracV one) ∧ Below w.heap.size w w') (HMv : ∀ (p0 : Value) (w : World), PT w p0 v → Calls Tryz.prog 30 #[p0] w fun e w' => e = .returned (.agg #[.int .u64 0, .string ⟨#[]⟩, .bool false, .int .u64 0, .string ⟨#[]⟩]) ∧ Below w.heap.size w w') (KT : World → Prop) (hKT : Keeps KT) (HW : ∀ w, KT w → Calls Tryz.prog 12 #[] w fun xe w' => xe = .returned (.bool true) ∧ Below w.heap.size w w') (l_nl : decide ((20 : Int) < ((nl : Nat) : Int)) = false) (k_nl : decide (20 < nl) = false) (l_nm : decide ((20 : Int) < ((nm : Nat) : Int)) = false) (k_nm : decide (20 < nm) = false) (lx : x.length = l) (ly : y.length = m) (lv : v.length = n) (lu : u.length = 0) (lp : p.length = 1) (hl1 : l ≤ 20) (hlm : ¬ ((l : Nat) : Int) = ((m : Nat) : Int)) (hlm2 : (((l : Nat) : Int) != ((m : Nat) : Int)) = true) (hlm3 : ¬ l = m) (hn : ¬ ((n : Nat) : Int) < 0) (hn2 : ¬ (2048 : Int) < ((n : Nat) : Int)) (hn3 : n ≤ 2048) (hn4 : ((n : Nat) : Int) ≤ 2048) (hi : i < 0) (hi2 : ¬ 0 ≤ i) (w : World) (kKL : KL w) (kKM : KM w) (kKT : KT w) :
  Calls Tryz.prog 9 #[.agg #[.int .i64 n1, .int .u32 d1], .slice al nl cl, .slice am nm cm, .int .i64 (n : Int), .int .i64 i] w fun e w' => e = .returned (.bool true) ∧ Below w.heap.size w w' := by
 replace hKL := Lib.hid hKL
 replace HVa := Lib.hid HVa
 replace hKM := Lib.hid hKM
 replace HVb := Lib.hid HVb
 replace HQ := Lib.hid HQ
 replace HR := Lib.hid HR
 replace HNo := Lib.hid HNo
 replace HZ := Lib.hid HZ
 replace HU := Lib.hid HU
 replace HP := Lib.hid HP
 replace HI1 := Lib.hid HI1
 replace HMv := Lib.hid HMv
 replace hKT := Lib.hid hKT
 replace HW := Lib.hid HW
 have hL0 : GL w w [] := GL.start w
 have hT : PTs w [] := PTs.nil w
 replace lx := Lib.hid lx
 replace ly := Lib.hid ly
 replace lv := Lib.hid lv
 replace lu := Lib.hid lu
 replace lp := Lib.hid lp
 replace hT := (hT.new (.cells #[.int .i64 n1, .int .u32 d1] 24))
 replace hL0 := (hL0.new rfl [.int .i64 n1, .int .u32 d1] 24)
 generalize hweq : (w.alloc (.cells #[.int .i64 n1, .int .u32 d1] 24)) = x1 at hL0 hT
 go_enter Tryz.func9, Tryz.ntmps9
 have hN0 := cells_of _ 0 [] rfl (hL0.get _ _ List.mem_cons_self)
 simp only [cellsF, and_true, Nat.zero_add, Nat.reduceAdd] at hN0
 go_upto_region 3 with fail
 clear hN0
 clear hweq
 refine region_tfl 7 [EV (.slice al nl cl), PO x, EV (.slice am nm cm), PO y, EV (.agg #[.int .i64 n1, .int .u32 d1]), EV (fracV c), NewB x1.heap.size [.int .u64 0, .string ⟨#[]⟩, .bool false, .int .u64 0, .string ⟨#[]⟩]] [6] [1, 3] (by kernel_rfl) (by kernel_rfl) ?_ ?_ ?_ ?_ ?_ ?_
 ·exact stays_cons (stays_eq _) (stays_cons (stays_po _) (stays_cons (stays_eq _) (stays_cons (stays_po _) (stays_cons (stays_eq _) (stays_cons (stays_eq _) (stays_cons (stays_new _ _) stays_nil))))))
 ·simp only [List.take_succ_cons, List.take_zero, hopsRF, and_true]
  refine ⟨?_, ?_, ?_, ?_, ?_, ?_, ?_⟩ <;> intro fv w1 hb1 hp
  all_goals (simp only [putsV, Act.put, List.setIfInBounds_toArray, List.set_cons_succ, List.set_cons_zero, Nat.zero_add, Nat.reduceAdd])
  ·refine fr_no rfl (tyAt_none rfl ?_)
   simp [tyUpon, execOp, go_sem, Act.eval, Below.refl]
  ·have h0 : EV _ (fv 0) w1 := hp 0 (LC (by kernel_rfl))
   refine tyAt_none rfl ?_
   refine ty_call (f := 14) (args := #[.slice al nl cl]) (by simp [execOp, go_sem, Act.eval, h0]) ?_
   exact (HVa.out w1 (hKL.out.at ((hL0.call (below_drew hb1)).bl) kKL)).mono fun e w2 ⟨pv, h1, h2, h3, h4⟩ => ⟨pv, h1, ⟨⟨h2, fun g hg => (h3 g hg).2⟩, fun _ g hg => (h3 g hg).1⟩, h4⟩
  ·refine fr_no rfl (tyAt_none rfl ?_)
   simp [tyUpon, execOp, go_sem, Act.eval, Below.refl]
  ·have h2 : EV _ (fv 2) w1 := hp 2 (LC (by kernel_rfl))
   refine tyAt_none rfl ?_
   refine ty_call (f := 14) (args := #[.slice am nm cm]) (by simp [execOp, go_sem, Act.eval, h2]) ?_
   exact (HVb.out w1 (hKM.out.at ((hL0.call (below_drew hb1)).bl) kKM)).mono fun e w2 ⟨pv, h1, h2, h3, h4⟩ => ⟨pv, h1, ⟨⟨h2, fun g hg => (h3 g hg).2⟩, fun _ g hg => (h3 g hg).1⟩, h4⟩
  ·refine fr_no rfl (tyAt_none rfl ?_)
   have hc := (hL0.call (below_drew hb1)).fc
   simp only [fcG, cellsF, neK, and_true, ne_eq, Nat.zero_add, Nat.reduceAdd] at hc
   simp [tyUpon, execOp, go_sem, Act.eval, hc, Below.refl]
  ·have h4 : EV _ (fv 4) w1 := hp 4 (LC (by kernel_rfl))
   refine fr_no rfl (tyAt_none rfl ?_)
   refine ty_call (f := 15) (args := #[.agg #[.int .i64 n1, .int .u32 d1]]) (by simp [execOp, go_sem, Act.eval, h4]) ?_
   exact (HQ.out w1).mono fun e w2 ⟨h1, h2⟩ => ⟨_, h1, rfl, h2⟩
  ·exact fr_no rfl (tyAt_new rfl rfl new_frac (below_drew hb1).size)
 ·intro j hj u w2 hT2
  simp only [List.contains_iff_mem, List.mem_cons, List.not_mem_nil, or_false] at hj
  rcases hj with rfl
  exact NewB.ptr hT2
 ·intro j hj u w2 hT2
  simp only [List.contains_iff_mem, List.mem_cons, List.not_mem_nil, or_false] at hj
  rcases hj with rfl | rfl <;> exact hT2.2
 ·exact ⟨⟨_, _, _, _, rfl, rfl, rfl, new_frac⟩, trivial⟩
 ·intro fv x2 hb1 hv hne hsp
  have e0 : fv 0 = _ := hv 0 (by omega)
  obtain ⟨q1, -⟩ : PO x (fv 1) x2 := hv 1 (by omega)
  obtain ⟨g1, g1c, e1⟩ := ptn_form q1 lx.out
  have e2 : fv 2 = _ := hv 2 (by omega)
  obtain ⟨q3, -⟩ : PO y (fv 3) x2 := hv 3 (by omega)
  obtain ⟨g2, g2c, e3⟩ := ptn_form q3 ly.out
  have e4 : fv 4 = _ := hv 4 (by omega)
  have e5 : fv 5 = _ := hv 5 (by omega)
  obtain ⟨kb6, e6, n6, m6⟩ : NewB x1.heap.size [.int .u64 0, .string ⟨#[]⟩, .bool false, .int .u64 0, .string ⟨#[]⟩] (fv 6) x2 := hv 6 (by omega)
  have s1 : ∀ g, (fv 1).ownBlock = some g → g ≠ kb6 := fun g hg e => hsp 6 1 (by omega) (by omega) rfl rfl g hg (by rw [e6, e])
  have s3 : ∀ g, (fv 3).ownBlock = some g → g ≠ kb6 := fun g hg e => hsp 6 3 (by omega) (by omega) rfl rfl g hg (by rw [e6, e])
  rw [e1] at q1 s1
  rw [e3] at q3 s3
  simp only [List.take_succ_cons, List.take_zero, putsV, Act.put, List.setIfInBounds_toArray, List.set_cons_succ, List.set_cons_zero, List.drop_succ_cons, List.drop_zero, Nat.zero_add, Nat.reduceAdd, e0, e1, e2, e3, e4, e5, e6]
  have hx0 := hL0
  replace hL0 := hL0.call (below_drew hb1)
  replace hT := hT.call (below_drew hb1)
  replace hL0 := GL.tnew (M := []) hL0 hx0 n6 m6 (fun p hp => by cases hp)
  simp only [List.cons_append, List.nil_append] at hL0
  replace hT := (hT.cons q1).cons q3
  have hsS : ∀ p ∈ ([(.slice g2 m g2c, y), (.slice g1 l g1c, x)] : List (Value × List Rat)), ∀ g, p.1.ownBlock = some g → g ≠ kb6 := by
   intro p hp
   rcases List.mem_cons.1 hp with rfl | hp
   ·exact s3
   ·rw [List.mem_singleton.1 hp]; exact s1
  have hT1 := hT.putS ((((((Upd.refl kb6 x2).setCell 0 (.int .u64 ((zl c.num : Nat) : Int))).setCell 1 (.string (zh c.num))).setCell 2 (.bool (zs c.num))).setCell 3 (.int .u64 ((lo (fe c) : Nat) : Int))).setCell 4 (.string (hs (fe c)))) hsS
  have hA := hL0.fc
  simp only [fcG, cellsF, neK, and_true, ne_eq, Nat.zero_add, Nat.reduceAdd] at hA
  have hP := hL0.put 0 (kb6) _ rfl [.int .u64 ((zl c.num : Nat) : Int), .string (zh c.num), .bool (zs c.num), .int .u64 ((lo (fe c) : Nat) : Int), .string (hs (fe c))] rfl
  simp only [setAll, List.set_cons_zero, List.set_cons_succ] at hP
  generalize hput1 : (((((x2.setCell ⟨kb6, 0, none⟩ (.int .u64 ((zl c.num : Nat) : Int))).setCell ⟨kb6, 1, none⟩ (.string (zh c.num))).setCell ⟨kb6, 2, none⟩ (.bool (zs c.num))).setCell ⟨kb6, 3, none⟩ (.int .u64 ((lo (fe c) : Nat) : Int))).setCell ⟨kb6, 4, none⟩ (.string (hs (fe c)))) = x3 at hP hT1
  have hB1 := hP.fc
  simp only [fcG, cellsF, neK, and_true, ne_eq, Nat.zero_add, Nat.reduceAdd] at hB1
  replace hL0 := hP
  replace hT := hT1
  clear hT1 hsS s1 s3 q1 q3 n6 m6 hx0 hne hsp hv hb1 e0 e1 e2 e3 e4 e5 e6 fv
  go_wp2_with fail
  clear hA
  with_reducible refine Calls.mono (HR.out (.slice g1 l g1c) (.slice g2 m g2c) _ (hT.get (List.mem_cons_of_mem _ List.mem_cons_self)) (hT.get List.mem_cons_self)) ?_
  rintro e x4 ⟨rfl, hb⟩
  replace hL0 := hL0.call hb
  replace hT := hT.call hb
  clear hb hput1 hB1
  have hN0 := cells_of _ 0 [] rfl (hL0.get _ _ List.mem_cons_self)
  simp only [cellsF, and_true, Nat.zero_add, Nat.reduceAdd] at hN0
  go_wp2_with fail
  clear hN0
  with_reducible refine Calls.mono (HNo.out (.slice g1 l g1c) (.slice g2 m g2c) _ (hT.get (List.mem_cons_of_mem _ List.mem_cons_self)) (hT.get List.mem_cons_self)) ?_
  rintro e x5 ⟨rfl, hb⟩
  replace hL0 := hL0.call hb
  replace hT := hT.call hb
  clear hb
  go_wp2_with fail
  with_reducible refine Calls.mono (HZ.out _) ?_
  rintro e x6 ⟨v0, rfl, q0, hb⟩
  replace hL0 := hL0.call hb
  replace hT := hT.call hb
  clear hb
  obtain ⟨g3, g3c, rfl⟩ := ptn_form q0 lv.out
  replace hT := hT.cons q0
  clear q0
  go_wp2_with fail
  with_reducible refine Calls.mono (HU.out _) ?_
  rintro e x7 ⟨rfl, hb⟩
  replace hL0 := hL0.call hb
  replace hT := hT.call hb
  clear hb
  go_upto_region 19 with fail
  have hkv := hT.get List.mem_cons_self
  replace hkv := Lib.hid hkv
  obtain ⟨α, iα, F, hF1, hF2⟩ := cls x7
  refine region_cls (F := F) (by kernel_rfl) (lexB_of_fast (by kernel_rfl)) (cls_drew hF2) ?_
  repeat (go_big_quiet_step (first | fail | (go_at_call 34; with_reducible exact cls_call hF1 hF2 HI1.out _) | (go_at_call 30; with_reducible exact cls_callK (SlQ.keeps _ _) hF1 hF2 hkv.out (fun w h => HMv.out _ w h) _)))
  refine wpQuiet_nil ?_
  rintro wq ⟨xq, rfl⟩
  replace hL0 := hL0.call (hF1 xq)
  replace hT := hT.call (hF1 xq)
  clear hkv hF2
  generalize F xq = x8 at hL0 hT ⊢
  clear hF1 xq iα F α
  replace hT := (hT.new (.cells #[.int .i64 i] 3))
  replace hL0 := (hL0.new rfl [.int .i64 i] 3)
  generalize hweq : (x8.alloc (.cells #[.int .i64 i] 3)) = x9 at hL0 hT
  have hbv1 : ILs x9 (.slice (some ⟨x8.heap.size, 0, none⟩) 1 1) [i] := ils_at (hL0.get _ _ List.mem_cons_self) rfl rfl
  replace hbv1 := Lib.hid hbv1
  go_wp2_with fail
  with_reducible refine Calls.mono (HP.out (.slice g1 l g1c) (.slice (some ⟨x8.heap.size, 0, none⟩) 1 1) _ (hT.get (List.mem_cons_of_mem _ (List.mem_cons_of_mem _ List.mem_cons_self))) hbv1.out) ?_
  rintro e x10 ⟨rfl, hb⟩
  replace hL0 := hL0.call hb
  replace hT := hT.call hb
  clear hb hweq
  go_upto_region 22 with fail
  have hd1 : ¬ (0 : Int) ≤ i := by omega
  have hd2 : decide ((0 : Int) ≤ i) = false := decide_eq_false hd1
  obtain ⟨α, iα, F, hF1, hF2⟩ := cls x10
  refine region_cls (F := F) (by kernel_rfl) (lexB_of_fast (by kernel_rfl)) (cls_drew hF2) ?_
  repeat (go_big_quiet_step (first | fail))
  refine wpQuiet_nil ?_
  rintro wq ⟨xq, rfl⟩
  replace hL0 := hL0.call (hF1 xq)
  replace hT := hT.call (hF1 xq)
  clear hd1 hd2 hF2
  generalize F xq = x11 at hL0 hT ⊢
  clear hF1 xq iα F α
  go_wp2_with fail
  with_reducible refine Calls.mono (HW.out _ (hKT.out.at hL0.bl kKT)) ?_
  rintro e x12 ⟨rfl, hb⟩
  replace hL0 := hL0.call hb
  replace hT := hT.call hb
  clear hb
  go_wp2_with fail
  exact bodyPost_ret (v := .bool true) (by simp [results, Tryz.results9, go_sem]) rfl ⟨rfl, hL0.bl⟩
set_option maxHeartbeats 16000000 in
set_option maxRecDepth 100000 in
theorem verr_1_neg_in (al am : Option Addr) (nl cl nm cm l m : Nat) (n1 d1 : Int) (n : Int) (i : Nat) (x y v u p : List Rat) (c one xi : Rat) (KL : World → Prop) (hKL : Keeps KL) (HVa : ∀ w, KL w → Calls Tryz.prog 14 #[.slice al nl cl] w fun e w' => ∃ pv, e = .returned pv ∧ PT w' pv x ∧ (∀ g, pv.ownBlock = some g → w.heap.size ≤ g ∧ g < w'.heap.size) ∧ Below w.heap.size w w') (KM : World → Prop) (hKM : Keeps KM) (HVb : ∀ w, KM w → Calls Tryz.prog 14 #[.slice am nm cm] w fun e w' => ∃ pv, e = .returned pv ∧ PT w' pv y ∧ (∀ g, pv.ownBlock = some g → w.heap.size ≤ g ∧ g < w'.heap.size) ∧ Below w.heap.size w w') (HQ : ∀ w, Calls Tryz.prog 15 #[.agg #[.int .i64 n1, .int .u32 d1]] w fun xe w' => xe = .returned (fracV c) ∧ Below w.heap.size w w') (HR : ∀ (p1 p2 : Value) (w : World), PT w p1 x → PT w p2 y → Calls Tryz.prog 48 #[fracV c, p1, p2] w fun e w' => e = .returned (.int .i64 1) ∧ Below w.heap.size w w') (HNo : ∀ (p1 p2 : Value) (w : World), PT w p1 x → PT w p2 y → Calls Tryz.prog 49 #[fracV c, p1, p2] w fun e w' => e = .returned (.bool true) ∧ Below w.heap.size w w') (HZ : ∀ w, Calls Tryz.prog 40 #[.int .i64 n] w fun xe w' => xe = .returned (.tuple #[.slice none 0 0, .int .i64 1]) ∧ Below w.heap.size w w') (HU : ∀ w, Calls Tryz.prog 47 #[.int .i64 n, .int .i64 (i : Int)] w fun xe w' => xe = .returned (.tuple #[.slice none 0 0, .int .i64 1]) ∧ Below w.heap.size w w') (HP : ∀ (p0 p1 : Value) (w : World), PT w p0 x → ILs w p1 ([(i : Int)]) → Calls Tryz.prog 39 #[p0, p1] w fun e w' => ∃ pv, e = .returned (.tuple #[pv, .int .i64 0]) ∧ PT w' pv p ∧ Below w.heap.size w w') (HI1 : ∀ w, Calls Tryz.prog 34 #[.int .i64 1] w fun xe w' => xe = .returned (fracV one) ∧ Below w.heap.size w w') (HMv : ∀ (p0 : Value) (w : World), PT w p0 v → Calls Tryz.prog 30 #[p0] w fun e w' => e = .returned (.agg #[.int .u64 0, .string ⟨#[]⟩, .bool false, .int .u64 0, .string ⟨#[]⟩]) ∧ Below w.heap.size w w') (KT : World → Prop) (hKT : Keeps KT) (HW : ∀ w, KT w → Calls Tryz.prog 12 #[] w fun xe w' => xe = .returned (.bool true) ∧ Below w.heap.size w w') (l_nl : decide ((20 : Int) < ((nl : Nat) : Int)) = false) (k_nl : decide (20 < nl) = false) (l_nm : decide ((20 : Int) < ((nm : Nat) : Int)) = false) (k_nm : decide (20 < nm) = false) (lx : x.length = l) (ly : y.length = m) (lv : v.length = 0) (lu : u.length = 0) (lp : p.length = 1) (hl1 : l ≤ 20) (hlm : ¬ ((l : Nat) : Int) = ((m : Nat) : Int)) (hlm2 : (((l : Nat) : Int) != ((m : Nat) : Int)) = true) (hlm3 : ¬ l = m) (hn : n < 0) (hi : ¬ ((i : Nat) : Int) < 0) (hi2 : (0 : Int) ≤ ((i : Nat) : Int)) (hil : ((i : Nat) : Int) < ((l : Nat) : Int)) (hl0 : 0 < l) (hxi : gv x i = xi) (hpi : gv p 0 = xi) (w : World) (kKL : KL w) (kKM : KM w) (kKT : KT w) :
  Calls Tryz.prog 9 #[.agg #[.int .i64 n1, .int .u32 d1], .slice al nl cl, .slice am nm cm, .int .i64 n, .int .i64 (i : Int)] w fun e w' => e = .returned (.bool true) ∧ Below w.heap.size w w' := by
 replace hKL := Lib.hid hKL
 replace HVa := Lib.hid HVa
 replace hKM := Lib.hid hKM
 replace HVb := Lib.hid HVb
 replace HQ := Lib.hid HQ
 replace HR := Lib.hid HR
 replace HNo := Lib.hid HNo
 replace HZ := Lib.hid HZ
 replace HU := Lib.hid HU
 replace HP := Lib.hid HP
 replace HI1 := Lib.hid HI1
 replace HMv := Lib.hid HMv
 replace hKT := Lib.hid hKT
 replace HW := Lib.hid HW
 have hL0 : GL w w [] := GL.start w
 have hT : PTs w [] := PTs.nil w
 replace lx := Lib.hid lx
 replace ly := Lib.hid ly
 replace lv := Lib.hid lv
 replace lu := Lib.hid lu
 replace lp := Lib.hid lp
 replace hl0 := Lib.hid hl0
 replace hxi := Lib.hid hxi
 replace hpi := Lib.hid hpi
 replace hT := (hT.new (.cells #[.int .i64 n1, .int .u32 d1] 24))
 replace hL0 := (hL0.new rfl [.int .i64 n1, .int .u32 d1] 24)
 generalize hweq : (w.alloc (.cells #[.int .i64 n1, .int .u32 d1] 24)) = x1 at hL0 hT
 go_enter Tryz.func9, Tryz.ntmps9
 have hN0 := cells_of _ 0 [] rfl (hL0.get _ _ List.mem_cons_self)
 simp only [cellsF, and_true, Nat.zero_add, Nat.reduceAdd] at hN0
 go_upto_region 3 with fail
 clear hN0
 clear hweq
 refine region_tfl 7 [EV (.slice al nl cl), PO x, EV (.slice am nm cm), PO y, EV (.agg #[.int .i64 n1, .int .u32 d1]), EV (fracV c), NewB x1.heap.size [.int .u64 0, .string ⟨#[]⟩, .bool false, .int .u64 0, .string ⟨#[]⟩]] [6] [1, 3] (by kernel_rfl) (by kernel_rfl) ?_ ?_ ?_ ?_ ?_ ?_
 ·exact stays_cons (stays_eq _) (stays_cons (stays_po _) (stays_cons (stays_eq _) (stays_cons (stays_po _) (stays_cons (stays_eq _) (stays_cons (stays_eq _) (stays_cons (stays_new _ _) stays_nil))))))
 ·simp only [List.take_succ_cons, List.take_zero, hopsRF, and_true]
  refine ⟨?_, ?_, ?_, ?_, ?_, ?_, ?_⟩ <;> intro fv w1 hb1 hp
  all_goals (simp only [putsV, Act.put, List.setIfInBounds_toArray, List.set_cons_succ, List.set_cons_zero, Nat.zero_add, Nat.reduceAdd])
  ·refine fr_no rfl (tyAt_none rfl ?_)
   simp [tyUpon, execOp, go_sem, Act.eval, Below.refl]
  ·have h0 : EV _ (fv 0) w1 := hp 0 (LC (by kernel_rfl))
   refine tyAt_none rfl ?_
   refine ty_call (f := 14) (args := #[.slice al nl cl]) (by simp [execOp, go_sem, Act.eval, h0]) ?_
   exact (HVa.out w1 (hKL.out.at ((hL0.call (below_drew hb1)).bl) kKL)).mono fun e w2 ⟨pv, h1, h2, h3, h4⟩ => ⟨pv, h1, ⟨⟨h2, fun g hg => (h3 g hg).2⟩, fun _ g hg => (h3 g hg).1⟩, h4⟩
  ·refine fr_no rfl (tyAt_none rfl ?_)
   simp [tyUpon, execOp, go_sem, Act.eval, Below.refl]
  ·have h2 : EV _ (fv 2) w1 := hp 2 (LC (by kernel_rfl))
   refine tyAt_none rfl ?_
   refine ty_call (f := 14) (args := #[.slice am nm cm]) (by simp [execOp, go_sem, Act.eval, h2]) ?_
   exact (HVb.out w1 (hKM.out.at ((hL0.call (below_drew hb1)).bl) kKM)).mono fun e w2 ⟨pv, h1, h2, h3, h4⟩ => ⟨pv, h1, ⟨⟨h2, fun g hg => (h3 g hg).2⟩, fun _ g hg => (h3 g hg).1⟩, h4⟩
  ·refine fr_no rfl (tyAt_none rfl ?_)
   have hc := (hL0.call (below_drew hb1)).fc
   simp only [fcG, cellsF, neK, and_true, ne_eq, Nat.zero_add, Nat.reduceAdd] at hc
   simp [tyUpon, execOp, go_sem, Act.eval, hc, Below.refl]
  ·have h4 : EV _ (fv 4) w1 := hp 4 (LC (by kernel_rfl))
   refine fr_no rfl (tyAt_none rfl ?_)
   refine ty_call (f := 15) (args := #[.agg #[.int .i64 n1, .int .u32 d1]]) (by simp [execOp, go_sem, Act.eval, h4]) ?_
   exact (HQ.out w1).mono fun e w2 ⟨h1, h2⟩ => ⟨_, h1, rfl, h2⟩
  ·exact fr_no rfl (tyAt_new rfl rfl new_frac (below_drew hb1).size)
 ·intro j hj u w2 hT2
  simp only [List.contains_iff_mem, List.mem_cons, List.not_mem_nil, or_false] at hj
  rcases hj with rfl
  exact NewB.ptr hT2
 ·intro j hj u w2 hT2
  simp only [List.contains_iff_mem, List.mem_cons, List.not_mem_nil, or_false] at hj
  rcases hj with rfl | rfl <;> exact hT2.2
 ·exact ⟨⟨_, _, _, _, rfl, rfl, rfl, new_frac⟩, trivial⟩
 ·intro fv x2 hb1 hv hne hsp
  have e0 : fv 0 = _ := hv 0 (by omega)
  obtain ⟨q1, -⟩ : PO x (fv 1) x2 := hv 1 (by omega)
  obtain ⟨g1, g1c, e1⟩ := ptp_form q1 lx.out hl0.out
  have e2 : fv 2 = _ := hv 2 (by omega)
  obtain ⟨q3, -⟩ : PO y (fv 3) x2 := hv 3 (by omega)
  obtain ⟨g2, g2c, e3⟩ := ptn_form q3 ly.out
  have e4 : fv 4 = _ := hv 4 (by omega)
  have e5 : fv 5 = _ := hv 5 (by omega)
  obtain ⟨kb6, e6, n6, m6⟩ : NewB x1.heap.size [.int .u64 0, .string ⟨#[]⟩, .bool false, .int .u64 0, .string ⟨#[]⟩] (fv 6) x2 := hv 6 (by omega)
  have s1 : ∀ g, (fv 1).ownBlock = some g → g ≠ kb6 := fun g hg e => hsp 6 1 (by omega) (by omega) rfl rfl g hg (by rw [e6, e])
  have s3 : ∀ g, (fv 3).ownBlock = some g → g ≠ kb6 := fun g hg e => hsp 6 3 (by omega) (by omega) rfl rfl g hg (by rw [e6, e])
  rw [e1] at q1 s1
  rw [e3] at q3 s3
  simp only [List.take_succ_cons, List.take_zero, putsV, Act.put, List.setIfInBounds_toArray, List.set_cons_succ, List.set_cons_zero, List.drop_succ_cons, List.drop_zero, Nat.zero_add, Nat.reduceAdd, e0, e1, e2, e3, e4, e5, e6]
  have hx0 := hL0
  replace hL0 := hL0.call (below_drew hb1)
  replace hT := hT.call (below_drew hb1)
  replace hL0 := GL.tnew (M := []) hL0 hx0 n6 m6 (fun p hp => by cases hp)
  simp only [List.cons_append, List.nil_append] at hL0
  replace hT := (hT.cons q1).cons q3
  have hsS : ∀ p ∈ ([(.slice g2 m g2c, y), (.slice (some ⟨g1, 0, none⟩) l g1c, x)] : List (Value × List Rat)), ∀ g, p.1.ownBlock = some g → g ≠ kb6 := by
   intro p hp
   rcases List.mem_cons.1 hp with rfl | hp
   ·exact s3
   ·rw [List.mem_singleton.1 hp]; exact s1
  have hT1 := hT.putS ((((((Upd.refl kb6 x2).setCell 0 (.int .u64 ((zl c.num : Nat) : Int))).setCell 1 (.string (zh c.num))).setCell 2 (.bool (zs c.num))).setCell 3 (.int .u64 ((lo (fe c) : Nat) : Int))).setCell 4 (.string (hs (fe c)))) hsS
  have hA := hL0.fc
  simp only [fcG, cellsF, neK, and_true, ne_eq, Nat.zero_add, Nat.reduceAdd] at hA
  have hP := hL0.put 0 (kb6) _ rfl [.int .u64 ((zl c.num : Nat) : Int), .string (zh c.num), .bool (zs c.num), .int .u64 ((lo (fe c) : Nat) : Int), .string (hs (fe c))] rfl
  simp only [setAll, List.set_cons_zero, List.set_cons_succ] at hP
  generalize hput1 : (((((x2.setCell ⟨kb6, 0, none⟩ (.int .u64 ((zl c.num : Nat) : Int))).setCell ⟨kb6, 1, none⟩ (.string (zh c.num))).setCell ⟨kb6, 2, none⟩ (.bool (zs c.num))).setCell ⟨kb6, 3, none⟩ (.int .u64 ((lo (fe c) : Nat) : Int))).setCell ⟨kb6, 4, none⟩ (.string (hs (fe c)))) = x3 at hP hT1
  have hB1 := hP.fc
  simp only [fcG, cellsF, neK, and_true, ne_eq, Nat.zero_add, Nat.reduceAdd] at hB1
  replace hL0 := hP
  replace hT := hT1
  clear hT1 hsS s1 s3 q1 q3 n6 m6 hx0 hne hsp hv hb1 e0 e1 e2 e3 e4 e5 e6 fv
  go_wp2_with fail
  clear hA
  with_reducible refine Calls.mono (HR.out (.slice (some ⟨g1, 0, none⟩) l g1c) (.slice g2 m g2c) _ (hT.get (List.mem_cons_of_mem _ List.mem_cons_self)) (hT.get List.mem_cons_self)) ?_
  rintro e x4 ⟨rfl, hb⟩
  replace hL0 := hL0.call hb
  replace hT := hT.call hb
  clear hb hput1 hB1
  have hN0 := cells_of _ 0 [] rfl (hL0.get _ _ List.mem_cons_self)
  simp only [cellsF, and_true, Nat.zero_add, Nat.reduceAdd] at hN0
  go_wp2_with fail
  clear hN0
  with_reducible refine Calls.mono (HNo.out (.slice (some ⟨g1, 0, none⟩) l g1c) (.slice g2 m g2c) _ (hT.get (List.mem_cons_of_mem _ List.mem_cons_self)) (hT.get List.mem_cons_self)) ?_
  rintro e x5 ⟨rfl, hb⟩
  replace hL0 := hL0.call hb
  replace hT := hT.call hb
  clear hb
  go_wp2_with fail
  with_reducible refine Calls.mono (HZ.out _) ?_
  rintro e x6 ⟨rfl, hb⟩
  replace hL0 := hL0.call hb
  replace hT := hT.call hb
  clear hb
  go_wp2_with fail
  with_reducible refine Calls.mono (HU.out _) ?_
  rintro e x7 ⟨rfl, hb⟩
  replace hL0 := hL0.call hb
  replace hT := hT.call hb
  clear hb
  go_upto_region 19 with fail
  obtain ⟨α, iα, F, hF1, hF2⟩ := cls x7
  refine region_cls (F := F) (by kernel_rfl) (lexB_of_fast (by kernel_rfl)) (cls_drew hF2) ?_
  repeat (go_big_quiet_step (first | fail | (go_at_call 34; with_reducible exact cls_call hF1 hF2 HI1.out _)))
  refine wpQuiet_nil ?_
  rintro wq ⟨xq, rfl⟩
  replace hL0 := hL0.call (hF1 xq)
  replace hT := hT.call (hF1 xq)
  clear  hF2
  generalize F xq = x8 at hL0 hT ⊢
  clear hF1 xq iα F α
  replace hT := (hT.new (.cells #[.int .i64 (i : Int)] 3))
  replace hL0 := (hL0.new rfl [.int .i64 (i : Int)] 3)
  generalize hweq : (x8.alloc (.cells #[.int .i64 (i : Int)] 3)) = x9 at hL0 hT
  have hbv1 : ILs x9 (.slice (some ⟨x8.heap.size, 0, none⟩) 1 1) [(i : Int)] := ils_at (hL0.get _ _ List.mem_cons_self) rfl rfl
  replace hbv1 := Lib.hid hbv1
  go_wp2_with fail
  with_reducible refine Calls.mono (HP.out (.slice (some ⟨g1, 0, none⟩) l g1c) (.slice (some ⟨x8.heap.size, 0, none⟩) 1 1) _ (hT.get (List.mem_cons_of_mem _ List.mem_cons_self)) hbv1.out) ?_
  rintro e x10 ⟨v0, rfl, q0, hb⟩
  replace hL0 := hL0.call hb
  replace hT := hT.call hb
  clear hb hweq
  obtain ⟨g3, g3c, rfl⟩ := ptp_form q0 lp.out (by decide)
  replace hT := hT.cons q0
  clear q0
  go_upto_region 22 with fail
  obtain ⟨xe0, xe1, xe2, xe3, xe4⟩ := fsc (slq_fs (hT.get (List.mem_cons_of_mem _ (List.mem_cons_of_mem _ List.mem_cons_self))) (by rw [lx.out]; omega)) i (by rw [lx.out]; omega)
  rw [hxi.out] at xe0 xe1 xe2 xe3 xe4
  obtain ⟨pe0, pe1, pe2, pe3, pe4⟩ := fsc (slq_fs (hT.get List.mem_cons_self) (by rw [lp.out]; omega)) 0 (by rw [lp.out]; omega)
  rw [hpi.out] at pe0 pe1 pe2 pe3 pe4
  obtain ⟨α, iα, F, hF1, hF2⟩ := cls x10
  have cxe0 := fun yz => keepsC (hF1 yz) xe0
  have cxe1 := fun yz => keepsC (hF1 yz) xe1
  have cxe2 := fun yz => keepsC (hF1 yz) xe2
  have cxe3 := fun yz => keepsC (hF1 yz) xe3
  have cxe4 := fun yz => keepsC (hF1 yz) xe4
  have cpe0 := fun yz => keepsC (hF1 yz) pe0
  have cpe1 := fun yz => keepsC (hF1 yz) pe1
  have cpe2 := fun yz => keepsC (hF1 yz) pe2
  have cpe3 := fun yz => keepsC (hF1 yz) pe3
  have cpe4 := fun yz => keepsC (hF1 yz) pe4
  clear xe0 xe1 xe2 xe3 xe4 pe0 pe1 pe2 pe3 pe4
  refine region_cls (F := F) (by kernel_rfl) (lexB_of_fast (by kernel_rfl)) (cls_drew hF2) ?_
  repeat (go_big_quiet_step (first | fail))
  refine wpQuiet_nil ?_
  rintro wq ⟨xq, rfl⟩
  replace hL0 := hL0.call (hF1 xq)
  replace hT := hT.call (hF1 xq)
  clear cxe0 cxe1 cxe2 cxe3 cxe4 cpe0 cpe1 cpe2 cpe3 cpe4 hF2
  generalize F xq = x11 at hL0 hT ⊢
  clear hF1 xq iα F α
  go_wp2_with fail
  with_reducible refine Calls.mono (HW.out _ (hKT.out.at hL0.bl kKT)) ?_
  rintro e x12 ⟨rfl, hb⟩
  replace hL0 := hL0.call hb
  replace hT := hT.call hb
  clear hb
  go_wp2_with fail
  exact bodyPost_ret (v := .bool true) (by simp [results, Tryz.results9, go_sem]) rfl ⟨rfl, hL0.bl⟩
set_option maxHeartbeats 16000000 in
set_option maxRecDepth 100000 in
theorem verr_1_neg_high (al am : Option Addr) (nl cl nm cm l m : Nat) (n1 d1 : Int) (n : Int) (i : Nat) (x y v u p : List Rat) (c one xi : Rat) (KL : World → Prop) (hKL : Keeps KL) (HVa : ∀ w, KL w → Calls Tryz.prog 14 #[.slice al nl cl] w fun e w' => ∃ pv, e = .returned pv ∧ PT w' pv x ∧ (∀ g, pv.ownBlock = some g → w.heap.size ≤ g ∧ g < w'.heap.size) ∧ Below w.heap.size w w') (KM : World → Prop) (hKM : Keeps KM) (HVb : ∀ w, KM w → Calls Tryz.prog 14 #[.slice am nm cm] w fun e w' => ∃ pv, e = .returned pv ∧ PT w' pv y ∧ (∀ g, pv.ownBlock = some g → w.heap.size ≤ g ∧ g < w'.heap.size) ∧ Below w.heap.size w w') (HQ : ∀ w, Calls Tryz.prog 15 #[.agg #[.int .i64 n1, .int .u32 d1]] w fun xe w' => xe = .returned (fracV c) ∧ Below w.heap.size w w') (HR : ∀ (p1 p2 : Value) (w : World), PT w p1 x → PT w p2 y → Calls Tryz.prog 48 #[fracV c, p1, p2] w fun e w' => e = .returned (.int .i64 1) ∧ Below w.heap.size w w') (HNo : ∀ (p1 p2 : Value) (w : World), PT w p1 x → PT w p2 y → Calls Tryz.prog 49 #[fracV c, p1, p2] w fun e w' => e = .returned (.bool true) ∧ Below w.heap.size w w') (HZ : ∀ w, Calls Tryz.prog 40 #[.int .i64 n] w fun xe w' => xe = .returned (.tuple #[.slice none 0 0, .int .i64 1]) ∧ Below w.heap.size w w') (HU : ∀ w, Calls Tryz.prog 47 #[.int .i64 n, .int .i64 (i : Int)] w fun xe w' => xe = .returned (.tuple #[.slice none 0 0, .int .i64 1]) ∧ Below w.heap.size w w') (HP : ∀ (p0 p1 : Value) (w : World), PT w p0 x → ILs w p1 ([(i : Int)]) → Calls Tryz.prog 39 #[p0, p1] w fun e w' => e = .returned (.tuple #[.slice none 0 0, .int .i64 1]) ∧ Below w.heap.size w w') (HI1 : ∀ w, Calls Tryz.prog 34 #[.int .i64 1] w fun xe w' => xe = .returned (fracV one) ∧ Below w.heap.size w w') (HMv : ∀ (p0 : Value) (w : World), PT w p0 v → Calls Tryz.prog 30 #[p0] w fun e w' => e = .returned (.agg #[.int .u64 0, .string ⟨#[]⟩, .bool false, .int .u64 0, .string ⟨#[]⟩]) ∧ Below w.heap.size w w') (KT : World → Prop) (hKT : Keeps KT) (HW : ∀ w, KT w → Calls Tryz.prog 12 #[] w fun xe w' => xe = .returned (.bool true) ∧ Below w.heap.size w w') (l_nl : decide ((20 : Int) < ((nl : Nat) : Int)) = false) (k_nl : decide (20 < nl) = false) (l_nm : decide ((20 : Int) < ((nm : Nat) : Int)) = false) (k_nm : decide (20 < nm) = false) (lx : x.length = l) (ly : y.length = m) (lv : v.length = 0) (lu : u.length = 0) (lp : p.length = 1) (hl1 : l ≤ 20) (hlm : ¬ ((l : Nat) : Int) = ((m : Nat) : Int)) (hlm2 : (((l : Nat) : Int) != ((m : Nat) : Int)) = true) (hlm3 : ¬ l = m) (hn : n < 0) (hi : ¬ ((i : Nat) : Int) < 0) (hi2 : (0 : Int) ≤ ((i : Nat) : Int)) (hil : ¬ ((i : Nat) : Int) < ((l : Nat) : Int)) (w : World) (kKL : KL w) (kKM : KM w) (kKT : KT w) :
  Calls Tryz.prog 9 #[.agg #[.int .i64 n1, .int .u32 d1], .slice al nl cl, .slice am nm cm, .int .i64 n, .int .i64 (i : Int)] w fun e w' => e = .returned (.bool true) ∧ Below w.heap.size w w' := by
 replace hKL := Lib.hid hKL
 replace HVa := Lib.hid HVa
 replace hKM := Lib.hid hKM
 replace HVb := Lib.hid HVb
 replace HQ := Lib.hid HQ
 replace HR := Lib.hid HR
 replace HNo := Lib.hid HNo
 replace HZ := Lib.hid HZ
 replace HU := Lib.hid HU
 replace HP := Lib.hid HP
 replace HI1 := Lib.hid HI1
 replace HMv := Lib.hid HMv
 replace hKT := Lib.hid hKT
 replace HW := Lib.hid HW
 have hL0 : GL w w [] := GL.start w
 have hT : PTs w [] := PTs.nil w
 replace lx := Lib.hid lx
 replace ly := Lib.hid ly
 replace lv := Lib.hid lv
 replace lu := Lib.hid lu
 replace lp := Lib.hid lp
 replace hT := (hT.new (.cells #[.int .i64 n1, .int .u32 d1] 24))
 replace hL0 := (hL0.new rfl [.int .i64 n1, .int .u32 d1] 24)
 generalize hweq : (w.alloc (.cells #[.int .i64 n1, .int .u32 d1] 24)) = x1 at hL0 hT
 go_enter Tryz.func9, Tryz.ntmps9
 have hN0 := cells_of _ 0 [] rfl (hL0.get _ _ List.mem_cons_self)
 simp only [cellsF, and_true, Nat.zero_add, Nat.reduceAdd] at hN0
 go_upto_region 3 with fail
 clear hN0
 clear hweq
 refine region_tfl 7 [EV (.slice al nl cl), PO x, EV (.slice am nm cm), PO y, EV (.agg #[.int .i64 n1, .int .u32 d1]), EV (fracV c), NewB x1.heap.size [.int .u64 0, .string ⟨#[]⟩, .bool false, .int .u64 0, .string ⟨#[]⟩]] [6] [1, 3] (by kernel_rfl) (by kernel_rfl) ?_ ?_ ?_ ?_ ?_ ?_
 ·exact stays_cons (stays_eq _) (stays_cons (stays_po _) (stays_cons (stays_eq _) (stays_cons (stays_po _) (stays_cons (stays_eq _) (stays_cons (stays_eq _) (stays_cons (stays_new _ _) stays_nil))))))
 ·simp only [List.take_succ_cons, List.take_zero, hopsRF, and_true]
  refine ⟨?_, ?_, ?_, ?_, ?_, ?_, ?_⟩ <;> intro fv w1 hb1 hp
  all_goals (simp only [putsV, Act.put, List.setIfInBounds_toArray, List.set_cons_succ, List.set_cons_zero, Nat.zero_add, Nat.reduceAdd])
  ·refine fr_no rfl (tyAt_none rfl ?_)
   simp [tyUpon, execOp, go_sem, Act.eval, Below.refl]
  ·have h0 : EV _ (fv 0) w1 := hp 0 (LC (by kernel_rfl))
   refine tyAt_none rfl ?_
   refine ty_call (f := 14) (args := #[.slice al nl cl]) (by simp [execOp, go_sem, Act.eval, h0]) ?_
   exact (HVa.out w1 (hKL.out.at ((hL0.call (below_drew hb1)).bl) kKL)).mono fun e w2 ⟨pv, h1, h2, h3, h4⟩ => ⟨pv, h1, ⟨⟨h2, fun g hg => (h3 g hg).2⟩, fun _ g hg => (h3 g hg).1⟩, h4⟩
  ·refine fr_no rfl (tyAt_none rfl ?_)
   simp [tyUpon, execOp, go_sem, Act.eval, Below.refl]
  ·have h2 : EV _ (fv 2) w1 := hp 2 (LC (by kernel_rfl))
   refine tyAt_none rfl ?_
   refine ty_call (f := 14) (args := #[.slice am nm cm]) (by simp [execOp, go_sem, Act.eval, h2]) ?_
   exact (HVb.out w1 (hKM.out.at ((hL0.call (below_drew hb1)).bl) kKM)).mono fun e w2 ⟨pv, h1, h2, h3, h4⟩ => ⟨pv, h1, ⟨⟨h2, fun g hg => (h3 g hg).2⟩, fun _ g hg => (h3 g hg).1⟩, h4⟩
  ·refine fr_no rfl (tyAt_none rfl ?_)
   have hc := (hL0.call (below_drew hb1)).fc
   simp only [fcG, cellsF, neK, and_true, ne_eq, Nat.zero_add, Nat.reduceAdd] at hc
   simp [tyUpon, execOp, go_sem, Act.eval, hc, Below.refl]
  ·have h4 : EV _ (fv 4) w1 := hp 4 (LC (by kernel_rfl))
   refine fr_no rfl (tyAt_none rfl ?_)
   refine ty_call (f := 15) (args := #[.agg #[.int .i64 n1, .int .u32 d1]]) (by simp [execOp, go_sem, Act.eval, h4]) ?_
   exact (HQ.out w1).mono fun e w2 ⟨h1, h2⟩ => ⟨_, h1, rfl, h2⟩
  ·exact fr_no rfl (tyAt_new rfl rfl new_frac (below_drew hb1).size)
 ·intro j hj u w2 hT2
  simp only [List.contains_iff_mem, List.mem_cons, List.not_mem_nil, or_false] at hj
  rcases hj with rfl
  exact NewB.ptr hT2
 ·intro j hj u w2 hT2
  simp only [List.contains_iff_mem, List.mem_cons, List.not_mem_nil, or_false] at hj
  rcases hj with rfl | rfl <;> exact hT2.2
 ·exact ⟨⟨_, _, _, _, rfl, rfl, rfl, new_frac⟩, trivial⟩
 ·intro fv x2 hb1 hv hne hsp
  have e0 : fv 0 = _ := hv 0 (by omega)
  obtain ⟨q1, -⟩ : PO x (fv 1) x2 := hv 1 (by omega)
  obtain ⟨g1, g1c, e1⟩ := ptn_form q1 lx.out
  have e2 : fv 2 = _ := hv 2 (by omega)
  obtain ⟨q3, -⟩ : PO y (fv 3) x2 := hv 3 (by omega)
  obtain ⟨g2, g2c, e3⟩ := ptn_form q3 ly.out
  have e4 : fv 4 = _ := hv 4 (by omega)
  have e5 : fv 5 = _ := hv 5 (by omega)
  obtain ⟨kb6, e6, n6, m6⟩ : NewB x1.heap.size [.int .u64 0, .string ⟨#[]⟩, .bool false, .int .u64 0, .string ⟨#[]⟩] (fv 6) x2 := hv 6 (by omega)
  have s1 : ∀ g, (fv 1).ownBlock = some g → g ≠ kb6 := fun g hg e => hsp 6 1 (by omega) (by omega) rfl rfl g hg (by rw [e6, e])
  have s3 : ∀ g, (fv 3).ownBlock = some g → g ≠ kb6 := fun g hg e => hsp 6 3 (by omega) (by omega) rfl rfl g hg (by rw [e6, e])
  rw [e1] at q1 s1
  rw [e3] at q3 s3
  simp only [List.take_succ_cons, List.take_zero, putsV, Act.put, List.setIfInBounds_toArray, List.set_cons_succ, List.set_cons_zero, List.drop_succ_cons, List.drop_zero, Nat.zero_add, Nat.reduceAdd, e0, e1, e2, e3, e4, e5, e6]
  have hx0 := hL0
  replace hL0 := hL0.call (below_drew hb1)
  replace hT := hT.call (below_drew hb1)
  replace hL0 := GL.tnew (M := []) hL0 hx0 n6 m6 (fun p hp => by cases hp)
  simp only [List.cons_append, List.nil_append] at hL0
  replace hT := (hT.cons q1).cons q3
  have hsS : ∀ p ∈ ([(.slice g2 m g2c, y), (.slice g1 l g1c, x)] : List (Value × List Rat)), ∀ g, p.1.ownBlock = some g → g ≠ kb6 := by
   intro p hp
   rcases List.mem_cons.1 hp with rfl | hp
   ·exact s3
   ·rw [List.mem_singleton.1 hp]; exact s1
  have hT1 := hT.putS ((((((Upd.refl kb6 x2).setCell 0 (.int .u64 ((zl c.num : Nat) : Int))).setCell 1 (.string (zh c.num))).setCell 2 (.bool (zs c.num))).setCell 3 (.int .u64 ((lo (fe c) : Nat) : Int))).setCell 4 (.string (hs (fe c)))) hsS
  have hA := hL0.fc
  simp only [fcG, cellsF, neK, and_true, ne_eq, Nat.zero_add, Nat.reduceAdd] at hA
  have hP := hL0.put 0 (kb6) _ rfl [.int .u64 ((zl c.num : Nat) : Int), .string (zh c.num), .bool (zs c.num), .int .u64 ((lo (fe c) : Nat) : Int), .string (hs (fe c))] rfl
  simp only [setAll, List.set_cons_zero, List.set_cons_succ] at hP
  generalize hput1 : (((((x2.setCell ⟨kb6, 0, none⟩ (.int .u64 ((zl c.num : Nat) : Int))).setCell ⟨kb6, 1, none⟩ (.string (zh c.num))).setCell ⟨kb6, 2, none⟩ (.bool (zs c.num))).setCell ⟨kb6, 3, none⟩ (.int .u64 ((lo (fe c) : Nat) : Int))).setCell ⟨kb6, 4, none⟩ (.string (hs (fe c)))) = x3 at hP hT1
  have hB1 := hP.fc
  simp only [fcG, cellsF, neK, and_true, ne_eq, Nat.zero_add, Nat.reduceAdd] at hB1
  replace hL0 := hP
  replace hT := hT1
  clear hT1 hsS s1 s3 q1 q3 n6 m6 hx0 hne hsp hv hb1 e0 e1 e2 e3 e4 e5 e6 fv
  go_wp2_with fail
  clear hA
  with_reducible refine Calls.mono (HR.out (.slice g1 l g1c) (.slice g2 m g2c) _ (hT.get (List.mem_cons_of_mem _ List.mem_cons_self)) (hT.get List.mem_cons_self)) ?_
  rintro e x4 ⟨rfl, hb⟩
  replace hL0 := hL0.call hb
  replace hT := hT.call hb
  clear hb hput1 hB1
  have hN0 := cells_of _ 0 [] rfl (hL0.get _ _ List.mem_cons_self)
  simp only [cellsF, and_true, Nat.zero_add, Nat.reduceAdd] at hN0
  go_wp2_with fail
  clear hN0
  with_reducible refine Calls.mono (HNo.out (.slice g1 l g1c) (.slice g2 m g2c) _ (hT.get (List.mem_cons_of_mem _ List.mem_cons_self)) (hT.get List.mem_cons_self)) ?_
  rintro e x5 ⟨rfl, hb⟩
  replace hL0 := hL0.call hb
  replace hT := hT.call hb
  clear hb
  go_wp2_with fail
  with_reducible refine Calls.mono (HZ.out _) ?_
  rintro e x6 ⟨rfl, hb⟩
  replace hL0 := hL0.call hb
  replace hT := hT.call hb
  clear hb
  go_wp2_with fail
  with_reducible refine Calls.mono (HU.out _) ?_
  rintro e x7 ⟨rfl, hb⟩
  replace hL0 := hL0.call hb
  replace hT := hT.call hb
  clear hb
  go_upto_region 19 with fail
  obtain ⟨α, iα, F, hF1, hF2⟩ := cls x7
  refine region_cls (F := F) (by kernel_rfl) (lexB_of_fast (by kernel_rfl)) (cls_drew hF2) ?_
  repeat (go_big_quiet_step (first | fail | (go_at_call 34; with_reducible exact cls_call hF1 hF2 HI1.out _)))
  refine wpQuiet_nil ?_
  rintro wq ⟨xq, rfl⟩
  replace hL0 := hL0.call (hF1 xq)
  replace hT := hT.call (hF1 xq)
  clear  hF2
  generalize F xq = x8 at hL0 hT ⊢
  clear hF1 xq iα F α
  replace hT := (hT.new (.cells #[.int .i64 (i : Int)] 3))
  replace hL0 := (hL0.new rfl [.int .i64 (i : Int)] 3)
  generalize hweq : (x8.alloc (.cells #[.int .i64 (i : Int)] 3)) = x9 at hL0 hT
  have hbv1 : ILs x9 (.slice (some ⟨x8.heap.size, 0, none⟩) 1 1) [(i : Int)] := ils_at (hL0.get _ _ List.mem_cons_self) rfl rfl
  replace hbv1 := Lib.hid hbv1
  go_wp2_with fail
  with_reducible refine Calls.mono (HP.out (.slice g1 l g1c) (.slice (some ⟨x8.heap.size, 0, none⟩) 1 1) _ (hT.get (List.mem_cons_of_mem _ List.mem_cons_self)) hbv1.out) ?_
  rintro e x10 ⟨rfl, hb⟩
  replace hL0 := hL0.call hb
  replace hT := hT.call hb
  clear hb hweq
  go_upto_region 22 with fail
  have hd1 : ¬ i < l := by omega
  have hd2 : ¬ ((i : Nat) : Int) < ((l : Nat) : Int) := by omega
  obtain ⟨α, iα, F, hF1, hF2⟩ := cls x10
  refine region_cls (F := F) (by kernel_rfl) (lexB_of_fast (by kernel_rfl)) (cls_drew hF2) ?_
  repeat (go_big_quiet_step (first | fail))
  refine wpQuiet_nil ?_
  rintro wq ⟨xq, rfl⟩
  replace hL0 := hL0.call (hF1 xq)
  replace hT := hT.call (hF1 xq)
  clear hd1 hd2 hF2
  generalize F xq = x11 at hL0 hT ⊢
  clear hF1 xq iα F α
  go_wp2_with fail
  with_reducible refine Calls.mono (HW.out _ (hKT.out.at hL0.bl kKT)) ?_
  rintro e x12 ⟨rfl, hb⟩
  replace hL0 := hL0.call hb
  replace hT := hT.call hb
  clear hb
  go_wp2_with fail
  exact bodyPost_ret (v := .bool true) (by simp [results, Tryz.results9, go_sem]) rfl ⟨rfl, hL0.bl⟩
set_option maxHeartbeats 16000000 in
set_option maxRecDepth 100000 in
theorem verr_1_big_in (al am : Option Addr) (nl cl nm cm l m : Nat) (n1 d1 : Int) (n : Int) (i : Nat) (x y v u p : List Rat) (c one xi : Rat) (KL : World → Prop) (hKL : Keeps KL) (HVa : ∀ w, KL w → Calls Tryz.prog 14 #[.slice al nl cl] w fun e w' => ∃ pv, e = .returned pv ∧ PT w' pv x ∧ (∀ g, pv.ownBlock = some g → w.heap.size ≤ g ∧ g < w'.heap.size) ∧ Below w.heap.size w w') (KM : World → Prop) (hKM : Keeps KM) (HVb : ∀ w, KM w → Calls Tryz.prog 14 #[.slice am nm cm] w fun e w' => ∃ pv, e = .returned pv ∧ PT w' pv y ∧ (∀ g, pv.ownBlock = some g → w.heap.size ≤ g ∧ g < w'.heap.size) ∧ Below w.heap.size w w') (HQ : ∀ w, Calls Tryz.prog 15 #[.agg #[.int .i64 n1, .int .u32 d1]] w fun xe w' => xe = .returned (fracV c) ∧ Below w.heap.size w w') (HR : ∀ (p1 p2 : Value) (w : World), PT w p1 x → PT w p2 y → Calls Tryz.prog 48 #[fracV c, p1, p2] w fun e w' => e = .returned (.int .i64 1) ∧ Below w.heap.size w w') (HNo : ∀ (p1 p2 : Value) (w : World), PT w p1 x → PT w p2 y → Calls Tryz.prog 49 #[fracV c, p1, p2] w fun e w' => e = .returned (.bool true) ∧ Below w.heap.size w w') (HZ : ∀ w, Calls Tryz.prog 40 #[.int .i64 n] w fun xe w' => xe = .returned (.tuple #[.slice none 0 0, .int .i64 3]) ∧ Below w.heap.size w w') (HU : ∀ w, Calls Tryz.prog 47 #[.int .i64 n, .int .i64 (i : Int)] w fun xe w' => xe = .returned (.tuple #[.slice none 0 0, .int .i64 3]) ∧ Below w.heap.size w w') (HP : ∀ (p0 p1 : Value) (w : World), PT w p0 x → ILs w p1 ([(i : Int)]) → Calls Tryz.prog 39 #[p0, p1] w fun e w' => ∃ pv, e = .returned (.tuple #[pv, .int .i64 0]) ∧ PT w' pv p ∧ Below w.heap.size w w') (HI1 : ∀ w, Calls Tryz.prog 34 #[.int .i64 1] w fun xe w' => xe = .returned (fracV one) ∧ Below w.heap.size w w') (HMv : ∀ (p0 : Value) (w : World), PT w p0 v → Calls Tryz.prog 30 #[p0] w fun e w' => e = .returned (.agg #[.int .u64 0, .string ⟨#[]⟩, .bool false, .int .u64 0, .string ⟨#[]⟩]) ∧ Below w.heap.size w w') (KT : World → Prop) (hKT : Keeps KT) (HW : ∀ w, KT w → Calls Tryz.prog 12 #[] w fun xe w' => xe = .returned (.bool true) ∧ Below w.heap.size w w') (l_nl : decide ((20 : Int) < ((nl : Nat) : Int)) = false) (k_nl : decide (20 < nl) = false) (l_nm : decide ((20 : Int) < ((nm : Nat) : Int)) = false) (k_nm : decide (20 < nm) = false) (lx : x.length = l) (ly : y.length = m) (lv : v.length = 0) (lu : u.length = 0) (lp : p.length = 1) (hl1 : l ≤ 20) (hlm : ¬ ((l : Nat) : Int) = ((m : Nat) : Int)) (hlm2 : (((l : Nat) : Int) != ((m : Nat) : Int)) = true) (hlm3 : ¬ l = m) (hn : ¬ n < 0) (hn2 : 2048 < n) (hi : ¬ ((i : Nat) : Int) < 0) (hi2 : (0 : Int) ≤ ((i : Nat) : Int)) (hil : ((i : Nat) : Int) < ((l : Nat) : Int)) (hl0 : 0 < l) (hxi : gv x i = xi) (hpi : gv p 0 = xi) (w : World) (kKL : KL w) (kKM : KM w) (kKT : KT w) :
  Calls Tryz.prog 9 #[.agg #[.int .i64 n1, .int .u32 d1], .slice al nl cl, .slice am nm cm, .int .i64 n, .int .i64 (i : Int)] w fun e w' => e = .returned (.bool true) ∧ Below w.heap.size w w' := by
 replace hKL := Lib.hid hKL
 replace HVa := Lib.hid HVa
 replace hKM := Lib.hid hKM
 replace HVb := Lib.hid HVb
 replace HQ := Lib.hid HQ
 replace HR := Lib.hid HR
 replace HNo := Lib.hid HNo
 replace HZ := Lib.hid HZ
 replace HU := Lib.hid HU
 replace HP := Lib.hid HP
 replace HI1 := Lib.hid HI1
 replace HMv := Lib.hid HMv
 replace hKT := Lib.hid hKT
 replace HW := Lib.hid HW
 have hL0 : GL w w [] := GL.start w
 have hT : PTs w [] := PTs.nil w
 replace lx := Lib.hid lx
 replace ly := Lib.hid ly
 replace lv := Lib.hid lv
 replace lu := Lib.hid lu
 replace lp := Lib.hid lp
 replace hl0 := Lib.hid hl0
 replace hxi := Lib.hid hxi
 replace hpi := Lib.hid hpi
 replace hT := (hT.new (.cells #[.int .i64 n1, .int .u32 d1] 24))
 replace hL0 := (hL0.new rfl [.int .i64 n1, .int .u32 d1] 24)
 generalize hweq : (w.alloc (.cells #[.int .i64 n1, .int .u32 d1] 24)) = x1 at hL0 hT
 go_enter Tryz.func9, Tryz.ntmps9
 have hN0 := cells_of _ 0 [] rfl (hL0.get _ _ List.mem_cons_self)
 simp only [cellsF, and_true, Nat.zero_add, Nat.reduceAdd] at hN0
 go_upto_region 3 with fail
 clear hN0
 clear hweq
 refine region_tfl 7 [EV (.slice al nl cl), PO x, EV (.slice am nm cm), PO y, EV (.agg #[.int .i64 n1, .int .u32 d1]), EV (fracV c), NewB x1.heap.size [.int .u64 0, .string ⟨#[]⟩, .bool false, .int .u64 0, .string ⟨#[]⟩]] [6] [1, 3] (by kernel_rfl) (by kernel_rfl) ?_ ?_ ?_ ?_ ?_ ?_
 ·exact stays_cons (stays_eq _) (stays_cons (stays_po _) (stays_cons (stays_eq _) (stays_cons (stays_po _) (stays_cons (stays_eq _) (stays_cons (stays_eq _) (stays_cons (stays_new _ _) stays_nil))))))
 ·simp only [List.take_succ_cons, List.take_zero, hopsRF, and_true]
  refine ⟨?_, ?_, ?_, ?_, ?_, ?_, ?_⟩ <;> intro fv w1 hb1 hp
  all_goals (simp only [putsV, Act.put, List.setIfInBounds_toArray, List.set_cons_succ, List.set_cons_zero, Nat.zero_add, Nat.reduceAdd])
  ·refine fr_no rfl (tyAt_none rfl ?_)
   simp [tyUpon, execOp, go_sem, Act.eval, Below.refl]
  ·have h0 : EV _ (fv 0) w1 := hp 0 (LC (by kernel_rfl))
   refine tyAt_none rfl ?_
   refine ty_call (f := 14) (args := #[.slice al nl cl]) (by simp [execOp, go_sem, Act.eval, h0]) ?_
   exact (HVa.out w1 (hKL.out.at ((hL0.call (below_drew hb1)).bl) kKL)).mono fun e w2 ⟨pv, h1, h2, h3, h4⟩ => ⟨pv, h1, ⟨⟨h2, fun g hg => (h3 g hg).2⟩, fun _ g hg => (h3 g hg).1⟩, h4⟩
  ·refine fr_no rfl (tyAt_none rfl ?_)
   simp [tyUpon, execOp, go_sem, Act.eval, Below.refl]
  ·have h2 : EV _ (fv 2) w1 := hp 2 (LC (by kernel_rfl))
   refine tyAt_none rfl ?_
   refine ty_call (f := 14) (args := #[.slice am nm cm]) (by simp [execOp, go_sem, Act.eval, h2]) ?_
   exact (HVb.out w1 (hKM.out.at ((hL0.call (below_drew hb1)).bl) kKM)).mono fun e w2 ⟨pv, h1, h2, h3, h4⟩ => ⟨pv, h1, ⟨⟨h2, fun g hg => (h3 g hg).2⟩, fun _ g hg => (h3 g hg).1⟩, h4⟩
  ·refine fr_no rfl (tyAt_none rfl ?_)
   have hc := (hL0.call (below_drew hb1)).fc
   simp only [fcG, cellsF, neK, and_true, ne_eq, Nat.zero_add, Nat.reduceAdd] at hc
   simp [tyUpon, execOp, go_sem, Act.eval, hc, Below.refl]
  ·have h4 : EV _ (fv 4) w1 := hp 4 (LC (by kernel_rfl))
   refine fr_no rfl (tyAt_none rfl ?_)
   refine ty_call (f := 15) (args := #[.agg #[.int .i64 n1, .int .u32 d1]]) (by simp [execOp, go_sem, Act.eval, h4]) ?_
   exact (HQ.out w1).mono fun e w2 ⟨h1, h2⟩ => ⟨_, h1, rfl, h2⟩
  ·exact fr_no rfl (tyAt_new rfl rfl new_frac (below_drew hb1).size)
 ·intro j hj u w2 hT2
  simp only [List.contains_iff_mem, List.mem_cons, List.not_mem_nil, or_false] at hj
  rcases hj with rfl
  exact NewB.ptr hT2
 ·intro j hj u w2 hT2
  simp only [List.contains_iff_mem, List.mem_cons, List.not_mem_nil, or_false] at hj
  rcases hj with rfl | rfl <;> exact hT2.2
 ·exact ⟨⟨_, _, _, _, rfl, rfl, rfl, new_frac⟩, trivial⟩
 ·intro fv x2 hb1 hv hne hsp
  have e0 : fv 0 = _ := hv 0 (by omega)
  obtain ⟨q1, -⟩ : PO x (fv 1) x2 := hv 1 (by omega)
  obtain ⟨g1, g1c, e1⟩ := ptp_form q1 lx.out hl0.out
  have e2 : fv 2 = _ := hv 2 (by omega)
  obtain ⟨q3, -⟩ : PO y (fv 3) x2 := hv 3 (by omega)
  obtain ⟨g2, g2c, e3⟩ := ptn_form q3 ly.out
  have e4 : fv 4 = _ := hv 4 (by omega)
  have e5 : fv 5 = _ := hv 5 (by omega)
  obtain ⟨kb6, e6, n6, m6⟩ : NewB x1.heap.size [.int .u64 0, .string ⟨#[]⟩, .bool false, .int .u64 0, .string ⟨#[]⟩] (fv 6) x2 := hv 6 (by omega)
  have s1 : ∀ g, (fv 1).ownBlock = some g → g ≠ kb6 := fun g hg e => hsp 6 1 (by omega) (by omega) rfl rfl g hg (by rw [e6, e])
  have s3 : ∀ g, (fv 3).ownBlock = some g → g ≠ kb6 := fun g hg e => hsp 6 3 (by omega) (by omega) rfl rfl g hg (by rw [e6, e])
  rw [e1] at q1 s1
  rw [e3] at q3 s3
  simp only [List.take_succ_cons, List.take_zero, putsV, Act.put, List.setIfInBounds_toArray, List.set_cons_succ, List.set_cons_zero, List.drop_succ_cons, List.drop_zero, Nat.zero_add, Nat.reduceAdd, e0, e1, e2, e3, e4, e5, e6]
  have hx0 := hL0
  replace hL0 := hL0.call (below_drew hb1)
  replace hT := hT.call (below_drew hb1)
  replace hL0 := GL.tnew (M := []) hL0 hx0 n6 m6 (fun p hp => by cases hp)
  simp only [List.cons_append, List.nil_append] at hL0
  replace hT := (hT.cons q1).cons q3
  have hsS : ∀ p ∈ ([(.slice g2 m g2c, y), (.slice (some ⟨g1, 0, none⟩) l g1c, x)] : List (Value × List Rat)), ∀ g, p.1.ownBlock = some g → g ≠ kb6 := by
   intro p hp
   rcases List.mem_cons.1 hp with rfl | hp
   ·exact s3
   ·rw [List.mem_singleton.1 hp]; exact s1
  have hT1 := hT.putS ((((((Upd.refl kb6 x2).setCell 0 (.int .u64 ((zl c.num : Nat) : Int))).setCell 1 (.string (zh c.num))).setCell 2 (.bool (zs c.num))).setCell 3 (.int .u64 ((lo (fe c) : Nat) : Int))).setCell 4 (.string (hs (fe c)))) hsS
  have hA := hL0.fc
  simp only [fcG, cellsF, neK, and_true, ne_eq, Nat.zero_add, Nat.reduceAdd] at hA
  have hP := hL0.put 0 (kb6) _ rfl [.int .u64 ((zl c.num : Nat) : Int), .string (zh c.num), .bool (zs c.num), .int .u64 ((lo (fe c) : Nat) : Int), .string (hs (fe c))] rfl
  simp only [setAll, List.set_cons_zero, List.set_cons_succ] at hP
  generalize hput1 : (((((x2.setCell ⟨kb6, 0, none⟩ (.int .u64 ((zl c.num : Nat) : Int))).setCell ⟨kb6, 1, none⟩ (.string (zh c.num))).setCell ⟨kb6, 2, none⟩ (.bool (zs c.num))).setCell ⟨kb6, 3, none⟩ (.int .u64 ((lo (fe c) : Nat) : Int))).setCell ⟨kb6, 4, none⟩ (.string (hs (fe c)))) = x3 at hP hT1
  have hB1 := hP.fc
  simp only [fcG, cellsF, neK, and_true, ne_eq, Nat.zero_add, Nat.reduceAdd] at hB1
  replace hL0 := hP
  replace hT := hT1
  clear hT1 hsS s1 s3 q1 q3 n6 m6 hx0 hne hsp hv hb1 e0 e1 e2 e3 e4 e5 e6 fv
  go_wp2_with fail
  clear hA
  with_reducible refine Calls.mono (HR.out (.slice (some ⟨g1, 0, none⟩) l g1c) (.slice g2 m g2c) _ (hT.get (List.mem_cons_of_mem _ List.mem_cons_self)) (hT.get List.mem_cons_self)) ?_
  rintro e x4 ⟨rfl, hb⟩
  replace hL0 := hL0.call hb
  replace hT := hT.call hb
  clear hb hput1 hB1
  have hN0 := cells_of _ 0 [] rfl (hL0.get _ _ List.mem_cons_self)
  simp only [cellsF, and_true, Nat.zero_add, Nat.reduceAdd] at hN0
  go_wp2_with fail
  clear hN0
  with_reducible refine Calls.mono (HNo.out (.slice (some ⟨g1, 0, none⟩) l g1c) (.slice g2 m g2c) _ (hT.get (List.mem_cons_of_mem _ List.mem_cons_self)) (hT.get List.mem_cons_self)) ?_
  rintro e x5 ⟨rfl, hb⟩
  replace hL0 := hL0.call hb
  replace hT := hT.call hb
  clear hb
  go_wp2_with fail
  with_reducible refine Calls.mono (HZ.out _) ?_
  rintro e x6 ⟨rfl, hb⟩
  replace hL0 := hL0.call hb
  replace hT := hT.call hb
  clear hb
  go_wp2_with fail
  with_reducible refine Calls.mono (HU.out _) ?_
  rintro e x7 ⟨rfl, hb⟩
  replace hL0 := hL0.call hb
  replace hT := hT.call hb
  clear hb
  go_upto_region 19 with fail
  obtain ⟨α, iα, F, hF1, hF2⟩ := cls x7
  refine region_cls (F := F) (by kernel_rfl) (lexB_of_fast (by kernel_rfl)) (cls_drew hF2) ?_
  repeat (go_big_quiet_step (first | fail | (go_at_call 34; with_reducible exact cls_call hF1 hF2 HI1.out _)))
  refine wpQuiet_nil ?_
  rintro wq ⟨xq, rfl⟩
  replace hL0 := hL0.call (hF1 xq)
  replace hT := hT.call (hF1 xq)
  clear  hF2
  generalize F xq = x8 at hL0 hT ⊢
  clear hF1 xq iα F α
  replace hT := (hT.new (.cells #[.int .i64 (i : Int)] 3))
  replace hL0 := (hL0.new rfl [.int .i64 (i : Int)] 3)
  generalize hweq : (x8.alloc (.cells #[.int .i64 (i : Int)] 3)) = x9 at hL0 hT
  have hbv1 : ILs x9 (.slice (some ⟨x8.heap.size, 0, none⟩) 1 1) [(i : Int)] := ils_at (hL0.get _ _ List.mem_cons_self) rfl rfl
  replace hbv1 := Lib.hid hbv1
  go_wp2_with fail
  with_reducible refine Calls.mono (HP.out (.slice (some ⟨g1, 0, none⟩) l g1c) (.slice (some ⟨x8.heap.size, 0, none⟩) 1 1) _ (hT.get (List.mem_cons_of_mem _ List.mem_cons_self)) hbv1.out) ?_
  rintro e x10 ⟨v0, rfl, q0, hb⟩
  replace hL0 := hL0.call hb
  replace hT := hT.call hb
  clear hb hweq
  obtain ⟨g3, g3c, rfl⟩ := ptp_form q0 lp.out (by decide)
  replace hT := hT.cons q0
  clear q0
  go_upto_region 22 with fail
  obtain ⟨xe0, xe1, xe2, xe3, xe4⟩ := fsc (slq_fs (hT.get (List.mem_cons_of_mem _ (List.mem_cons_of_mem _ List.mem_cons_self))) (by rw [lx.out]; omega)) i (by rw [lx.out]; omega)
  rw [hxi.out] at xe0 xe1 xe2 xe3 xe4
  obtain ⟨pe0, pe1, pe2, pe3, pe4⟩ := fsc (slq_fs (hT.get List.mem_cons_self) (by rw [lp.out]; omega)) 0 (by rw [lp.out]; omega)
  rw [hpi.out] at pe0 pe1 pe2 pe3 pe4
  obtain ⟨α, iα, F, hF1, hF2⟩ := cls x10
  have cxe0 := fun yz => keepsC (hF1 yz) xe0
  have cxe1 := fun yz => keepsC (hF1 yz) xe1
  have cxe2 := fun yz => keepsC (hF1 yz) xe2
  have cxe3 := fun yz => keepsC (hF1 yz) xe3
  have cxe4 := fun yz => keepsC (hF1 yz) xe4
  have cpe0 := fun yz => keepsC (hF1 yz) pe0
  have cpe1 := fun yz => keepsC (hF1 yz) pe1
  have cpe2 := fun yz => keepsC (hF1 yz) pe2
  have cpe3 := fun yz => keepsC (hF1 yz) pe3
  have cpe4 := fun yz => keepsC (hF1 yz) pe4
  clear xe0 xe1 xe2 xe3 xe4 pe0 pe1 pe2 pe3 pe4
  refine region_cls (F := F) (by kernel_rfl) (lexB_of_fast (by kernel_rfl)) (cls_drew hF2) ?_
  repeat (go_big_quiet_step (first | fail))
  refine wpQuiet_nil ?_
  rintro wq ⟨xq, rfl⟩
  replace hL0 := hL0.call (hF1 xq)
  replace hT := hT.call (hF1 xq)
  clear cxe0 cxe1 cxe2 cxe3 cxe4 cpe0 cpe1 cpe2 cpe3 cpe4 hF2
  generalize F xq = x11 at hL0 hT ⊢
  clear hF1 xq iα F α
  go_wp2_with fail
  with_reducible refine Calls.mono (HW.out _ (hKT.out.at hL0.bl kKT)) ?_
  rintro e x12 ⟨rfl, hb⟩
  replace hL0 := hL0.call hb
  replace hT := hT.call hb
  clear hb
  go_wp2_with fail
  exact bodyPost_ret (v := .bool true) (by simp [results, Tryz.results9, go_sem]) rfl ⟨rfl, hL0.bl⟩
set_option maxHeartbeats 16000000 in
set_option maxRecDepth 100000 in
theorem verr_1_big_high (al am : Option Addr) (nl cl nm cm l m : Nat) (n1 d1 : Int) (n : Int) (i : Nat) (x y v u p : List Rat) (c one xi : Rat) (KL : World → Prop) (hKL : Keeps KL) (HVa : ∀ w, KL w → Calls Tryz.prog 14 #[.slice al nl cl] w fun e w' => ∃ pv, e = .returned pv ∧ PT w' pv x ∧ (∀ g, pv.ownBlock = some g → w.heap.size ≤ g ∧ g < w'.heap.size) ∧ Below w.heap.size w w') (KM : World → Prop) (hKM : Keeps KM) (HVb : ∀ w, KM w → Calls Tryz.prog 14 #[.slice am nm cm] w fun e w' => ∃ pv, e = .returned pv ∧ PT w' pv y ∧ (∀ g, pv.ownBlock = some g → w.heap.size ≤ g ∧ g < w'.heap.size) ∧ Below w.heap.size w w') (HQ : ∀ w, Calls Tryz.prog 15 #[.agg #[.int .i64 n1, .int .u32 d1]] w fun xe w' => xe = .returned (fracV c) ∧ Below w.heap.size w w') (HR : ∀ (p1 p2 : Value) (w : World), PT w p1 x → PT w p2 y → Calls Tryz.prog 48 #[fracV c, p1, p2] w fun e w' => e = .returned (.int .i64 1) ∧ Below w.heap.size w w') (HNo : ∀ (p1 p2 : Value) (w : World), PT w p1 x → PT w p2 y → Calls Tryz.prog 49 #[fracV c, p1, p2] w fun e w' => e = .returned (.bool true) ∧ Below w.heap.size w w') (HZ : ∀ w, Calls Tryz.prog 40 #[.int .i64 n] w fun xe w' => xe = .returned (.tuple #[.slice none 0 0, .int .i64 3]) ∧ Below w.heap.size w w') (HU : ∀ w, Calls Tryz.prog 47 #[.int .i64 n, .int .i64 (i : Int)] w fun xe w' => xe = .returned (.tuple #[.slice none 0 0, .int .i64 3]) ∧ Below w.heap.size w w') (HP : ∀ (p0 p1 : Value) (w : World), PT w p0 x → ILs w p1 ([(i : Int)]) → Calls Tryz.prog 39 #[p0, p1] w fun e w' => e = .returned (.tuple #[.slice none 0 0, .int .i64 1]) ∧ Below w.heap.size w w') (HI1 : ∀ w, Calls Tryz.prog 34 #[.int .i64 1] w fun xe w' => xe = .returned (fracV one) ∧ Below w.heap.size w w') (HMv : ∀ (p0 : Value) (w : World), PT w p0 v → Calls Tryz.prog 30 #[p0] w fun e w' => e = .returned (.agg #[.int .u64 0, .string ⟨#[]⟩, .bool false, .int .u64 0, .string ⟨#[]⟩]) ∧ Below w.heap.size w w') (KT : World → Prop) (hKT : Keeps KT) (HW : ∀ w, KT w → Calls Tryz.prog 12 #[] w fun xe w' => xe = .returned (.bool true) ∧ Below w.heap.size w w') (l_nl : decide ((20 : Int) < ((nl : Nat) : Int)) = false) (k_nl : decide (20 < nl) = false) (l_nm : decide ((20 : Int) < ((nm : Nat) : Int)) = false) (k_nm : decide (20 < nm) = false) (lx : x.length = l) (ly : y.length = m) (lv : v.length = 0) (lu : u.length = 0) (lp : p.length = 1) (hl1 : l ≤ 20) (hlm : ¬ ((l : Nat) : Int) = ((m : Nat) : Int)) (hlm2 : (((l : Nat) : Int) != ((m : Nat) : Int)) = true) (hlm3 : ¬ l = m) (hn : ¬ n < 0) (hn2 : 2048 < n) (hi : ¬ ((i : Nat) : Int) < 0) (hi2 : (0 : Int) ≤ ((i : Nat) : Int)) (hil : ¬ ((i : Nat) : Int) < ((l : Nat) : Int)) (w : World) (kKL : KL w) (kKM : KM w) (kKT : KT w) :
  Calls Tryz.prog 9 #[.agg #[.int .i64 n1, .int .u32 d1], .slice al nl cl, .slice am nm cm, .int .i64 n, .int .i64 (i : Int)] w fun e w' => e = .returned (.bool true) ∧ Below w.heap.size w w' := by
 replace hKL := Lib.hid hKL
 replace HVa := Lib.hid HVa
 replace hKM := Lib.hid hKM
 replace HVb := Lib.hid HVb
 replace HQ := Lib.hid HQ
 replace HR := Lib.hid HR
 replace HNo := Lib.hid HNo
 replace HZ := Lib.hid HZ
 replace HU := Lib.hid HU
 replace HP := Lib.hid HP
 replace HI1 := Lib.hid HI1
 replace HMv := Lib.hid HMv
 replace hKT := Lib.hid hKT
 replace HW := Lib.hid HW
 have hL0 : GL w w [] := GL.start w
 have hT : PTs w [] := PTs.nil w
 replace lx := Lib.hid lx
 replace ly := Lib.hid ly
 replace lv := Lib.hid lv
 replace lu := Lib.hid lu
 replace lp := Lib.hid lp
 replace hT := (hT.new (.cells #[.int .i64 n1, .int .u32 d1] 24))
 replace hL0 := (hL0.new rfl [.int .i64 n1, .int .u32 d1] 24)
 generalize hweq : (w.alloc (.cells #[.int .i64 n1, .int .u32 d1] 24)) = x1 at hL0 hT
 go_enter Tryz.func9, Tryz.ntmps9
 have hN0 := cells_of _ 0 [] rfl (hL0.get _ _ List.mem_cons_self)
 simp only [cellsF, and_true, Nat.zero_add, Nat.reduceAdd] at hN0
 go_upto_region 3 with fail
 clear hN0
 clear hweq
 refine region_tfl 7 [EV (.slice al nl cl), PO x, EV (.slice am nm cm), PO y, EV (.agg #[.int .i64 n1, .int .u32 d1]), EV (fracV c), NewB x1.heap.size [.int .u64 0, .string ⟨#[]⟩, .bool false, .int .u64 0, .string ⟨#[]⟩]] [6] [1, 3] (by kernel_rfl) (by kernel_rfl) ?_ ?_ ?_ ?_ ?_ ?_
 ·exact stays_cons (stays_eq _) (stays_cons (stays_po _) (stays_cons (stays_eq _) (stays_cons (stays_po _) (stays_cons (stays_eq _) (stays_cons (stays_eq _) (stays_cons (stays_new _ _) stays_nil))))))
 ·simp only [List.take_succ_cons, List.take_zero, hopsRF, and_true]
  refine ⟨?_, ?_, ?_, ?_, ?_, ?_, ?_⟩ <;> intro fv w1 hb1 hp
  all_goals (simp only [putsV, Act.put, List.setIfInBounds_toArray, List.set_cons_succ, List.set_cons_zero, Nat.zero_add, Nat.reduceAdd])
  ·refine fr_no rfl (tyAt_none rfl ?_)
   simp [tyUpon, execOp, go_sem, Act.eval, Below.refl]
  ·have h0 : EV _ (fv 0) w1 := hp 0 (LC (by kernel_rfl))
   refine tyAt_none rfl ?_
   refine ty_call (f := 14) (args := #[.slice al nl cl]) (by simp [execOp, go_sem, Act.eval, h0]) ?_
   exact (HVa.out w1 (hKL.out.at ((hL0.call (below_drew hb1)).bl) kKL)).mono fun e w2 ⟨pv, h1, h2, h3, h4⟩ => ⟨pv, h1, ⟨⟨h2, fun g hg => (h3 g hg).2⟩, fun _ g hg => (h3 g hg).1⟩, h4⟩
  ·refine fr_no rfl (tyAt_none rfl ?_)
   simp [tyUpon, execOp, go_sem, Act.eval, Below.refl]
  ·have h2 : EV _ (fv 2) w1 := hp 2 (LC (by kernel_rfl))
   refine tyAt_none rfl ?_
   refine ty_call (f := 14) (args := #[.slice am nm cm]) (by simp [execOp, go_sem, Act.eval, h2]) ?_
   exact (HVb.out w1 (hKM.out.at ((hL0.call (below_drew hb1)).bl) kKM)).mono fun e w2 ⟨pv, h1, h2, h3, h4⟩ => ⟨pv, h1, ⟨⟨h2, fun g hg => (h3 g hg).2⟩, fun _ g hg => (h3 g hg).1⟩, h4⟩
  ·refine fr_no rfl (tyAt_none rfl ?_)
   have hc := (hL0.call (below_drew hb1)).fc
   simp only [fcG, cellsF, neK, and_true, ne_eq, Nat.zero_add, Nat.reduceAdd] at hc
   simp [tyUpon, execOp, go_sem, Act.eval, hc, Below.refl]
  ·have h4 : EV _ (fv 4) w1 := hp 4 (LC (by kernel_rfl))
   refine fr_no rfl (tyAt_none rfl ?_)
   refine ty_call (f := 15) (args := #[.agg #[.int .i64 n1, .int .u32 d1]]) (by simp [execOp, go_sem, Act.eval, h4]) ?_
   exact (HQ.out w1).mono fun e w2 ⟨h1, h2⟩ => ⟨_, h1, rfl, h2⟩
  ·exact fr_no rfl (tyAt_new rfl rfl new_frac (below_drew hb1).size)
 ·intro j hj u w2 hT2
  simp only [List.contains_iff_mem, List.mem_cons, List.not_mem_nil, or_false] at hj
  rcases hj with rfl
  exact NewB.ptr hT2
 ·intro j hj u w2 hT2
  simp only [List.contains_iff_mem, List.mem_cons, List.not_mem_nil, or_false] at hj
  rcases hj with rfl | rfl <;> exact hT2.2
 ·exact ⟨⟨_, _, _, _, rfl, rfl, rfl, new_frac⟩, trivial⟩
 ·intro fv x2 hb1 hv hne hsp
  have e0 : fv 0 = _ := hv 0 (by omega)
  obtain ⟨q1, -⟩ : PO x (fv 1) x2 := hv 1 (by omega)
  obtain ⟨g1, g1c, e1⟩ := ptn_form q1 lx.out
  have e2 : fv 2 = _ := hv 2 (by omega)
  obtain ⟨q3, -⟩ : PO y (fv 3) x2 := hv 3 (by omega)
  obtain ⟨g2, g2c, e3⟩ := ptn_form q3 ly.out
  have e4 : fv 4 = _ := hv 4 (by omega)
  have e5 : fv 5 = _ := hv 5 (by omega)
  obtain ⟨kb6, e6, n6, m6⟩ : NewB x1.heap.size [.int .u64 0, .string ⟨#[]⟩, .bool false, .int .u64 0, .string ⟨#[]⟩] (fv 6) x2 := hv 6 (by omega)
  have s1 : ∀ g, (fv 1).ownBlock = some g → g ≠ kb6 := fun g hg e => hsp 6 1 (by omega) (by omega) rfl rfl g hg (by rw [e6, e])
  have s3 : ∀ g, (fv 3).ownBlock = some g → g ≠ kb6 := fun g hg e => hsp 6 3 (by omega) (by omega) rfl rfl g hg (by rw [e6, e])
  rw [e1] at q1 s1
  rw [e3] at q3 s3
  simp only [List.take_succ_cons, List.take_zero, putsV, Act.put, List.setIfInBounds_toArray, List.set_cons_succ, List.set_cons_zero, List.drop_succ_cons, List.drop_zero, Nat.zero_add, Nat.reduceAdd, e0, e1, e2, e3, e4, e5, e6]
  have hx0 := hL0
  replace hL0 := hL0.call (below_drew hb1)
  replace hT := hT.call (below_drew hb1)
  replace hL0 := GL.tnew (M := []) hL0 hx0 n6 m6 (fun p hp => by cases hp)
  simp only [List.cons_append, List.nil_append] at hL0
  replace hT := (hT.cons q1).cons q3
  have hsS : ∀ p ∈ ([(.slice g2 m g2c, y), (.slice g1 l g1c, x)] : List (Value × List Rat)), ∀ g, p.1.ownBlock = some g → g ≠ kb6 := by
   intro p hp
   rcases List.mem_cons.1 hp with rfl | hp
   ·exact s3
   ·rw [List.mem_singleton.1 hp]; exact s1
  have hT1 := hT.putS ((((((Upd.refl kb6 x2).setCell 0 (.int .u64 ((zl c.num : Nat) : Int))).setCell 1 (.string (zh c.num))).setCell 2 (.bool (zs c.num))).setCell 3 (.int .u64 ((lo (fe c) : Nat) : Int))).setCell 4 (.string (hs (fe c)))) hsS
  have hA := hL0.fc
  simp only [fcG, cellsF, neK, and_true, ne_eq, Nat.zero_add, Nat.reduceAdd] at hA
  have hP := hL0.put 0 (kb6) _ rfl [.int .u64 ((zl c.num : Nat) : Int), .string (zh c.num), .bool (zs c.num), .int .u64 ((lo (fe c) : Nat) : Int), .string (hs (fe c))] rfl
  simp only [setAll, List.set_cons_zero, List.set_cons_succ] at hP
  generalize hput1 : (((((x2.setCell ⟨kb6, 0, none⟩ (.int .u64 ((zl c.num : Nat) : Int))).setCell ⟨kb6, 1, none⟩ (.string (zh c.num))).setCell ⟨kb6, 2, none⟩ (.bool (zs c.num))).setCell ⟨kb6, 3, none⟩ (.int .u64 ((lo (fe c) : Nat) : Int))).setCell ⟨kb6, 4, none⟩ (.string (hs (fe c)))) = x3 at hP hT1
  have hB1 := hP.fc
  simp only [fcG, cellsF, neK, and_true, ne_eq, Nat.zero_add, Nat.reduceAdd] at hB1
  replace hL0 := hP
  replace hT := hT1
  clear hT1 hsS s1 s3 q1 q3 n6 m6 hx0 hne hsp hv hb1 e0 e1 e2 e3 e4 e5 e6 fv
  go_wp2_with fail
  clear hA
  with_reducible refine Calls.mono (HR.out (.slice g1 l g1c) (.slice g2 m g2c) _ (hT.get (List.mem_cons_of_mem _ List.mem_cons_self)) (hT.get List.mem_cons_self)) ?_
  rintro e x4 ⟨rfl, hb⟩
  replace hL0 := hL0.call hb
  replace hT := hT.call hb
  clear hb hput1 hB1
  have hN0 := cells_of _ 0 [] rfl (hL0.get _ _ List.mem_cons_self)
  simp only [cellsF, and_true, Nat.zero_add, Nat.reduceAdd] at hN0
  go_wp2_with fail
  clear hN0
  with_reducible refine Calls.mono (HNo.out (.slice g1 l g1c) (.slice g2 m g2c) _ (hT.get (List.mem_cons_of_mem _ List.mem_cons_self)) (hT.get List.mem_cons_self)) ?_
  rintro e x5 ⟨rfl, hb⟩
  replace hL0 := hL0.call hb
  replace hT := hT.call hb
  clear hb
  go_wp2_with fail
  with_reducible refine Calls.mono (HZ.out _) ?_
  rintro e x6 ⟨rfl, hb⟩
  replace hL0 := hL0.call hb
  replace hT := hT.call hb
  clear hb
  go_wp2_with fail
  with_reducible refine Calls.mono (HU.out _) ?_
  rintro e x7 ⟨rfl, hb⟩
  replace hL0 := hL0.call hb
  replace hT := hT.call hb
  clear hb
  go_upto_region 19 with fail
  obtain ⟨α, iα, F, hF1, hF2⟩ := cls x7
  refine region_cls (F := F) (by kernel_rfl) (lexB_of_fast (by kernel_rfl)) (cls_drew hF2) ?_
  repeat (go_big_quiet_step (first | fail | (go_at_call 34; with_reducible exact cls_call hF1 hF2 HI1.out _)))
  refine wpQuiet_nil ?_
  rintro wq ⟨xq, rfl⟩
  replace hL0 := hL0.call (hF1 xq)
  replace hT := hT.call (hF1 xq)
  clear  hF2
  generalize F xq = x8 at hL0 hT ⊢
  clear hF1 xq iα F α
  replace hT := (hT.new (.cells #[.int .i64 (i : Int)] 3))
  replace hL0 := (hL0.new rfl [.int .i64 (i : Int)] 3)
  generalize hweq : (x8.alloc (.cells #[.int .i64 (i : Int)] 3)) = x9 at hL0 hT
  have hbv1 : ILs x9 (.slice (some ⟨x8.heap.size, 0, none⟩) 1 1) [(i : Int)] := ils_at (hL0.get _ _ List.mem_cons_self) rfl rfl
  replace hbv1 := Lib.hid hbv1
  go_wp2_with fail
  with_reducible refine Calls.mono (HP.out (.slice g1 l g1c) (.slice (some ⟨x8.heap.size, 0, none⟩) 1 1) _ (hT.get (List.mem_cons_of_mem _ List.mem_cons_self)) hbv1.out) ?_
  rintro e x10 ⟨rfl, hb⟩
  replace hL0 := hL0.call hb
  replace hT := hT.call hb
  clear hb hweq
  go_upto_region 22 with fail
  have hd1 : ¬ i < l := by omega
  have hd2 : ¬ ((i : Nat) : Int) < ((l : Nat) : Int) := by omega
  obtain ⟨α, iα, F, hF1, hF2⟩ := cls x10
  refine region_cls (F := F) (by kernel_rfl) (lexB_of_fast (by kernel_rfl)) (cls_drew hF2) ?_
  repeat (go_big_quiet_step (first | fail))
  refine wpQuiet_nil ?_
  rintro wq ⟨xq, rfl⟩
  replace hL0 := hL0.call (hF1 xq)
  replace hT := hT.call (hF1 xq)
  clear hd1 hd2 hF2
  generalize F xq = x11 at hL0 hT ⊢
  clear hF1 xq iα F α
  go_wp2_with fail
  with_reducible refine Calls.mono (HW.out _ (hKT.out.at hL0.bl kKT)) ?_
  rintro e x12 ⟨rfl, hb⟩
  replace hL0 := hL0.call hb
  replace hT := hT.call hb
  clear hb
  go_wp2_with fail
  exact bodyPost_ret (v := .bool true) (by simp [results, Tryz.results9, go_sem]) rfl ⟨rfl, hL0.bl⟩
set_option maxHeartbeats 16000000 in
set_option maxRecDepth 100000 in
theorem verr_1_high_in (al am : Option Addr) (nl cl nm cm l m : Nat) (n1 d1 : Int) (n : Nat) (i : Nat) (x y v u p : List Rat) (c one xi : Rat) (KL : World → Prop) (hKL : Keeps KL) (HVa : ∀ w, KL w → Calls Tryz.prog 14 #[.slice al nl cl] w fun e w' => ∃ pv, e = .returned pv ∧ PT w' pv x ∧ (∀ g, pv.ownBlock = some g → w.heap.size ≤ g ∧ g < w'.heap.size) ∧ Below w.heap.size w w') (KM : World → Prop) (hKM : Keeps KM) (HVb : ∀ w, KM w → Calls Tryz.prog 14 #[.slice am nm cm] w fun e w' => ∃ pv, e = .returned pv ∧ PT w' pv y ∧ (∀ g, pv.ownBlock = some g → w.heap.size ≤ g ∧ g < w'.heap.size) ∧ Below w.heap.size w w') (HQ : ∀ w, Calls Tryz.prog 15 #[.agg #[.int .i64 n1, .int .u32 d1]] w fun xe w' => xe = .returned (fracV c) ∧ Below w.heap.size w w') (HR : ∀ (p1 p2 : Value) (w : World), PT w p1 x → PT w p2 y → Calls Tryz.prog 48 #[fracV c, p1, p2] w fun e w' => e = .returned (.int .i64 1) ∧ Below w.heap.size w w') (HNo : ∀ (p1 p2 : Value) (w : World), PT w p1 x → PT w p2 y → Calls Tryz.prog 49 #[fracV c, p1, p2] w fun e w' => e = .returned (.bool true) ∧ Below w.heap.size w w') (HZ : ∀ (w : World), Calls Tryz.prog 40 #[.int .i64 (n : Int)] w fun e w' => ∃ pv, e = .returned (.tuple #[pv, .int .i64 0]) ∧ PT w' pv v ∧ Below w.heap.size w w') (HU : ∀ w, Calls Tryz.prog 47 #[.int .i64 (n : Int), .int .i64 (i : Int)] w fun xe w' => xe = .returned (.tuple #[.slice none 0 0, .int .i64 1]) ∧ Below w.heap.size w w') (HP : ∀ (p0 p1 : Value) (w : World), PT w p0 x → ILs w p1 ([(i : Int)]) → Calls Tryz.prog 39 #[p0, p1] w fun e w' => ∃ pv, e = .returned (.tuple #[pv, .int .i64 0]) ∧ PT w' pv p ∧ Below w.heap.size w w') (HI1 : ∀ w, Calls Tryz.prog 34 #[.int .i64 1] w fun xe w' => xe = .returned (fracV one) ∧ Below w.heap.size w w') (HMv : ∀ (p0 : Value) (w : World), PT w p0 v → Calls Tryz.prog 30 #[p0] w fun e w' => e = .returned (.agg #[.int .u64 0, .string ⟨#[]⟩, .bool false, .int .u64 0, .string ⟨#[]⟩]) ∧ Below w.heap.size w w') (KT : World → Prop) (hKT : Keeps KT) (HW : ∀ w, KT w → Calls Tryz.prog 12 #[] w fun xe w' => xe = .returned (.bool true) ∧ Below w.heap.size w w') (l_nl : decide ((20 : Int) < ((nl : Nat) : Int)) = false) (k_nl : decide (20 < nl) = false) (l_nm : decide ((20 : Int) < ((nm : Nat) : Int)) = false) (k_nm : decide (20 < nm) = false) (lx : x.length = l) (ly : y.length = m) (lv : v.length = n) (lu : u.length = 0) (lp : p.length = 1) (hl1 : l ≤ 20) (hlm : ¬ ((l : Nat) : Int) = ((m : Nat) : Int)) (hlm2 : (((l : Nat) : Int) != ((m : Nat) : Int)) = true) (hlm3 : ¬ l = m) (hn : ¬ ((n : Nat) : Int) < 0) (hn2 : ¬ (2048 : Int) < ((n : Nat) : Int)) (hn3 : n ≤ 2048) (hn4 : ((n : Nat) : Int) ≤ 2048) (hi : ¬ ((i : Nat) : Int) < 0) (hi2 : (0 : Int) ≤ ((i : Nat) : Int)) (hin : ((n : Nat) : Int) ≤ ((i : Nat) : Int)) (hil : ((i : Nat) : Int) < ((l : Nat) : Int)) (hl0 : 0 < l) (hxi : gv x i = xi) (hpi : gv p 0 = xi) (w : World) (kKL : KL w) (kKM : KM w) (kKT : KT w) :
  Calls Tryz.prog 9 #[.agg #[.int .i64 n1, .int .u32 d1], .slice al nl cl, .slice am nm cm, .int .i64 (n : Int), .int .i64 (i : Int)] w fun e w' => e = .returned (.bool true) ∧ Below w.heap.size w w' := by
 replace hKL := Lib.hid hKL
 replace HVa := Lib.hid HVa
 replace hKM := Lib.hid hKM
 replace HVb := Lib.hid HVb
 replace HQ := Lib.hid HQ
 replace HR := Lib.hid HR
 replace HNo := Lib.hid HNo
 replace HZ := Lib.hid HZ
 replace HU := Lib.hid HU
 replace HP := Lib.hid HP
 replace HI1 := Lib.hid HI1
 replace HMv := Lib.hid HMv
 replace hKT := Lib.hid hKT
 replace HW := Lib.hid HW
 have hL0 : GL w w [] := GL.start w
 have hT : PTs w [] := PTs.nil w
 replace lx := Lib.hid lx
 replace ly := Lib.hid ly
 replace lv := Lib.hid lv
 replace lu := Lib.hid lu
 replace lp := Lib.hid lp
 replace hl0 := Lib.hid hl0
 replace hxi := Lib.hid hxi
 replace hpi := Lib.hid hpi
 replace hT := (hT.new (.cells #[.int .i64 n1, .int .u32 d1] 24))
 replace hL0 := (hL0.new rfl [.int .i64 n1, .int .u32 d1] 24)
 generalize hweq : (w.alloc (.cells #[.int .i64 n1, .int .u32 d1] 24)) = x1 at hL0 hT
 go_enter Tryz.func9, Tryz.ntmps9
 have hN0 := cells_of _ 0 [] rfl (hL0.get _ _ List.mem_cons_self)
 simp only [cellsF, and_true, Nat.zero_add, Nat.reduceAdd] at hN0
 go_upto_region 3 with fail
 clear hN0
 clear hweq
 refine region_tfl 7 [EV (.slice al nl cl), PO x, EV (.slice am nm cm), PO y, EV (.agg #[.int .i64 n1, .int .u32 d1]), EV (fracV c), NewB x1.heap.size [.int .u64 0, .string ⟨#[]⟩, .bool false, .int .u64 0, .string ⟨#[]⟩]] [6] [1, 3] (by kernel_rfl) (by kernel_rfl) ?_ ?_ ?_ ?_ ?_ ?_
 ·exact stays_cons (stays_eq _) (stays_cons (stays_po _) (stays_cons (stays_eq _) (stays_cons (stays_po _) (stays_cons (stays_eq _) (stays_cons (stays_eq _) (stays_cons (stays_new _ _) stays_nil))))))
 ·simp only [List.take_succ_cons, List.take_zero, hopsRF, and_true]
  refine ⟨?_, ?_, ?_, ?_, ?_, ?_, ?_⟩ <;> intro fv w1 hb1 hp
  all_goals (simp only [putsV, Act.put, List.setIfInBounds_toArray, List.set_cons_succ, List.set_cons_zero, Nat.zero_add, Nat.reduceAdd])
  ·refine fr_no rfl (tyAt_none rfl ?_)
   simp [tyUpon, execOp, go_sem, Act.eval, Below.refl]
  ·have h0 : EV _ (fv 0) w1 := hp 0 (LC (by kernel_rfl))
   refine tyAt_none rfl ?_
   refine ty_call (f := 14) (args := #[.slice al nl cl]) (by simp [execOp, go_sem, Act.eval, h0]) ?_
   exact (HVa.out w1 (hKL.out.at ((hL0.call (below_drew hb1)).bl) kKL)).mono fun e w2 ⟨pv, h1, h2, h3, h4⟩ => ⟨pv, h1, ⟨⟨h2, fun g hg => (h3 g hg).2⟩, fun _ g hg => (h3 g hg).1⟩, h4⟩
  ·refine fr_no rfl (tyAt_none rfl ?_)
   simp [tyUpon, execOp, go_sem, Act.eval, Below.refl]
  ·have h2 : EV _ (fv 2) w1 := hp 2 (LC (by kernel_rfl))
   refine tyAt_none rfl ?_
   refine ty_call (f := 14) (args := #[.slice am nm cm]) (by simp [execOp, go_sem, Act.eval, h2]) ?_
   exact (HVb.out w1 (hKM.out.at ((hL0.call (below_drew hb1)).bl) kKM)).mono fun e w2 ⟨pv, h1, h2, h3, h4⟩ => ⟨pv, h1, ⟨⟨h2, fun g hg => (h3 g hg).2⟩, fun _ g hg => (h3 g hg).1⟩, h4⟩
  ·refine fr_no rfl (tyAt_none rfl ?_)
   have hc := (hL0.call (below_drew hb1)).fc
   simp only [fcG, cellsF, neK, and_true, ne_eq, Nat.zero_add, Nat.reduceAdd] at hc
   simp [tyUpon, execOp, go_sem, Act.eval, hc, Below.refl]
  ·have h4 : EV _ (fv 4) w1 := hp 4 (LC (by kernel_rfl))
   refine fr_no rfl (tyAt_none rfl ?_)
   refine ty_call (f := 15) (args := #[.agg #[.int .i64 n1, .int .u32 d1]]) (by simp [execOp, go_sem, Act.eval, h4]) ?_
   exact (HQ.out w1).mono fun e w2 ⟨h1, h2⟩ => ⟨_, h1, rfl, h2⟩
  ·exact fr_no rfl (tyAt_new rfl rfl new_frac (below_drew hb1).size)
 ·intro j hj u w2 hT2
  simp only [List.contains_iff_mem, List.mem_cons, List.not_mem_nil, or_false] at hj
  rcases hj with rfl
  exact NewB.ptr hT2
 ·intro j hj u w2 hT2
  simp only [List.contains_iff_mem, List.mem_cons, List.not_mem_nil, or_false] at hj
  rcases hj with rfl | rfl <;> exact hT2.2
 ·exact ⟨⟨_, _, _, _, rfl, rfl, rfl, new_frac⟩, trivial⟩
 ·intro fv x2 hb1 hv hne hsp
  have e0 : fv 0 = _ := hv 0 (by omega)
  obtain ⟨q1, -⟩ : PO x (fv 1) x2 := hv 1 (by omega)
  obtain ⟨g1, g1c, e1⟩ := ptp_form q1 lx.out hl0.out
  have e2 : fv 2 = _ := hv 2 (by omega)
  obtain ⟨q3, -⟩ : PO y (fv 3) x2 := hv 3 (by omega)
  obtain ⟨g2, g2c, e3⟩ := ptn_form q3 ly.out
  have e4 : fv 4 = _ := hv 4 (by omega)
  have e5 : fv 5 = _ := hv 5 (by omega)
  obtain ⟨kb6, e6, n6, m6⟩ : NewB x1.heap.size [.int .u64 0, .string ⟨#[]⟩, .bool false, .int .u64 0, .string ⟨#[]⟩] (fv 6) x2 := hv 6 (by omega)
  have s1 : ∀ g, (fv 1).ownBlock = some g → g ≠ kb6 := fun g hg e => hsp 6 1 (by omega) (by omega) rfl rfl g hg (by rw [e6, e])
  have s3 : ∀ g, (fv 3).ownBlock = some g → g ≠ kb6 := fun g hg e => hsp 6 3 (by omega) (by omega) rfl rfl g hg (by rw [e6, e])
  rw [e1] at q1 s1
  rw [e3] at q3 s3
  simp only [List.take_succ_cons, List.take_zero, putsV, Act.put, List.setIfInBounds_toArray, List.set_cons_succ, List.set_cons_zero, List.drop_succ_cons, List.drop_zero, Nat.zero_add, Nat.reduceAdd, e0, e1, e2, e3, e4, e5, e6]
  have hx0 := hL0
  replace hL0 := hL0.call (below_drew hb1)
  replace hT := hT.call (below_drew hb1)
  replace hL0 := GL.tnew (M := []) hL0 hx0 n6 m6 (fun p hp => by cases hp)
  simp only [List.cons_append, List.nil_append] at hL0
  replace hT := (hT.cons q1).cons q3
  have hsS : ∀ p ∈ ([(.slice g2 m g2c, y), (.slice (some ⟨g1, 0, none⟩) l g1c, x)] : List (Value × List Rat)), ∀ g, p.1.ownBlock = some g → g ≠ kb6 := by
   intro p hp
   rcases List.mem_cons.1 hp with rfl | hp
   ·exact s3
   ·rw [List.mem_singleton.1 hp]; exact s1
  have hT1 := hT.putS ((((((Upd.refl kb6 x2).setCell 0 (.int .u64 ((zl c.num : Nat) : Int))).setCell 1 (.string (zh c.num))).setCell 2 (.bool (zs c.num))).setCell 3 (.int .u64 ((lo (fe c) : Nat) : Int))).setCell 4 (.string (hs (fe c)))) hsS
  have hA := hL0.fc
  simp only [fcG, cellsF, neK, and_true, ne_eq, Nat.zero_add, Nat.reduceAdd] at hA
  have hP := hL0.put 0 (kb6) _ rfl [.int .u64 ((zl c.num : Nat) : Int), .string (zh c.num), .bool (zs c.num), .int .u64 ((lo (fe c) : Nat) : Int), .string (hs (fe c))] rfl
  simp only [setAll, List.set_cons_zero, List.set_cons_succ] at hP
  generalize hput1 : (((((x2.setCell ⟨kb6, 0, none⟩ (.int .u64 ((zl c.num : Nat) : Int))).setCell ⟨kb6, 1, none⟩ (.string (zh c.num))).setCell ⟨kb6, 2, none⟩ (.bool (zs c.num))).setCell ⟨kb6, 3, none⟩ (.int .u64 ((lo (fe c) : Nat) : Int))).setCell ⟨kb6, 4, none⟩ (.string (hs (fe c)))) = x3 at hP hT1
  have hB1 := hP.fc
  simp only [fcG, cellsF, neK, and_true, ne_eq, Nat.zero_add, Nat.reduceAdd] at hB1
  replace hL0 := hP
  replace hT := hT1
  clear hT1 hsS s1 s3 q1 q3 n6 m6 hx0 hne hsp hv hb1 e0 e1 e2 e3 e4 e5 e6 fv
  go_wp2_with fail
  clear hA
  with_reducible refine Calls.mono (HR.out (.slice (some ⟨g1, 0, none⟩) l g1c) (.slice g2 m g2c) _ (hT.get (List.mem_cons_of_mem _ List.mem_cons_self)) (hT.get List.mem_cons_self)) ?_
  rintro e x4 ⟨rfl, hb⟩
  replace hL0 := hL0.call hb
  replace hT := hT.call hb
  clear hb hput1 hB1
  have hN0 := cells_of _ 0 [] rfl (hL0.get _ _ List.mem_cons_self)
  simp only [cellsF, and_true, Nat.zero_add, Nat.reduceAdd] at hN0
  go_wp2_with fail
  clear hN0
  with_reducible refine Calls.mono (HNo.out (.slice (some ⟨g1, 0, none⟩) l g1c) (.slice g2 m g2c) _ (hT.get (List.mem_cons_of_mem _ List.mem_cons_self)) (hT.get List.mem_cons_self)) ?_
  rintro e x5 ⟨rfl, hb⟩
  replace hL0 := hL0.call hb
  replace hT := hT.call hb
  clear hb
  go_wp2_with fail
  with_reducible refine Calls.mono (HZ.out _) ?_
  rintro e x6 ⟨v0, rfl, q0, hb⟩
  replace hL0 := hL0.call hb
  replace hT := hT.call hb
  clear hb
  obtain ⟨g3, g3c, rfl⟩ := ptn_form q0 lv.out
  replace hT := hT.cons q0
  clear q0
  go_wp2_with fail
  with_reducible refine Calls.mono (HU.out _) ?_
  rintro e x7 ⟨rfl, hb⟩
  replace hL0 := hL0.call hb
  replace hT := hT.call hb
  clear hb
  go_upto_region 19 with fail
  have hkv := hT.get List.mem_cons_self
  replace hkv := Lib.hid hkv
  obtain ⟨α, iα, F, hF1, hF2⟩ := cls x7
  refine region_cls (F := F) (by kernel_rfl) (lexB_of_fast (by kernel_rfl)) (cls_drew hF2) ?_
  repeat (go_big_quiet_step (first | fail | (go_at_call 34; with_reducible exact cls_call hF1 hF2 HI1.out _) | (go_at_call 30; with_reducible exact cls_callK (SlQ.keeps _ _) hF1 hF2 hkv.out (fun w h => HMv.out _ w h) _)))
  refine wpQuiet_nil ?_
  rintro wq ⟨xq, rfl⟩
  replace hL0 := hL0.call (hF1 xq)
  replace hT := hT.call (hF1 xq)
  clear hkv hF2
  generalize F xq = x8 at hL0 hT ⊢
  clear hF1 xq iα F α
  replace hT := (hT.new (.cells #[.int .i64 (i : Int)] 3))
  replace hL0 := (hL0.new rfl [.int .i64 (i : Int)] 3)
  generalize hweq : (x8.alloc (.cells #[.int .i64 (i : Int)] 3)) = x9 at hL0 hT
  have hbv1 : ILs x9 (.slice (some ⟨x8.heap.size, 0, none⟩) 1 1) [(i : Int)] := ils_at (hL0.get _ _ List.mem_cons_self) rfl rfl
  replace hbv1 := Lib.hid hbv1
  go_wp2_with fail
  with_reducible refine Calls.mono (HP.out (.slice (some ⟨g1, 0, none⟩) l g1c) (.slice (some ⟨x8.heap.size, 0, none⟩) 1 1) _ (hT.get (List.mem_cons_of_mem _ (List.mem_cons_of_mem _ List.mem_cons_self))) hbv1.out) ?_
  rintro e x10 ⟨v0, rfl, q0, hb⟩
  replace hL0 := hL0.call hb
  replace hT := hT.call hb
  clear hb hweq
  obtain ⟨g4, g4c, rfl⟩ := ptp_form q0 lp.out (by decide)
  replace hT := hT.cons q0
  clear q0
  go_upto_region 22 with fail
  obtain ⟨xe0, xe1, xe2, xe3, xe4⟩ := fsc (slq_fs (hT.get (List.mem_cons_of_mem _ (List.mem_cons_of_mem _ (List.mem_cons_of_mem _ List.mem_cons_self)))) (by rw [lx.out]; omega)) i (by rw [lx.out]; omega)
  rw [hxi.out] at xe0 xe1 xe2 xe3 xe4
  obtain ⟨pe0, pe1, pe2, pe3, pe4⟩ := fsc (slq_fs (hT.get List.mem_cons_self) (by rw [lp.out]; omega)) 0 (by rw [lp.out]; omega)
  rw [hpi.out] at pe0 pe1 pe2 pe3 pe4
  obtain ⟨α, iα, F, hF1, hF2⟩ := cls x10
  have cxe0 := fun yz => keepsC (hF1 yz) xe0
  have cxe1 := fun yz => keepsC (hF1 yz) xe1
  have cxe2 := fun yz => keepsC (hF1 yz) xe2
  have cxe3 := fun yz => keepsC (hF1 yz) xe3
  have cxe4 := fun yz => keepsC (hF1 yz) xe4
  have cpe0 := fun yz => keepsC (hF1 yz) pe0
  have cpe1 := fun yz => keepsC (hF1 yz) pe1
  have cpe2 := fun yz => keepsC (hF1 yz) pe2
  have cpe3 := fun yz => keepsC (hF1 yz) pe3
  have cpe4 := fun yz => keepsC (hF1 yz) pe4
  clear xe0 xe1 xe2 xe3 xe4 pe0 pe1 pe2 pe3 pe4
  refine region_cls (F := F) (by kernel_rfl) (lexB_of_fast (by kernel_rfl)) (cls_drew hF2) ?_
  repeat (go_big_quiet_step (first | fail))
  refine wpQuiet_nil ?_
  rintro wq ⟨xq, rfl⟩
  replace hL0 := hL0.call (hF1 xq)
  replace hT := hT.call (hF1 xq)
  clear cxe0 cxe1 cxe2 cxe3 cxe4 cpe0 cpe1 cpe2 cpe3 cpe4 hF2
  generalize F xq = x11 at hL0 hT ⊢
  clear hF1 xq iα F α
  go_wp2_with fail
  with_reducible refine Calls.mono (HW.out _ (hKT.out.at hL0.bl kKT)) ?_
  rintro e x12 ⟨rfl, hb⟩
  replace hL0 := hL0.call hb
  replace hT := hT.call hb
  clear hb
  go_wp2_with fail
  exact bodyPost_ret (v := .bool true) (by simp [results, Tryz.results9, go_sem]) rfl ⟨rfl, hL0.bl⟩
set_option maxHeartbeats 16000000 in
set_option maxRecDepth 100000 in
theorem verr_1_high_high (al am : Option Addr) (nl cl nm cm l m : Nat) (n1 d1 : Int) (n : Nat) (i : Nat) (x y v u p : List Rat) (c one xi : Rat) (KL : World → Prop) (hKL : Keeps KL) (HVa : ∀ w, KL w → Calls Tryz.prog 14 #[.slice al nl cl] w fun e w' => ∃ pv, e = .returned pv ∧ PT w' pv x ∧ (∀ g, pv.ownBlock = some g → w.heap.size ≤ g ∧ g < w'.heap.size) ∧ Below w.heap.size w w') (KM : World → Prop) (hKM : Keeps KM) (HVb : ∀ w, KM w → Calls Tryz.prog 14 #[.slice am nm cm] w fun e w' => ∃ pv, e = .returned pv ∧ PT w' pv y ∧ (∀ g, pv.ownBlock = some g → w.heap.size ≤ g ∧ g < w'.heap.size) ∧ Below w.heap.size w w') (HQ : ∀ w, Calls Tryz.prog 15 #[.agg #[.int .i64 n1, .int .u32 d1]] w fun xe w' => xe = .returned (fracV c) ∧ Below w.heap.size w w') (HR : ∀ (p1 p2 : Value) (w : World), PT w p1 x → PT w p2 y → Calls Tryz.prog 48 #[fracV c, p1, p2] w fun e w' => e = .returned (.int .i64 1) ∧ Below w.heap.size w w') (HNo : ∀ (p1 p2 : Value) (w : World), PT w p1 x → PT w p2 y → Calls Tryz.prog 49 #[fracV c, p1, p2] w fun e w' => e = .returned (.bool true) ∧ Below w.heap.size w w') (HZ : ∀ (w : World), Calls Tryz.prog 40 #[.int .i64 (n : Int)] w fun e w' => ∃ pv, e = .returned (.tuple #[pv, .int .i64 0]) ∧ PT w' pv v ∧ Below w.heap.size w w') (HU : ∀ w, Calls Tryz.prog 47 #[.int .i64 (n : Int), .int .i64 (i : Int)] w fun xe w' => xe = .returned (.tuple #[.slice none 0 0, .int .i64 1]) ∧ Below w.heap.size w w') (HP : ∀ (p0 p1 : Value) (w : World), PT w p0 x → ILs w p1 ([(i : Int)]) → Calls Tryz.prog 39 #[p0, p1] w fun e w' => e = .returned (.tuple #[.slice none 0 0, .int .i64 1]) ∧ Below w.heap.size w w') (HI1 : ∀ w, Calls Tryz.prog 34 #[.int .i64 1] w fun xe w' => xe = .returned (fracV one) ∧ Below w.heap.size w w') (HMv : ∀ (p0 : Value) (w : World), PT w p0 v → Calls Tryz.prog 30 #[p0] w fun e w' => e = .returned (.agg #[.int .u64 0, .string ⟨#[]⟩, .bool false, .int .u64 0, .string ⟨#[]⟩]) ∧ Below w.heap.size w w') (KT : World → Prop) (hKT : Keeps KT) (HW : ∀ w, KT w → Calls Tryz.prog 12 #[] w fun xe w' => xe = .returned (.bool true) ∧ Below w.heap.size w w') (l_nl : decide ((20 : Int) < ((nl : Nat) : Int)) = false) (k_nl : decide (20 < nl) = false) (l_nm : decide ((20 : Int) < ((nm : Nat) : Int)) = false) (k_nm : decide (20 < nm) = false) (lx : x.length = l) (ly : y.length = m) (lv : v.length = n) (lu : u.length = 0) (lp : p.length = 1) (hl1 : l ≤ 20) (hlm : ¬ ((l : Nat) : Int) = ((m : Nat) : Int)) (hlm2 : (((l : Nat) : Int) != ((m : Nat) : Int)) = true) (hlm3 : ¬ l = m) (hn : ¬ ((n : Nat) : Int) < 0) (hn2 : ¬ (2048 : Int) < ((n : Nat) : Int)) (hn3 : n ≤ 2048) (hn4 : ((n : Nat) : Int) ≤ 2048) (hi : ¬ ((i : Nat) : Int) < 0) (hi2 : (0 : Int) ≤ ((i : Nat) : Int)) (hin : ((n : Nat) : Int) ≤ ((i : Nat) : Int)) (hil : ¬ ((i : Nat) : Int) < ((l : Nat) : Int)) (w : World) (kKL : KL w) (kKM : KM w) (kKT : KT w) :
  Calls Tryz.prog 9 #[.agg #[.int .i64 n1, .int .u32 d1], .slice al nl cl, .slice am nm cm, .int .i64 (n : Int), .int .i64 (i : Int)] w fun e w' => e = .returned (.bool true) ∧ Below w.heap.size w w' := by
 replace hKL := Lib.hid hKL
 replace HVa := Lib.hid HVa
 replace hKM := Lib.hid hKM
 replace HVb := Lib.hid HVb
 replace HQ := Lib.hid HQ
 replace HR := Lib.hid HR
 replace HNo := Lib.hid HNo
 replace HZ := Lib.hid HZ
 replace HU := Lib.hid HU
 replace HP := Lib.hid HP
 replace HI1 := Lib.hid HI1
 replace HMv := Lib.hid HMv
 replace hKT := Lib.hid hKT
 replace HW := Lib.hid HW
 have hL0 : GL w w [] := GL.start w
 have hT : PTs w [] := PTs.nil w
 replace lx := Lib.hid lx
 replace ly := Lib.hid ly
 replace lv := Lib.hid lv
 replace lu := Lib.hid lu
 replace lp := Lib.hid lp
 replace hT := (hT.new (.cells #[.int .i64 n1, .int .u32 d1] 24))
 replace hL0 := (hL0.new rfl [.int .i64 n1, .int .u32 d1] 24)
 generalize hweq : (w.alloc (.cells #[.int .i64 n1, .int .u32 d1] 24)) = x1 at hL0 hT
 go_enter Tryz.func9, Tryz.ntmps9
 have hN0 := cells_of _ 0 [] rfl (hL0.get _ _ List.mem_cons_self)
 simp only [cellsF, and_true, Nat.zero_add, Nat.reduceAdd] at hN0
 go_upto_region 3 with fail
 clear hN0
 clear hweq
 refine region_tfl 7 [EV (.slice al nl cl), PO x, EV (.slice am nm cm), PO y, EV (.agg #[.int .i64 n1, .int .u32 d1]), EV (fracV c), NewB x1.heap.size [.int .u64 0, .string ⟨#[]⟩, .bool false, .int .u64 0, .string ⟨#[]⟩]] [6] [1, 3] (by kernel_rfl) (by kernel_rfl) ?_ ?_ ?_ ?_ ?_ ?_
 ·exact stays_cons (stays_eq _) (stays_cons (stays_po _) (stays_cons (stays_eq _) (stays_cons (stays_po _) (stays_cons (stays_eq _) (stays_cons (stays_eq _) (stays_cons (stays_new _ _) stays_nil))))))
 ·simp only [List.take_succ_cons, List.take_zero, hopsRF, and_true]
  refine ⟨?_, ?_, ?_, ?_, ?_, ?_, ?_⟩ <;> intro fv w1 hb1 hp
  all_goals (simp only [putsV, Act.put, List.setIfInBounds_toArray, List.set_cons_succ, List.set_cons_zero, Nat.zero_add, Nat.reduceAdd])
  ·refine fr_no rfl (tyAt_none rfl ?_)
   simp [tyUpon, execOp, go_sem, Act.eval, Below.refl]
  ·have h0 : EV _ (fv 0) w1 := hp 0 (LC (by kernel_rfl))
   refine tyAt_none rfl ?_
   refine ty_call (f := 14) (args := #[.slice al nl cl]) (by simp [execOp, go_sem, Act.eval, h0]) ?_
   exact (HVa.out w1 (hKL.out.at ((hL0.call (below_drew hb1)).bl) kKL)).mono fun e w2 ⟨pv, h1, h2, h3, h4⟩ => ⟨pv, h1, ⟨⟨h2, fun g hg => (h3 g hg).2⟩, fun _ g hg => (h3 g hg).1⟩, h4⟩
  ·refine fr_no rfl (tyAt_none rfl ?_)
   simp [tyUpon, execOp, go_sem, Act.eval, Below.refl]
  ·have h2 : EV _ (fv 2) w1 := hp 2 (LC (by kernel_rfl))
   refine tyAt_none rfl ?_
   refine ty_call (f := 14) (args := #[.slice am nm cm]) (by simp [execOp, go_sem, Act.eval, h2]) ?_
   exact (HVb.out w1 (hKM.out.at ((hL0.call (below_drew hb1)).bl) kKM)).mono fun e w2 ⟨pv, h1, h2, h3, h4⟩ => ⟨pv, h1, ⟨⟨h2, fun g hg => (h3 g hg).2⟩, fun _ g hg => (h3 g hg).1⟩, h4⟩
  ·refine fr_no rfl (tyAt_none rfl ?_)
   have hc := (hL0.call (below_drew hb1)).fc
   simp only [fcG, cellsF, neK, and_true, ne_eq, Nat.zero_add, Nat.reduceAdd] at hc
   simp [tyUpon, execOp, go_sem, Act.eval, hc, Below.refl]
  ·have h4 : EV _ (fv 4) w1 := hp 4 (LC (by kernel_rfl))
   refine fr_no rfl (tyAt_none rfl ?_)
   refine ty_call (f := 15) (args := #[.agg #[.int .i64 n1, .int .u32 d1]]) (by simp [execOp, go_sem, Act.eval, h4]) ?_
   exact (HQ.out w1).mono fun e w2 ⟨h1, h2⟩ => ⟨_, h1, rfl, h2⟩
  ·exact fr_no rfl (tyAt_new rfl rfl new_frac (below_drew hb1).size)
 ·intro j hj u w2 hT2
  simp only [List.contains_iff_mem, List.mem_cons, List.not_mem_nil, or_false] at hj
  rcases hj with rfl
  exact NewB.ptr hT2
 ·intro j hj u w2 hT2
  simp only [List.contains_iff_mem, List.mem_cons, List.not_mem_nil, or_false] at hj
  rcases hj with rfl | rfl <;> exact hT2.2
 ·exact ⟨⟨_, _, _, _, rfl, rfl, rfl, new_frac⟩, trivial⟩
 ·intro fv x2 hb1 hv hne hsp
  have e0 : fv 0 = _ := hv 0 (by omega)
  obtain ⟨q1, -⟩ : PO x (fv 1) x2 := hv 1 (by omega)
  obtain ⟨g1, g1c, e1⟩ := ptn_form q1 lx.out
  have e2 : fv 2 = _ := hv 2 (by omega)
  obtain ⟨q3, -⟩ : PO y (fv 3) x2 := hv 3 (by omega)
  obtain ⟨g2, g2c, e3⟩ := ptn_form q3 ly.out
  have e4 : fv 4 = _ := hv 4 (by omega)
  have e5 : fv 5 = _ := hv 5 (by omega)
  obtain ⟨kb6, e6, n6, m6⟩ : NewB x1.heap.size [.int .u64 0, .string ⟨#[]⟩, .bool false, .int .u64 0, .string ⟨#[]⟩] (fv 6) x2 := hv 6 (by omega)
  have s1 : ∀ g, (fv 1).ownBlock = some g → g ≠ kb6 := fun g hg e => hsp 6 1 (by omega) (by omega) rfl rfl g hg (by rw [e6, e])
  have s3 : ∀ g, (fv 3).ownBlock = some g → g ≠ kb6 := fun g hg e => hsp 6 3 (by omega) (by omega) rfl rfl g hg (by rw [e6, e])
  rw [e1] at q1 s1
  rw [e3] at q3 s3
  simp only [List.take_succ_cons, List.take_zero, putsV, Act.put, List.setIfInBounds_toArray, List.set_cons_succ, List.set_cons_zero, List.drop_succ_cons, List.drop_zero, Nat.zero_add, Nat.reduceAdd, e0, e1, e2, e3, e4, e5, e6]
  have hx0 := hL0
  replace hL0 := hL0.call (below_drew hb1)
  replace hT := hT.call (below_drew hb1)
  replace hL0 := GL.tnew (M := []) hL0 hx0 n6 m6 (fun p hp => by cases hp)
  simp only [List.cons_append, List.nil_append] at hL0
  replace hT := (hT.cons q1).cons q3
  have hsS : ∀ p ∈ ([(.slice g2 m g2c, y), (.slice g1 l g1c, x)] : List (Value × List Rat)), ∀ g, p.1.ownBlock = some g → g ≠ kb6 := by
   intro p hp
   rcases List.mem_cons.1 hp with rfl | hp
   ·exact s3
   ·rw [List.mem_singleton.1 hp]; exact s1
  have hT1 := hT.putS ((((((Upd.refl kb6 x2).setCell 0 (.int .u64 ((zl c.num : Nat) : Int))).setCell 1 (.string (zh c.num))).setCell 2 (.bool (zs c.num))).setCell 3 (.int .u64 ((lo (fe c) : Nat) : Int))).setCell 4 (.string (hs (fe c)))) hsS
  have hA := hL0.fc
  simp only [fcG, cellsF, neK, and_true, ne_eq, Nat.zero_add, Nat.reduceAdd] at hA
  have hP := hL0.put 0 (kb6) _ rfl [.int .u64 ((zl c.num : Nat) : Int), .string (zh c.num), .bool (zs c.num), .int .u64 ((lo (fe c) : Nat) : Int), .string (hs (fe c))] rfl
  simp only [setAll, List.set_cons_zero, List.set_cons_succ] at hP
  generalize hput1 : (((((x2.setCell ⟨kb6, 0, none⟩ (.int .u64 ((zl c.num : Nat) : Int))).setCell ⟨kb6, 1, none⟩ (.string (zh c.num))).setCell ⟨kb6, 2, none⟩ (.bool (zs c.num))).setCell ⟨kb6, 3, none⟩ (.int .u64 ((lo (fe c) : Nat) : Int))).setCell ⟨kb6, 4, none⟩ (.string (hs (fe c)))) = x3 at hP hT1
  have hB1 := hP.fc
  simp only [fcG, cellsF, neK, and_true, ne_eq, Nat.zero_add, Nat.reduceAdd] at hB1
  replace hL0 := hP
  replace hT := hT1
  clear hT1 hsS s1 s3 q1 q3 n6 m6 hx0 hne hsp hv hb1 e0 e1 e2 e3 e4 e5 e6 fv
  go_wp2_with fail
  clear hA
  with_reducible refine Calls.mono (HR.out (.slice g1 l g1c) (.slice g2 m g2c) _ (hT.get (List.mem_cons_of_mem _ List.mem_cons_self)) (hT.get List.mem_cons_self)) ?_
  rintro e x4 ⟨rfl, hb⟩
  replace hL0 := hL0.call hb
  replace hT := hT.call hb
  clear hb hput1 hB1
  have hN0 := cells_of _ 0 [] rfl (hL0.get _ _ List.mem_cons_self)
  simp only [cellsF, and_true, Nat.zero_add, Nat.reduceAdd] at hN0
  go_wp2_with fail
  clear hN0
  with_reducible refine Calls.mono (HNo.out (.slice g1 l g1c) (.slice g2 m g2c) _ (hT.get (List.mem_cons_of_mem _ List.mem_cons_self)) (hT.get List.mem_cons_self)) ?_
  rintro e x5 ⟨rfl, hb⟩
  replace hL0 := hL0.call hb
  replace hT := hT.call hb
  clear hb
  go_wp2_with fail
  with_reducible refine Calls.mono (HZ.out _) ?_
  rintro e x6 ⟨v0, rfl, q0, hb⟩
  replace hL0 := hL0.call hb
  replace hT := hT.call hb
  clear hb
  obtain ⟨g3, g3c, rfl⟩ := ptn_form q0 lv.out
  replace hT := hT.cons q0
  clear q0
  go_wp2_with fail
  with_reducible refine Calls.mono (HU.out _) ?_
  rintro e x7 ⟨rfl, hb⟩
  replace hL0 := hL0.call hb
  replace hT := hT.call hb
  clear hb
  go_upto_region 19 with fail
  have hkv := hT.get List.mem_cons_self
  replace hkv := Lib.hid hkv
  obtain ⟨α, iα, F, hF1, hF2⟩ := cls x7
  refine region_cls (F := F) (by kernel_rfl) (lexB_of_fast (by kernel_rfl)) (cls_drew hF2) ?_
  repeat (go_big_quiet_step (first | fail | (go_at_call 34; with_reducible exact cls_call hF1 hF2 HI1.out _) | (go_at_call 30; with_reducible exact cls_callK (SlQ.keeps _ _) hF1 hF2 hkv.out (fun w h => HMv.out _ w h) _)))
  refine wpQuiet_nil ?_
  rintro wq ⟨xq, rfl⟩
  replace hL0 := hL0.call (hF1 xq)
  replace hT := hT.call (hF1 xq)
  clear hkv hF2
  generalize F xq = x8 at hL0 hT ⊢
  clear hF1 xq iα F α
  replace hT := (hT.new (.cells #[.int .i64 (i : Int)] 3))
  replace hL0 := (hL0.new rfl [.int .i64 (i : Int)] 3)
  generalize hweq : (x8.alloc (.cells #[.int .i64 (i : Int)] 3)) = x9 at hL0 hT
  have hbv1 : ILs x9 (.slice (some ⟨x8.heap.size, 0, none⟩) 1 1) [(i : Int)] := ils_at (hL0.get _ _ List.mem_cons_self) rfl rfl
  replace hbv1 := Lib.hid hbv1
  go_wp2_with fail
  with_reducible refine Calls.mono (HP.out (.slice g1 l g1c) (.slice (some ⟨x8.heap.size, 0, none⟩) 1 1) _ (hT.get (List.mem_cons_of_mem _ (List.mem_cons_of_mem _ List.mem_cons_self))) hbv1.out) ?_
  rintro e x10 ⟨rfl, hb⟩
  replace hL0 := hL0.call hb
  replace hT := hT.call hb
  clear hb hweq
  go_upto_region 22 with fail
  have hd1 : ¬ i < l := by omega
  have hd2 : ¬ ((i : Nat) : Int) < ((l : Nat) : Int) := by omega
  obtain ⟨α, iα, F, hF1, hF2⟩ := cls x10
  refine region_cls (F := F) (by kernel_rfl) (lexB_of_fast (by kernel_rfl)) (cls_drew hF2) ?_
  repeat (go_big_quiet_step (first | fail))
  refine wpQuiet_nil ?_
  rintro wq ⟨xq, rfl⟩
  replace hL0 := hL0.call (hF1 xq)
  replace hT := hT.call (hF1 xq)
  clear hd1 hd2 hF2
  generalize F xq = x11 at hL0 hT ⊢
  clear hF1 xq iα F α
  go_wp2_with fail
  with_reducible refine Calls.mono (HW.out _ (hKT.out.at hL0.bl kKT)) ?_
  rintro e x12 ⟨rfl, hb⟩
  replace hL0 := hL0.call hb
  replace hT := hT.call hb
  clear hb
  go_wp2_with fail
  exact bodyPost_ret (v := .bool true) (by simp [results, Tryz.results9, go_sem]) rfl ⟨rfl, hL0.bl⟩
set_option maxHeartbeats 16000000 in
set_option maxRecDepth 100000 in
theorem verr_1_in_in (al am : Option Addr) (nl cl nm cm l m : Nat) (n1 d1 : Int) (n : Nat) (i : Nat) (x y v u p : List Rat) (c one xi : Rat) (KL : World → Prop) (hKL : Keeps KL) (HVa : ∀ w, KL w → Calls Tryz.prog 14 #[.slice al nl cl] w fun e w' => ∃ pv, e = .returned pv ∧ PT w' pv x ∧ (∀ g, pv.ownBlock = some g → w.heap.size ≤ g ∧ g < w'.heap.size) ∧ Below w.heap.size w w') (KM : World → Prop) (hKM : Keeps KM) (HVb : ∀ w, KM w → Calls Tryz.prog 14 #[.slice am nm cm] w fun e w' => ∃ pv, e = .returned pv ∧ PT w' pv y ∧ (∀ g, pv.ownBlock = some g → w.heap.size ≤ g ∧ g < w'.heap.size) ∧ Below w.heap.size w w') (HQ : ∀ w, Calls Tryz.prog 15 #[.agg #[.int .i64 n1, .int .u32 d1]] w fun xe w' => xe = .returned (fracV c) ∧ Below w.heap.size w w') (HR : ∀ (p1 p2 : Value) (w : World), PT w p1 x → PT w p2 y → Calls Tryz.prog 48 #[fracV c, p1, p2] w fun e w' => e = .returned (.int .i64 1) ∧ Below w.heap.size w w') (HNo : ∀ (p1 p2 : Value) (w : World), PT w p1 x → PT w p2 y → Calls Tryz.prog 49 #[fracV c, p1, p2] w fun e w' => e = .returned (.bool true) ∧ Below w.heap.size w w') (HZ : ∀ (w : World), Calls Tryz.prog 40 #[.int .i64 (n : Int)] w fun e w' => ∃ pv, e = .returned (.tuple #[pv, .int .i64 0]) ∧ PT w' pv v ∧ Below w.heap.size w w') (HU : ∀ (w : World), Calls Tryz.prog 47 #[.int .i64 (n : Int), .int .i64 (i : Int)] w fun e w' => ∃ pv, e = .returned (.tuple #[pv, .int .i64 0]) ∧ PT w' pv u ∧ Below w.heap.size w w') (HP : ∀ (p0 p1 : Value) (w : World), PT w p0 x → ILs w p1 ([(i : Int)]) → Calls Tryz.prog 39 #[p0, p1] w fun e w' => ∃ pv, e = .returned (.tuple #[pv, .int .i64 0]) ∧ PT w' pv p ∧ Below w.heap.size w w') (HI1 : ∀ w, Calls Tryz.prog 34 #[.int .i64 1] w fun xe w' => xe = .returned (fracV one) ∧ Below w.heap.size w w') (HMv : ∀ (p0 : Value) (w : World), PT w p0 v → Calls Tryz.prog 30 #[p0] w fun e w' => e = .returned (.agg #[.int .u64 0, .string ⟨#[]⟩, .bool false, .int .u64 0, .string ⟨#[]⟩]) ∧ Below w.heap.size w w') (KT : World → Prop) (hKT : Keeps KT) (HW : ∀ w, KT w → Calls Tryz.prog 12 #[] w fun xe w' => xe = .returned (.bool true) ∧ Below w.heap.size w w') (l_nl : decide ((20 : Int) < ((nl : Nat) : Int)) = false) (k_nl : decide (20 < nl) = false) (l_nm : decide ((20 : Int) < ((nm : Nat) : Int)) = false) (k_nm : decide (20 < nm) = false) (lx : x.length = l) (ly : y.length = m) (lv : v.length = n) (lu : u.length = n) (lp : p.length = 1) (hl1 : l ≤ 20) (hlm : ¬ ((l : Nat) : Int) = ((m : Nat) : Int)) (hlm2 : (((l : Nat) : Int) != ((m : Nat) : Int)) = true) (hlm3 : ¬ l = m) (hn : ¬ ((n : Nat) : Int) < 0) (hn2 : ¬ (2048 : Int) < ((n : Nat) : Int)) (hn3 : n ≤ 2048) (hn4 : ((n : Nat) : Int) ≤ 2048) (hi : ¬ ((i : Nat) : Int) < 0) (hi2 : (0 : Int) ≤ ((i : Nat) : Int)) (hin : ¬ ((n : Nat) : Int) ≤ ((i : Nat) : Int)) (hin2 : ((i : Nat) : Int) < ((n : Nat) : Int)) (hn0 : 0 < n) (hui : gv u i = one) (hil : ((i : Nat) : Int) < ((l : Nat) : Int)) (hl0 : 0 < l) (hxi : gv x i = xi) (hpi : gv p 0 = xi) (w : World) (kKL : KL w) (kKM : KM w) (kKT : KT w) :
  Calls Tryz.prog 9 #[.agg #[.int .i64 n1, .int .u32 d1], .slice al nl cl, .slice am nm cm, .int .i64 (n : Int), .int .i64 (i : Int)] w fun e w' => e = .returned (.bool true) ∧ Below w.heap.size w w' := by
 replace hKL := Lib.hid hKL
 replace HVa := Lib.hid HVa
 replace hKM := Lib.hid hKM
 replace HVb := Lib.hid HVb
 replace HQ := Lib.hid HQ
 replace HR := Lib.hid HR
 replace HNo := Lib.hid HNo
 replace HZ := Lib.hid HZ
 replace HU := Lib.hid HU
 replace HP := Lib.hid HP
 replace HI1 := Lib.hid HI1
 replace HMv := Lib.hid HMv
 replace hKT := Lib.hid hKT
 replace HW := Lib.hid HW
 have hL0 : GL w w [] := GL.start w
 have hT : PTs w [] := PTs.nil w
 replace lx := Lib.hid lx
 replace ly := Lib.hid ly
 replace lv := Lib.hid lv
 replace lu := Lib.hid lu
 replace lp := Lib.hid lp
 replace hn0 := Lib.hid hn0
 replace hui := Lib.hid hui
 replace hl0 := Lib.hid hl0
 replace hxi := Lib.hid hxi
 replace hpi := Lib.hid hpi
 replace hT := (hT.new (.cells #[.int .i64 n1, .int .u32 d1] 24))
 replace hL0 := (hL0.new rfl [.int .i64 n1, .int .u32 d1] 24)
 generalize hweq : (w.alloc (.cells #[.int .i64 n1, .int .u32 d1] 24)) = x1 at hL0 hT
 go_enter Tryz.func9, Tryz.ntmps9
 have hN0 := cells_of _ 0 [] rfl (hL0.get _ _ List.mem_cons_self)
 simp only [cellsF, and_true, Nat.zero_add, Nat.reduceAdd] at hN0
 go_upto_region 3 with fail
 clear hN0
 clear hweq
 refine region_tfl 7 [EV (.slice al nl cl), PO x, EV (.slice am nm cm), PO y, EV (.agg #[.int .i64 n1, .int .u32 d1]), EV (fracV c), NewB x1.heap.size [.int .u64 0, .string ⟨#[]⟩, .bool false, .int .u64 0, .string ⟨#[]⟩]] [6] [1, 3] (by kernel_rfl) (by kernel_rfl) ?_ ?_ ?_ ?_ ?_ ?_
 ·exact stays_cons (stays_eq _) (stays_cons (stays_po _) (stays_cons (stays_eq _) (stays_cons (stays_po _) (stays_cons (stays_eq _) (stays_cons (stays_eq _) (stays_cons (stays_new _ _) stays_nil))))))
 ·simp only [List.take_succ_cons, List.take_zero, hopsRF, and_true]
  refine ⟨?_, ?_, ?_, ?_, ?_, ?_, ?_⟩ <;> intro fv w1 hb1 hp
  all_goals (simp only [putsV, Act.put, List.setIfInBounds_toArray, List.set_cons_succ, List.set_cons_zero, Nat.zero_add, Nat.reduceAdd])
  ·refine fr_no rfl (tyAt_none rfl ?_)
   simp [tyUpon, execOp, go_sem, Act.eval, Below.refl]
  ·have h0 : EV _ (fv 0) w1 := hp 0 (LC (by kernel_rfl))
   refine tyAt_none rfl ?_
   refine ty_call (f := 14) (args := #[.slice al nl cl]) (by simp [execOp, go_sem, Act.eval, h0]) ?_
   exact (HVa.out w1 (hKL.out.at ((hL0.call (below_drew hb1)).bl) kKL)).mono fun e w2 ⟨pv, h1, h2, h3, h4⟩ => ⟨pv, h1, ⟨⟨h2, fun g hg => (h3 g hg).2⟩, fun _ g hg => (h3 g hg).1⟩, h4⟩
  ·refine fr_no rfl (tyAt_none rfl ?_)
   simp [tyUpon, execOp, go_sem, Act.eval, Below.refl]
  ·have h2 : EV _ (fv 2) w1 := hp 2 (LC (by kernel_rfl))
   refine tyAt_none rfl ?_
   refine ty_call (f := 14) (args := #[.slice am nm cm]) (by simp [execOp, go_sem, Act.eval, h2]) ?_
   exact (HVb.out w1 (hKM.out.at ((hL0.call (below_drew hb1)).bl) kKM)).mono fun e w2 ⟨pv, h1, h2, h3, h4⟩ => ⟨pv, h1, ⟨⟨h2, fun g hg => (h3 g hg).2⟩, fun _ g hg => (h3 g hg).1⟩, h4⟩
  ·refine fr_no rfl (tyAt_none rfl ?_)
   have hc := (hL0.call (below_drew hb1)).fc
   simp only [fcG, cellsF, neK, and_true, ne_eq, Nat.zero_add, Nat.reduceAdd] at hc
   simp [tyUpon, execOp, go_sem, Act.eval, hc, Below.refl]
  ·have h4 : EV _ (fv 4) w1 := hp 4 (LC (by kernel_rfl))
   refine fr_no rfl (tyAt_none rfl ?_)
   refine ty_call (f := 15) (args := #[.agg #[.int .i64 n1, .int .u32 d1]]) (by simp [execOp, go_sem, Act.eval, h4]) ?_
   exact (HQ.out w1).mono fun e w2 ⟨h1, h2⟩ => ⟨_, h1, rfl, h2⟩
  ·exact fr_no rfl (tyAt_new rfl rfl new_frac (below_drew hb1).size)
 ·intro j hj u w2 hT2
  simp only [List.contains_iff_mem, List.mem_cons, List.not_mem_nil, or_false] at hj
  rcases hj with rfl
  exact NewB.ptr hT2
 ·intro j hj u w2 hT2
  simp only [List.contains_iff_mem, List.mem_cons, List.not_mem_nil, or_false] at hj
  rcases hj with rfl | rfl <;> exact hT2.2
 ·exact ⟨⟨_, _, _, _, rfl, rfl, rfl, new_frac⟩, trivial⟩
 ·intro fv x2 hb1 hv hne hsp
  have e0 : fv 0 = _ := hv 0 (by omega)
  obtain ⟨q1, -⟩ : PO x (fv 1) x2 := hv 1 (by omega)
  obtain ⟨g1, g1c, e1⟩ := ptp_form q1 lx.out hl0.out
  have e2 : fv 2 = _ := hv 2 (by omega)
  obtain ⟨q3, -⟩ : PO y (fv 3) x2 := hv 3 (by omega)
  obtain ⟨g2, g2c, e3⟩ := ptn_form q3 ly.out
  have e4 : fv 4 = _ := hv 4 (by omega)
  have e5 : fv 5 = _ := hv 5 (by omega)
  obtain ⟨kb6, e6, n6, m6⟩ : NewB x1.heap.size [.int .u64 0, .string ⟨#[]⟩, .bool false, .int .u64 0, .string ⟨#[]⟩] (fv 6) x2 := hv 6 (by omega)
  have s1 : ∀ g, (fv 1).ownBlock = some g → g ≠ kb6 := fun g hg e => hsp 6 1 (by omega) (by omega) rfl rfl g hg (by rw [e6, e])
  have s3 : ∀ g, (fv 3).ownBlock = some g → g ≠ kb6 := fun g hg e => hsp 6 3 (by omega) (by omega) rfl rfl g hg (by rw [e6, e])
  rw [e1] at q1 s1
  rw [e3] at q3 s3
  simp only [List.take_succ_cons, List.take_zero, putsV, Act.put, List.setIfInBounds_toArray, List.set_cons_succ, List.set_cons_zero, List.drop_succ_cons, List.drop_zero, Nat.zero_add, Nat.reduceAdd, e0, e1, e2, e3, e4, e5, e6]
  have hx0 := hL0
  replace hL0 := hL0.call (below_drew hb1)
  replace hT := hT.call (below_drew hb1)
  replace hL0 := GL.tnew (M := []) hL0 hx0 n6 m6 (fun p hp => by cases hp)
  simp only [List.cons_append, List.nil_append] at hL0
  replace hT := (hT.cons q1).cons q3
  have hsS : ∀ p ∈ ([(.slice g2 m g2c, y), (.slice (some ⟨g1, 0, none⟩) l g1c, x)] : List (Value × List Rat)), ∀ g, p.1.ownBlock = some g → g ≠ kb6 := by
   intro p hp
   rcases List.mem_cons.1 hp with rfl | hp
   ·exact s3
   ·rw [List.mem_singleton.1 hp]; exact s1
  have hT1 := hT.putS ((((((Upd.refl kb6 x2).setCell 0 (.int .u64 ((zl c.num : Nat) : Int))).setCell 1 (.string (zh c.num))).setCell 2 (.bool (zs c.num))).setCell 3 (.int .u64 ((lo (fe c) : Nat) : Int))).setCell 4 (.string (hs (fe c)))) hsS
  have hA := hL0.fc
  simp only [fcG, cellsF, neK, and_true, ne_eq, Nat.zero_add, Nat.reduceAdd] at hA
  have hP := hL0.put 0 (kb6) _ rfl [.int .u64 ((zl c.num : Nat) : Int), .string (zh c.num), .bool (zs c.num), .int .u64 ((lo (fe c) : Nat) : Int), .string (hs (fe c))] rfl
  simp only [setAll, List.set_cons_zero, List.set_cons_succ] at hP
  generalize hput1 : (((((x2.setCell ⟨kb6, 0, none⟩ (.int .u64 ((zl c.num : Nat) : Int))).setCell ⟨kb6, 1, none⟩ (.string (zh c.num))).setCell ⟨kb6, 2, none⟩ (.bool (zs c.num))).setCell ⟨kb6, 3, none⟩ (.int .u64 ((lo (fe c) : Nat) : Int))).setCell ⟨kb6, 4, none⟩ (.string (hs (fe c)))) = x3 at hP hT1
  have hB1 := hP.fc
  simp only [fcG, cellsF, neK, and_true, ne_eq, Nat.zero_add, Nat.reduceAdd] at hB1
  replace hL0 := hP
  replace hT := hT1
  clear hT1 hsS s1 s3 q1 q3 n6 m6 hx0 hne hsp hv hb1 e0 e1 e2 e3 e4 e5 e6 fv
  go_wp2_with fail
  clear hA
  with_reducible refine Calls.mono (HR.out (.slice (some ⟨g1, 0, none⟩) l g1c) (.slice g2 m g2c) _ (hT.get (List.mem_cons_of_mem _ List.mem_cons_self)) (hT.get List.mem_cons_self)) ?_
  rintro e x4 ⟨rfl, hb⟩
  replace hL0 := hL0.call hb
  replace hT := hT.call hb
  clear hb hput1 hB1
  have hN0 := cells_of _ 0 [] rfl (hL0.get _ _ List.mem_cons_self)
  simp only [cellsF, and_true, Nat.zero_add, Nat.reduceAdd] at hN0
  go_wp2_with fail
  clear hN0
  with_reducible refine Calls.mono (HNo.out (.slice (some ⟨g1, 0, none⟩) l g1c) (.slice g2 m g2c) _ (hT.get (List.mem_cons_of_mem _ List.mem_cons_self)) (hT.get List.mem_cons_self)) ?_
  rintro e x5 ⟨rfl, hb⟩
  replace hL0 := hL0.call hb
  replace hT := hT.call hb
  clear hb
  go_wp2_with fail
  with_reducible refine Calls.mono (HZ.out _) ?_
  rintro e x6 ⟨v0, rfl, q0, hb⟩
  replace hL0 := hL0.call hb
  replace hT := hT.call hb
  clear hb
  obtain ⟨g3, g3c, rfl⟩ := ptn_form q0 lv.out
  replace hT := hT.cons q0
  clear q0
  go_wp2_with fail
  with_reducible refine Calls.mono (HU.out _) ?_
  rintro e x7 ⟨v0, rfl, q0, hb⟩
  replace hL0 := hL0.call hb
  replace hT := hT.call hb
  clear hb
  obtain ⟨g4, g4c, rfl⟩ := ptp_form q0 lu.out hn0.out
  replace hT := hT.cons q0
  clear q0
  go_upto_region 19 with fail
  have hkv := hT.get (List.mem_cons_of_mem _ List.mem_cons_self)
  replace hkv := Lib.hid hkv
  obtain ⟨ue0, ue1, ue2, ue3, ue4⟩ := fsc (slq_fs (hT.get List.mem_cons_self) (by rw [lu.out]; omega)) i (by rw [lu.out]; omega)
  rw [hui.out] at ue0 ue1 ue2 ue3 ue4
  obtain ⟨α, iα, F, hF1, hF2⟩ := cls x7
  have cue0 := fun yz => keepsC (hF1 yz) ue0
  have cue1 := fun yz => keepsC (hF1 yz) ue1
  have cue2 := fun yz => keepsC (hF1 yz) ue2
  have cue3 := fun yz => keepsC (hF1 yz) ue3
  have cue4 := fun yz => keepsC (hF1 yz) ue4
  clear ue0 ue1 ue2 ue3 ue4
  refine region_cls (F := F) (by kernel_rfl) (lexB_of_fast (by kernel_rfl)) (cls_drew hF2) ?_
  repeat (go_big_quiet_step (first | fail | (go_at_call 34; with_reducible exact cls_call hF1 hF2 HI1.out _) | (go_at_call 30; with_reducible exact cls_callK (SlQ.keeps _ _) hF1 hF2 hkv.out (fun w h => HMv.out _ w h) _)))
  refine wpQuiet_nil ?_
  rintro wq ⟨xq, rfl⟩
  replace hL0 := hL0.call (hF1 xq)
  replace hT := hT.call (hF1 xq)
  clear cue0 cue1 cue2 cue3 cue4 hkv hF2
  generalize F xq = x8 at hL0 hT ⊢
  clear hF1 xq iα F α
  replace hT := (hT.new (.cells #[.int .i64 (i : Int)] 3))
  replace hL0 := (hL0.new rfl [.int .i64 (i : Int)] 3)
  generalize hweq : (x8.alloc (.cells #[.int .i64 (i : Int)] 3)) = x9 at hL0 hT
  have hbv1 : ILs x9 (.slice (some ⟨x8.heap.size, 0, none⟩) 1 1) [(i : Int)] := ils_at (hL0.get _ _ List.mem_cons_self) rfl rfl
  replace hbv1 := Lib.hid hbv1
  go_wp2_with fail
  with_reducible refine Calls.mono (HP.out (.slice (some ⟨g1, 0, none⟩) l g1c) (.slice (some ⟨x8.heap.size, 0, none⟩) 1 1) _ (hT.get (List.mem_cons_of_mem _ (List.mem_cons_of_mem _ (List.mem_cons_of_mem _ List.mem_cons_self)))) hbv1.out) ?_
  rintro e x10 ⟨v0, rfl, q0, hb⟩
  replace hL0 := hL0.call hb
  replace hT := hT.call hb
  clear hb hweq
  obtain ⟨g5, g5c, rfl⟩ := ptp_form q0 lp.out (by decide)
  replace hT := hT.cons q0
  clear q0
  go_upto_region 22 with fail
  obtain ⟨xe0, xe1, xe2, xe3, xe4⟩ := fsc (slq_fs (hT.get (List.mem_cons_of_mem _ (List.mem_cons_of_mem _ (List.mem_cons_of_mem _ (List.mem_cons_of_mem _ List.mem_cons_self))))) (by rw [lx.out]; omega)) i (by rw [lx.out]; omega)
  rw [hxi.out] at xe0 xe1 xe2 xe3 xe4
  obtain ⟨pe0, pe1, pe2, pe3, pe4⟩ := fsc (slq_fs (hT.get List.mem_cons_self) (by rw [lp.out]; omega)) 0 (by rw [lp.out]; omega)
  rw [hpi.out] at pe0 pe1 pe2 pe3 pe4
  obtain ⟨α, iα, F, hF1, hF2⟩ := cls x10
  have cxe0 := fun yz => keepsC (hF1 yz) xe0
  have cxe1 := fun yz => keepsC (hF1 yz) xe1
  have cxe2 := fun yz => keepsC (hF1 yz) xe2
  have cxe3 := fun yz => keepsC (hF1 yz) xe3
  have cxe4 := fun yz => keepsC (hF1 yz) xe4
  have cpe0 := fun yz => keepsC (hF1 yz) pe0
  have cpe1 := fun yz => keepsC (hF1 yz) pe1
  have cpe2 := fun yz => keepsC (hF1 yz) pe2
  have cpe3 := fun yz => keepsC (hF1 yz) pe3
  have cpe4 := fun yz => keepsC (hF1 yz) pe4
  clear xe0 xe1 xe2 xe3 xe4 pe0 pe1 pe2 pe3 pe4
  refine region_cls (F := F) (by kernel_rfl) (lexB_of_fast (by kernel_rfl)) (cls_drew hF2) ?_
  repeat (go_big_quiet_step (first | fail))
  refine wpQuiet_nil ?_
  rintro wq ⟨xq, rfl⟩
  replace hL0 := hL0.call (hF1 xq)
  replace hT := hT.call (hF1 xq)
  clear cxe0 cxe1 cxe2 cxe3 cxe4 cpe0 cpe1 cpe2 cpe3 cpe4 hF2
  generalize F xq = x11 at hL0 hT ⊢
  clear hF1 xq iα F α
  go_wp2_with fail
  with_reducible refine Calls.mono (HW.out _ (hKT.out.at hL0.bl kKT)) ?_
  rintro e x12 ⟨rfl, hb⟩
  replace hL0 := hL0.call hb
  replace hT := hT.call hb
  clear hb
  go_wp2_with fail
  exact bodyPost_ret (v := .bool true) (by simp [results, Tryz.results9, go_sem]) rfl ⟨rfl, hL0.bl⟩
set_option maxHeartbeats 16000000 in
set_option maxRecDepth 100000 in
theorem verr_1_in_high (al am : Option Addr) (nl cl nm cm l m : Nat) (n1 d1 : Int) (n : Nat) (i : Nat) (x y v u p : List Rat) (c one xi : Rat) (KL : World → Prop) (hKL : Keeps KL) (HVa : ∀ w, KL w → Calls Tryz.prog 14 #[.slice al nl cl] w fun e w' => ∃ pv, e = .returned pv ∧ PT w' pv x ∧ (∀ g, pv.ownBlock = some g → w.heap.size ≤ g ∧ g < w'.heap.size) ∧ Below w.heap.size w w') (KM : World → Prop) (hKM : Keeps KM) (HVb : ∀ w, KM w → Calls Tryz.prog 14 #[.slice am nm cm] w fun e w' => ∃ pv, e = .returned pv ∧ PT w' pv y ∧ (∀ g, pv.ownBlock = some g → w.heap.size ≤ g ∧ g < w'.heap.size) ∧ Below w.heap.size w w') (HQ : ∀ w, Calls Tryz.prog 15 #[.agg #[.int .i64 n1, .int .u32 d1]] w fun xe w' => xe = .returned (fracV c) ∧ Below w.heap.size w w') (HR : ∀ (p1 p2 : Value) (w : World), PT w p1 x → PT w p2 y → Calls Tryz.prog 48 #[fracV c, p1, p2] w fun e w' => e = .returned (.int .i64 1) ∧ Below w.heap.size w w') (HNo : ∀ (p1 p2 : Value) (w : World), PT w p1 x → PT w p2 y → Calls Tryz.prog 49 #[fracV c, p1, p2] w fun e w' => e = .returned (.bool true) ∧ Below w.heap.size w w') (HZ : ∀ (w : World), Calls Tryz.prog 40 #[.int .i64 (n : Int)] w fun e w' => ∃ pv, e = .returned (.tuple #[pv, .int .i64 0]) ∧ PT w' pv v ∧ Below w.heap.size w w') (HU : ∀ (w : World), Calls Tryz.prog 47 #[.int .i64 (n : Int), .int .i64 (i : Int)] w fun e w' => ∃ pv, e = .returned (.tuple #[pv, .int .i64 0]) ∧ PT w' pv u ∧ Below w.heap.size w w') (HP : ∀ (p0 p1 : Value) (w : World), PT w p0 x → ILs w p1 ([(i : Int)]) → Calls Tryz.prog 39 #[p0, p1] w fun e w' => e = .returned (.tuple #[.slice none 0 0, .int .i64 1]) ∧ Below w.heap.size w w') (HI1 : ∀ w, Calls Tryz.prog 34 #[.int .i64 1] w fun xe w' => xe = .returned (fracV one) ∧ Below w.heap.size w w') (HMv : ∀ (p0 : Value) (w : World), PT w p0 v → Calls Tryz.prog 30 #[p0] w fun e w' => e = .returned (.agg #[.int .u64 0, .string ⟨#[]⟩, .bool false, .int .u64 0, .string ⟨#[]⟩]) ∧ Below w.heap.size w w') (KT : World → Prop) (hKT : Keeps KT) (HW : ∀ w, KT w → Calls Tryz.prog 12 #[] w fun xe w' => xe = .returned (.bool true) ∧ Below w.heap.size w w') (l_nl : decide ((20 : Int) < ((nl : Nat) : Int)) = false) (k_nl : decide (20 < nl) = false) (l_nm : decide ((20 : Int) < ((nm : Nat) : Int)) = false) (k_nm : decide (20 < nm) = false) (lx : x.length = l) (ly : y.length = m) (lv : v.length = n) (lu : u.length = n) (lp : p.length = 1) (hl1 : l ≤ 20) (hlm : ¬ ((l : Nat) : Int) = ((m : Nat) : Int)) (hlm2 : (((l : Nat) : Int) != ((m : Nat) : Int)) = true) (hlm3 : ¬ l = m) (hn : ¬ ((n : Nat) : Int) < 0) (hn2 : ¬ (2048 : Int) < ((n : Nat) : Int)) (hn3 : n ≤ 2048) (hn4 : ((n : Nat) : Int) ≤ 2048) (hi : ¬ ((i : Nat) : Int) < 0) (hi2 : (0 : Int) ≤ ((i : Nat) : Int)) (hin : ¬ ((n : Nat) : Int) ≤ ((i : Nat) : Int)) (hin2 : ((i : Nat) : Int) < ((n : Nat) : Int)) (hn0 : 0 < n) (hui : gv u i = one) (hil : ¬ ((i : Nat) : Int) < ((l : Nat) : Int)) (w : World) (kKL : KL w) (kKM : KM w) (kKT : KT w) :
  Calls Tryz.prog 9 #[.agg #[.int .i64 n1, .int .u32 d1], .slice al nl cl, .slice am nm cm, .int .i64 (n : Int), .int .i64 (i : Int)] w fun e w' => e = .returned (.bool true) ∧ Below w.heap.size w w' := by
 replace hKL := Lib.hid hKL
 replace HVa := Lib.hid HVa
 replace hKM := Lib.hid hKM
 replace HVb := Lib.hid HVb
 replace HQ := Lib.hid HQ
 replace HR := Lib.hid HR
 replace HNo := Lib.hid HNo
 replace HZ := Lib.hid HZ
 replace HU := Lib.hid HU
 replace HP := Lib.hid HP
 replace HI1 := Lib.hid HI1
 replace HMv := Lib.hid HMv
 replace hKT := Lib.hid hKT
 replace HW := Lib.hid HW
 have hL0 : GL w w [] := GL.start w
 have hT : PTs w [] := PTs.nil w
 replace lx := Lib.hid lx
 replace ly := Lib.hid ly
 replace lv := Lib.hid lv
 replace lu := Lib.hid lu
 replace lp := Lib.hid lp
 replace hn0 := Lib.hid hn0
 replace hui := Lib.hid hui
 replace hT := (hT.new (.cells #[.int .i64 n1, .int .u32 d1] 24))
 replace hL0 := (hL0.new rfl [.int .i64 n1, .int .u32 d1] 24)
 generalize hweq : (w.alloc (.cells #[.int .i64 n1, .int .u32 d1] 24)) = x1 at hL0 hT
 go_enter Tryz.func9, Tryz.ntmps9
 have hN0 := cells_of _ 0 [] rfl (hL0.get _ _ List.mem_cons_self)
 simp only [cellsF, and_true, Nat.zero_add, Nat.reduceAdd] at hN0
 go_upto_region 3 with fail
 clear hN0
 clear hweq
 refine region_tfl 7 [EV (.slice al nl cl), PO x, EV (.slice am nm cm), PO y, EV (.agg #[.int .i64 n1, .int .u32 d1]), EV (fracV c), NewB x1.heap.size [.int .u64 0, .string ⟨#[]⟩, .bool false, .int .u64 0, .string ⟨#[]⟩]] [6] [1, 3] (by kernel_rfl) (by kernel_rfl) ?_ ?_ ?_ ?_ ?_ ?_
 ·exact stays_cons (stays_eq _) (stays_cons (stays_po _) (stays_cons (stays_eq _) (stays_cons (stays_po _) (stays_cons (stays_eq _) (stays_cons (stays_eq _) (stays_cons (stays_new _ _) stays_nil))))))
 ·simp only [List.take_succ_cons, List.take_zero, hopsRF, and_true]
  refine ⟨?_, ?_, ?_, ?_, ?_, ?_, ?_⟩ <;> intro fv w1 hb1 hp
  all_goals (simp only [putsV, Act.put, List.setIfInBounds_toArray, List.set_cons_succ, List.set_cons_zero, Nat.zero_add, Nat.reduceAdd])
  ·refine fr_no rfl (tyAt_none rfl ?_)
   simp [tyUpon, execOp, go_sem, Act.eval, Below.refl]
  ·have h0 : EV _ (fv 0) w1 := hp 0 (LC (by kernel_rfl))
   refine tyAt_none rfl ?_
   refine ty_call (f := 14) (args := #[.slice al nl cl]) (by simp [execOp, go_sem, Act.eval, h0]) ?_
   exact (HVa.out w1 (hKL.out.at ((hL0.call (below_drew hb1)).bl) kKL)).mono fun e w2 ⟨pv, h1, h2, h3, h4⟩ => ⟨pv, h1, ⟨⟨h2, fun g hg => (h3 g hg).2⟩, fun _ g hg => (h3 g hg).1⟩, h4⟩
  ·refine fr_no rfl (tyAt_none rfl ?_)
   simp [tyUpon, execOp, go_sem, Act.eval, Below.refl]
  ·have h2 : EV _ (fv 2) w1 := hp 2 (LC (by kernel_rfl))
   refine tyAt_none rfl ?_
   refine ty_call (f := 14) (args := #[.slice am nm cm]) (by simp [execOp, go_sem, Act.eval, h2]) ?_
   exact (HVb.out w1 (hKM.out.at ((hL0.call (below_drew hb1)).bl) kKM)).mono fun e w2 ⟨pv, h1, h2, h3, h4⟩ => ⟨pv, h1, ⟨⟨h2, fun g hg => (h3 g hg).2⟩, fun _ g hg => (h3 g hg).1⟩, h4⟩
  ·refine fr_no rfl (tyAt_none rfl ?_)
   have hc := (hL0.call (below_drew hb1)).fc
   simp only [fcG, cellsF, neK, and_true, ne_eq, Nat.zero_add, Nat.reduceAdd] at hc
   simp [tyUpon, execOp, go_sem, Act.eval, hc, Below.refl]
  ·have h4 : EV _ (fv 4) w1 := hp 4 (LC (by kernel_rfl))
   refine fr_no rfl (tyAt_none rfl ?_)
   refine ty_call (f := 15) (args := #[.agg #[.int .i64 n1, .int .u32 d1]]) (by simp [execOp, go_sem, Act.eval, h4]) ?_
   exact (HQ.out w1).mono fun e w2 ⟨h1, h2⟩ => ⟨_, h1, rfl, h2⟩
  ·exact fr_no rfl (tyAt_new rfl rfl new_frac (below_drew hb1).size)
 ·intro j hj u w2 hT2
  simp only [List.contains_iff_mem, List.mem_cons, List.not_mem_nil, or_false] at hj
  rcases hj with rfl
  exact NewB.ptr hT2
 ·intro j hj u w2 hT2
  simp only [List.contains_iff_mem, List.mem_cons, List.not_mem_nil, or_false] at hj
  rcases hj with rfl | rfl <;> exact hT2.2
 ·exact ⟨⟨_, _, _, _, rfl, rfl, rfl, new_frac⟩, trivial⟩
 ·intro fv x2 hb1 hv hne hsp
  have e0 : fv 0 = _ := hv 0 (by omega)
  obtain ⟨q1, -⟩ : PO x (fv 1) x2 := hv 1 (by omega)
  obtain ⟨g1, g1c, e1⟩ := ptn_form q1 lx.out
  have e2 : fv 2 = _ := hv 2 (by omega)
  obtain ⟨q3, -⟩ : PO y (fv 3) x2 := hv 3 (by omega)
  obtain ⟨g2, g2c, e3⟩ := ptn_form q3 ly.out
  have e4 : fv 4 = _ := hv 4 (by omega)
  have e5 : fv 5 = _ := hv 5 (by omega)
  obtain ⟨kb6, e6, n6, m6⟩ : NewB x1.heap.size [.int .u64 0, .string ⟨#[]⟩, .bool false, .int .u64 0, .string ⟨#[]⟩] (fv 6) x2 := hv 6 (by omega)
  have s1 : ∀ g, (fv 1).ownBlock = some g → g ≠ kb6 := fun g hg e => hsp 6 1 (by omega) (by omega) rfl rfl g hg (by rw [e6, e])
  have s3 : ∀ g, (fv 3).ownBlock = some g → g ≠ kb6 := fun g hg e => hsp 6 3 (by omega) (by omega) rfl rfl g hg (by rw [e6, e])
  rw [e1] at q1 s1
  rw [e3] at q3 s3
  simp only [List.take_succ_cons, List.take_zero, putsV, Act.put, List.setIfInBounds_toArray, List.set_cons_succ, List.set_cons_zero, List.drop_succ_cons, List.drop_zero, Nat.zero_add, Nat.reduceAdd, e0, e1, e2, e3, e4, e5, e6]
  have hx0 := hL0
  replace hL0 := hL0.call (below_drew hb1)
  replace hT := hT.call (below_drew hb1)
  replace hL0 := GL.tnew (M := []) hL0 hx0 n6 m6 (fun p hp => by cases hp)
  simp only [List.cons_append, List.nil_append] at hL0
  replace hT := (hT.cons q1).cons q3
  have hsS : ∀ p ∈ ([(.slice g2 m g2c, y), (.slice g1 l g1c, x)] : List (Value × List Rat)), ∀ g, p.1.ownBlock = some g → g ≠ kb6 := by
   intro p hp
   rcases List.mem_cons.1 hp with rfl | hp
   ·exact s3
   ·rw [List.mem_singleton.1 hp]; exact s1
  have hT1 := hT.putS ((((((Upd.refl kb6 x2).setCell 0 (.int .u64 ((zl c.num : Nat) : Int))).setCell 1 (.string (zh c.num))).setCell 2 (.bool (zs c.num))).setCell 3 (.int .u64 ((lo (fe c) : Nat) : Int))).setCell 4 (.string (hs (fe c)))) hsS
  have hA := hL0.fc
  simp only [fcG, cellsF, neK, and_true, ne_eq, Nat.zero_add, Nat.reduceAdd] at hA
  have hP := hL0.put 0 (kb6) _ rfl [.int .u64 ((zl c.num : Nat) : Int), .string (zh c.num), .bool (zs c.num), .int .u64 ((lo (fe c) : Nat) : Int), .string (hs (fe c))] rfl
  simp only [setAll, List.set_cons_zero, List.set_cons_succ] at hP
  generalize hput1 : (((((x2.setCell ⟨kb6, 0, none⟩ (.int .u64 ((zl c.num : Nat) : Int))).setCell ⟨kb6, 1, none⟩ (.string (zh c.num))).setCell ⟨kb6, 2, none⟩ (.bool (zs c.num))).setCell ⟨kb6, 3, none⟩ (.int .u64 ((lo (fe c) : Nat) : Int))).setCell ⟨kb6, 4, none⟩ (.string (hs (fe c)))) = x3 at hP hT1
  have hB1 := hP.fc
  simp only [fcG, cellsF, neK, and_true, ne_eq, Nat.zero_add, Nat.reduceAdd] at hB1
  replace hL0 := hP
  replace hT := hT1
  clear hT1 hsS s1 s3 q1 q3 n6 m6 hx0 hne hsp hv hb1 e0 e1 e2 e3 e4 e5 e6 fv
  go_wp2_with fail
  clear hA
  with_reducible refine Calls.mono (HR.out (.slice g1 l g1c) (.slice g2 m g2c) _ (hT.get (List.mem_cons_of_mem _ List.mem_cons_self)) (hT.get List.mem_cons_self)) ?_
  rintro e x4 ⟨rfl, hb⟩
  replace hL0 := hL0.call hb
  replace hT := hT.call hb
  clear hb hput1 hB1
  have hN0 := cells_of _ 0 [] rfl (hL0.get _ _ List.mem_cons_self)
  simp only [cellsF, and_true, Nat.zero_add, Nat.reduceAdd] at hN0
  go_wp2_with fail
  clear hN0
  with_reducible refine Calls.mono (HNo.out (.slice g1 l g1c) (.slice g2 m g2c) _ (hT.get (List.mem_cons_of_mem _ List.mem_cons_self)) (hT.get List.mem_cons_self)) ?_
  rintro e x5 ⟨rfl, hb⟩
  replace hL0 := hL0.call hb
  replace hT := hT.call hb
  clear hb
  go_wp2_with fail
  with_reducible refine Calls.mono (HZ.out _) ?_
  rintro e x6 ⟨v0, rfl, q0, hb⟩
  replace hL0 := hL0.call hb
  replace hT := hT.call hb
  clear hb
  obtain ⟨g3, g3c, rfl⟩ := ptn_form q0 lv.out
  replace hT := hT.cons q0
  clear q0
  go_wp2_with fail
  with_reducible refine Calls.mono (HU.out _) ?_
  rintro e x7 ⟨v0, rfl, q0, hb⟩
  replace hL0 := hL0.call hb
  replace hT := hT.call hb
  clear hb
  obtain ⟨g4, g4c, rfl⟩ := ptp_form q0 lu.out hn0.out
  replace hT := hT.cons q0
  clear q0
  go_upto_region 19 with fail
  have hkv := hT.get (List.mem_cons_of_mem _ List.mem_cons_self)
  replace hkv := Lib.hid hkv
  obtain ⟨ue0, ue1, ue2, ue3, ue4⟩ := fsc (slq_fs (hT.get List.mem_cons_self) (by rw [lu.out]; omega)) i (by rw [lu.out]; omega)
  rw [hui.out] at ue0 ue1 ue2 ue3 ue4
  obtain ⟨α, iα, F, hF1, hF2⟩ := cls x7
  have cue0 := fun yz => keepsC (hF1 yz) ue0
  have cue1 := fun yz => keepsC (hF1 yz) ue1
  have cue2 := fun yz => keepsC (hF1 yz) ue2
  have cue3 := fun yz => keepsC (hF1 yz) ue3
  have cue4 := fun yz => keepsC (hF1 yz) ue4
  clear ue0 ue1 ue2 ue3 ue4
  refine region_cls (F := F) (by kernel_rfl) (lexB_of_fast (by kernel_rfl)) (cls_drew hF2) ?_
  repeat (go_big_quiet_step (first | fail | (go_at_call 34; with_reducible exact cls_call hF1 hF2 HI1.out _) | (go_at_call 30; with_reducible exact cls_callK (SlQ.keeps _ _) hF1 hF2 hkv.out (fun w h => HMv.out _ w h) _)))
  refine wpQuiet_nil ?_
  rintro wq ⟨xq, rfl⟩
  replace hL0 := hL0.call (hF1 xq)
  replace hT := hT.call (hF1 xq)
  clear cue0 cue1 cue2 cue3 cue4 hkv hF2
  generalize F xq = x8 at hL0 hT ⊢
  clear hF1 xq iα F α
  replace hT := (hT.new (.cells #[.int .i64 (i : Int)] 3))
  replace hL0 := (hL0.new rfl [.int .i64 (i : Int)] 3)
  generalize hweq : (x8.alloc (.cells #[.int .i64 (i : Int)] 3)) = x9 at hL0 hT
  have hbv1 : ILs x9 (.slice (some ⟨x8.heap.size, 0, none⟩) 1 1) [(i : Int)] := ils_at (hL0.get _ _ List.mem_cons_self) rfl rfl
  replace hbv1 := Lib.hid hbv1
  go_wp2_with fail
  with_reducible refine Calls.mono (HP.out (.slice g1 l g1c) (.slice (some ⟨x8.heap.size, 0, none⟩) 1 1) _ (hT.get (List.mem_cons_of_mem _ (List.mem_cons_of_mem _ (List.mem_cons_of_mem _ List.mem_cons_self)))) hbv1.out) ?_
  rintro e x10 ⟨rfl, hb⟩
  replace hL0 := hL0.call hb
  replace hT := hT.call hb
  clear hb hweq
  go_upto_region 22 with fail
  have hd1 : ¬ i < l := by omega
  have hd2 : ¬ ((i : Nat) : Int) < ((l : Nat) : Int) := by omega
  obtain ⟨α, iα, F, hF1, hF2⟩ := cls x10
  refine region_cls (F := F) (by kernel_rfl) (lexB_of_fast (by kernel_rfl)) (cls_drew hF2) ?_
  repeat (go_big_quiet_step (first | fail))
  refine wpQuiet_nil ?_
  rintro wq ⟨xq, rfl⟩
  replace hL0 := hL0.call (hF1 xq)
  replace hT := hT.call (hF1 xq)
  clear hd1 hd2 hF2
  generalize F xq = x11 at hL0 hT ⊢
  clear hF1 xq iα F α
  go_wp2_with fail
  with_reducible refine Calls.mono (HW.out _ (hKT.out.at hL0.bl kKT)) ?_
  rintro e x12 ⟨rfl, hb⟩
  replace hL0 := hL0.call hb
  replace hT := hT.call hb
  clear hb
  go_wp2_with fail
  exact bodyPost_ret (v := .bool true) (by simp [results, Tryz.results9, go_sem]) rfl ⟨rfl, hL0.bl⟩
end Go.Proofs.YtoahpkelajimfaaGreatDoor
namespace Go.Proofs.YtoahpkelajimfaaGreatDoor
open Go.RowKit
attribute [local irreducible] lo hs sm s64 c64 d64 b64 mh ml pd pc qd qc val hiB str cmpI srD lz nb zl zh zs fe qmade
theorem all_two {x y : List Rat} {P : List Rat → Prop} (hx : P x) (hy : P y) : ∀ l ∈ [x, y], P l := by
 intro l hl
 rcases List.mem_cons.1 hl with rfl | hl
 ·exact hx
 ·rw [List.mem_singleton.1 hl]; exact hy
theorem refused_eq {c : Rat} {x y : List Rat} {n : Nat} (hn : n ≤ 20) (sc : Sz c 1) (gx : GV x n 1) (gy : GV y n 1) (p1 p2 : Value) (w : World) (h1 : PT w p1 x) (h2 : PT w p2 y) :
  Calls Tryz.prog 48 #[fracV c, p1, p2] w fun e w' => e = .returned (.int .i64 0) ∧ Below w.heap.size w w' :=
 vrefused_ok c (dotL n x y) x y (sumL n x y) (difL n x y) _ _ _
  (fun p q w h g => addG gx gy (by omega) (by omega) (by omega) p q w h g)
  (fun p q w h g => subG gx gy (by omega) (by omega) (by omega) p q w h g)
  (fun p q w h g => nv_two (vaxpyV c x y n 1 gx.len gy.len (by omega) (by omega) sc gx.sz gy.sz p q w h g))
  (fun p q w h g => DotG gx gy (by omega) (by omega) (by omega) p q w h g)
  (fun p w h => nv_two (vsumV [x, y] n 1 (by simp) (by simp) (all_two gx.len gy.len) (by omega) (by omega) (all_two gx.sz gy.sz) p w h))
  (fun p q w h g => nv_two (vmixV [c, c] [x, y] n 1 (by simp) rfl (by simp) (all_two gx.len gy.len) (by omega) (by omega) (all_two gx.sz gy.sz) (fun q hq => by
   rcases List.mem_cons.1 hq with rfl | hq
   ·exact sc
   ·rw [List.mem_singleton.1 hq]; exact sc) p q w h g)) p1 p2 w h1 h2
theorem mix_arg' {c : Rat} {x y : List Rat} (hx : x.length ≤ 20) (hy : y.length ≤ 20) (hne : x.length ≠ y.length) (p q : Value) (w : World) (h : PT w p [c, c]) (g : VLs w q [x, y]) :
  Calls Tryz.prog 38 #[p, q] w fun e w' => e = .returned (.tuple #[.slice none 0 0, .int .i64 1]) ∧ Below w.heap.size w w' := by
 obtain ⟨ao, n, k, rfl, -⟩ := pt_form h
 exact vmix_arg ao n k [x, y] (by simp) (le_two (by omega) (by omega)) (ne_two hne) q w g
theorem refused_ne {c : Rat} {x y : List Rat} (hx : x.length ≤ 20) (hy : y.length ≤ 20) (hne : x.length ≠ y.length) (p1 p2 : Value) (w : World) (h1 : PT w p1 x) (h2 : PT w p2 y) :
  Calls Tryz.prog 48 #[fracV c, p1, p2] w fun e w' => e = .returned (.int .i64 1) ∧ Below w.heap.size w w' :=
 vrefused_arg c x y
  (fun p q w h g => vadd_arg x y (by omega) (by omega) hne p q w h g)
  (fun p q w h g => vsub_arg x y (by omega) (by omega) hne p q w h g)
  (fun p q w h g => vaxpy_arg c x y (by omega) (by omega) hne p q w h g)
  (fun p q w h g => vDot_arg x y (by omega) (by omega) hne p q w h g)
  (fun p w h => vsum_arg [x, y] (by simp) (le_two (by omega) (by omega)) (ne_two hne) p w h)
  (fun p q w h g => mix_arg' hx hy hne p q w h g) p1 p2 w h1 h2
theorem nothing_ne {c : Rat} {x y : List Rat} (hx : x.length ≤ 20) (hy : y.length ≤ 20) (hne : x.length ≠ y.length) (p1 p2 : Value) (w : World) (h1 : PT w p1 x) (h2 : PT w p2 y) :
  Calls Tryz.prog 49 #[fracV c, p1, p2] w fun e w' => e = .returned (.bool true) ∧ Below w.heap.size w w' :=
 vnothing_arg c x y
  (fun p q w h g => vadd_arg x y (by omega) (by omega) hne p q w h g)
  (fun p q w h g => vsub_arg x y (by omega) (by omega) hne p q w h g)
  (fun p q w h g => vaxpy_arg c x y (by omega) (by omega) hne p q w h g)
  (fun p q w h g => vDot_arg x y (by omega) (by omega) hne p q w h g)
  (fun p w h => vsum_arg [x, y] (by simp) (le_two (by omega) (by omega)) (ne_two hne) p w h)
  (fun p q w h g => mix_arg' hx hy hne p q w h g) p1 p2 w h1 h2
theorem nul_max (n : Nat) (hn : n ≤ 2048) (p : Value) (w : World) (h : PT w p (nulL n)) :
  Calls Tryz.prog 30 #[p] w fun e w' => e = .returned (.agg #[.int .u64 0, .string ⟨#[]⟩, .bool false, .int .u64 0, .string ⟨#[]⟩]) ∧ Below w.heap.size w w' := by
 have hM := maxG (GV.nul n) hn (by omega) p w h
 rwa [(mx_null n (nulL n) (GV.nul n).len).2 rfl, frV_q0] at hM
theorem one_int (w : World) : Calls Tryz.prog 34 #[.int .i64 1] w fun e w' => e = .returned (fracV 1) ∧ Below w.heap.size w w' := intF 1 (by decide) (by decide) w
def uniL (n i : Nat) : List Rat := tabV n fun k => if k = i then 1 else 0
theorem uni_len (n i : Nat) : (uniL n i).length = n := tabV_len _ _
theorem uni_at {n i : Nat} (h : i < n) : gv (uniL n i) i = 1 := by unfold uniL; rw [gv_tab h, if_pos rfl]
theorem par_at (x : List Rat) (i : Nat) : gv (tabV 1 (partV x [i])) 0 = gv x i := by rw [gv_tab (by omega)]; rfl
set_option maxHeartbeats 4000000 in
theorem verr_eq (l0 : Int × Int) (la lb : List (Int × Int)) (n i : Int) (h0 : QR l0) (al am : Option Addr) (nl cl nm cm : Nat) (w : World) (hv0 : QV w (.slice al nl cl) la) (hu : QV w (.slice am nm cm) lb) (ht : Tab w) (g1 : ¬ 20 < nl) (g2 : ¬ 20 < nm) (hlm : nl = nm) :
  Calls Tryz.prog 9 #[.agg #[.int .i64 l0.1, .int .u32 l0.2], .slice al nl cl, .slice am nm cm, .int .i64 n, .int .i64 i] w fun e w' => e = .returned (.bool true) ∧ Below w.heap.size w w' := by
 subst hlm
 have gx := gv_of (qv_len hv0) (qv_rg hv0)
 have gy := gv_of (qv_len hu) (qv_rg hu)
 have hA := fun w hv => vVf_w la nl (qv_len hv0) (by omega) (.slice al nl cl) w hv
 have hB := fun w hv => vVf_w lb nl (qv_len hu) (by omega) (.slice am nl cm) w hv
 generalize la.map qm = x at gx hA
 generalize lb.map qm = y at gy hB
 have sc := qm_sz h0
 have HQ := fun w => qmof h0 w
 generalize qm l0 = c at sc HQ
 have HR := fun p q w h g => refused_eq (by omega) sc gx gy p q w h g
 by_cases hi : i < 0
 ·by_cases hn : n < 0
  ·refine verr_0_neg_low al am nl cl nl cm nl nl l0.1 l0.2 n i x y (nulL 0) (nulL 0) (nulL 1) c 1 0 (fun w => QV w (.slice al nl cl) la) (QV.keeps _ _) hA (fun w => QV w (.slice am nl cm) lb) (QV.keeps _ _) hB HQ
    HR
    (fun w => vzero_neg n hn w) (fun w => vunit_neg n i hn w)
    (fun p q w h g => vpart_arg x i nl gx.len (by omega) (by omega) p q w h g)
    one_int (nul_max 0 (by omega)) Tab Keeps.tab vworks_any (decide_eq_false (by omega)) (decide_eq_false g1) (decide_eq_false (by omega)) (decide_eq_false g2)
    gx.len gy.len (GV.nul 0).len (GV.nul 0).len (GV.nul 1).len (by omega)
    hn hi (by omega) w hv0 hu ht
  by_cases hn2 : 2048 < n
  ·refine verr_0_big_low al am nl cl nl cm nl nl l0.1 l0.2 n i x y (nulL 0) (nulL 0) (nulL 1) c 1 0 (fun w => QV w (.slice al nl cl) la) (QV.keeps _ _) hA (fun w => QV w (.slice am nl cm) lb) (QV.keeps _ _) hB HQ
    HR
    (fun w => vzero_big n hn2 w) (fun w => vunit_big n i hn2 w)
    (fun p q w h g => vpart_arg x i nl gx.len (by omega) (by omega) p q w h g)
    one_int (nul_max 0 (by omega)) Tab Keeps.tab vworks_any (decide_eq_false (by omega)) (decide_eq_false g1) (decide_eq_false (by omega)) (decide_eq_false g2)
    gx.len gy.len (GV.nul 0).len (GV.nul 0).len (GV.nul 1).len (by omega)
    hn hn2 hi (by omega) w hv0 hu ht
  obtain ⟨k, rfl⟩ : ∃ k : Nat, n = (k : Int) := ⟨n.toNat, by omega⟩
  refine verr_0_low_low al am nl cl nl cm nl nl l0.1 l0.2 k i x y (nulL k) (nulL 0) (nulL 1) c 1 0 (fun w => QV w (.slice al nl cl) la) (QV.keeps _ _) hA (fun w => QV w (.slice am nl cm) lb) (QV.keeps _ _) hB HQ
   HR
   (fun w => zeroG (by omega) w) (fun w => vunit_out k i (by omega) (by omega) w)
   (fun p q w h g => vpart_arg x i nl gx.len (by omega) (by omega) p q w h g)
   one_int (nul_max k (by omega)) Tab Keeps.tab vworks_any (decide_eq_false (by omega)) (decide_eq_false g1) (decide_eq_false (by omega)) (decide_eq_false g2)
   gx.len gy.len (GV.nul k).len (GV.nul 0).len (GV.nul 1).len (by omega)
   (by omega) (by omega) (by omega) (by omega) hi (by omega) w hv0 hu ht
 obtain ⟨j, rfl⟩ : ∃ j : Nat, i = (j : Int) := ⟨i.toNat, by omega⟩
 by_cases hn : n < 0
 ·by_cases hil : j < nl
  ·refine verr_0_neg_in al am nl cl nl cm nl nl l0.1 l0.2 n j x y (nulL 0) (nulL 0) (tabV 1 (partV x [j])) c 1 (gv x j) (fun w => QV w (.slice al nl cl) la) (QV.keeps _ _) hA (fun w => QV w (.slice am nl cm) lb) (QV.keeps _ _) hB HQ
    HR
    (fun w => vzero_neg n hn w) (fun w => vunit_neg n (j : Int) hn w)
    (fun p q w h g => nv_two (vpartV x [j] nl 1 gx.len (by omega) rfl (by omega) (fun z hz => by rw [List.mem_singleton.1 hz]; omega) p q w h g))
    one_int (nul_max 0 (by omega)) Tab Keeps.tab vworks_any (decide_eq_false (by omega)) (decide_eq_false g1) (decide_eq_false (by omega)) (decide_eq_false g2)
    gx.len gy.len (GV.nul 0).len (GV.nul 0).len (tabV_len _ _) (by omega)
    hn (by omega) (by omega) (by omega) (by omega) rfl (par_at x j) w hv0 hu ht
  ·refine verr_0_neg_high al am nl cl nl cm nl nl l0.1 l0.2 n j x y (nulL 0) (nulL 0) (nulL 1) c 1 0 (fun w => QV w (.slice al nl cl) la) (QV.keeps _ _) hA (fun w => QV w (.slice am nl cm) lb) (QV.keeps _ _) hB HQ
    HR
    (fun w => vzero_neg n hn w) (fun w => vunit_neg n (j : Int) hn w)
    (fun p q w h g => vpart_arg x (j : Int) nl gx.len (by omega) (by omega) p q w h g)
    one_int (nul_max 0 (by omega)) Tab Keeps.tab vworks_any (decide_eq_false (by omega)) (decide_eq_false g1) (decide_eq_false (by omega)) (decide_eq_false g2)
    gx.len gy.len (GV.nul 0).len (GV.nul 0).len (GV.nul 1).len (by omega)
    hn (by omega) (by omega) (by omega) w hv0 hu ht
 by_cases hn2 : 2048 < n
 ·by_cases hil : j < nl
  ·refine verr_0_big_in al am nl cl nl cm nl nl l0.1 l0.2 n j x y (nulL 0) (nulL 0) (tabV 1 (partV x [j])) c 1 (gv x j) (fun w => QV w (.slice al nl cl) la) (QV.keeps _ _) hA (fun w => QV w (.slice am nl cm) lb) (QV.keeps _ _) hB HQ
    HR
    (fun w => vzero_big n hn2 w) (fun w => vunit_big n (j : Int) hn2 w)
    (fun p q w h g => nv_two (vpartV x [j] nl 1 gx.len (by omega) rfl (by omega) (fun z hz => by rw [List.mem_singleton.1 hz]; omega) p q w h g))
    one_int (nul_max 0 (by omega)) Tab Keeps.tab vworks_any (decide_eq_false (by omega)) (decide_eq_false g1) (decide_eq_false (by omega)) (decide_eq_false g2)
    gx.len gy.len (GV.nul 0).len (GV.nul 0).len (tabV_len _ _) (by omega)
    hn hn2 (by omega) (by omega) (by omega) (by omega) rfl (par_at x j) w hv0 hu ht
  ·refine verr_0_big_high al am nl cl nl cm nl nl l0.1 l0.2 n j x y (nulL 0) (nulL 0) (nulL 1) c 1 0 (fun w => QV w (.slice al nl cl) la) (QV.keeps _ _) hA (fun w => QV w (.slice am nl cm) lb) (QV.keeps _ _) hB HQ
    HR
    (fun w => vzero_big n hn2 w) (fun w => vunit_big n (j : Int) hn2 w)
    (fun p q w h g => vpart_arg x (j : Int) nl gx.len (by omega) (by omega) p q w h g)
    one_int (nul_max 0 (by omega)) Tab Keeps.tab vworks_any (decide_eq_false (by omega)) (decide_eq_false g1) (decide_eq_false (by omega)) (decide_eq_false g2)
    gx.len gy.len (GV.nul 0).len (GV.nul 0).len (GV.nul 1).len (by omega)
    hn hn2 (by omega) (by omega) (by omega) w hv0 hu ht
 obtain ⟨k, rfl⟩ : ∃ k : Nat, n = (k : Int) := ⟨n.toNat, by omega⟩
 by_cases hin : j < k
 ·by_cases hil : j < nl
  ·refine verr_0_in_in al am nl cl nl cm nl nl l0.1 l0.2 k j x y (nulL k) (uniL k j) (tabV 1 (partV x [j])) c 1 (gv x j) (fun w => QV w (.slice al nl cl) la) (QV.keeps _ _) hA (fun w => QV w (.slice am nl cm) lb) (QV.keeps _ _) hB HQ
    HR
    (fun w => zeroG (by omega) w) (fun w => nv_two (vunit_ok k j (by omega) (by omega) w))
    (fun p q w h g => nv_two (vpartV x [j] nl 1 gx.len (by omega) rfl (by omega) (fun z hz => by rw [List.mem_singleton.1 hz]; omega) p q w h g))
    one_int (nul_max k (by omega)) Tab Keeps.tab vworks_any (decide_eq_false (by omega)) (decide_eq_false g1) (decide_eq_false (by omega)) (decide_eq_false g2)
    gx.len gy.len (GV.nul k).len (uni_len k j) (tabV_len _ _) (by omega)
    (by omega) (by omega) (by omega) (by omega) (by omega) (by omega) (by omega) (by omega) (by omega) (uni_at (by omega)) (by omega) (by omega) rfl (par_at x j) w hv0 hu ht
  ·refine verr_0_in_high al am nl cl nl cm nl nl l0.1 l0.2 k j x y (nulL k) (uniL k j) (nulL 1) c 1 0 (fun w => QV w (.slice al nl cl) la) (QV.keeps _ _) hA (fun w => QV w (.slice am nl cm) lb) (QV.keeps _ _) hB HQ
    HR
    (fun w => zeroG (by omega) w) (fun w => nv_two (vunit_ok k j (by omega) (by omega) w))
    (fun p q w h g => vpart_arg x (j : Int) nl gx.len (by omega) (by omega) p q w h g)
    one_int (nul_max k (by omega)) Tab Keeps.tab vworks_any (decide_eq_false (by omega)) (decide_eq_false g1) (decide_eq_false (by omega)) (decide_eq_false g2)
    gx.len gy.len (GV.nul k).len (uni_len k j) (GV.nul 1).len (by omega)
    (by omega) (by omega) (by omega) (by omega) (by omega) (by omega) (by omega) (by omega) (by omega) (uni_at (by omega)) (by omega) w hv0 hu ht
 ·by_cases hil : j < nl
  ·refine verr_0_high_in al am nl cl nl cm nl nl l0.1 l0.2 k j x y (nulL k) (nulL 0) (tabV 1 (partV x [j])) c 1 (gv x j) (fun w => QV w (.slice al nl cl) la) (QV.keeps _ _) hA (fun w => QV w (.slice am nl cm) lb) (QV.keeps _ _) hB HQ
    HR
    (fun w => zeroG (by omega) w) (fun w => vunit_out k j (by omega) (by omega) w)
    (fun p q w h g => nv_two (vpartV x [j] nl 1 gx.len (by omega) rfl (by omega) (fun z hz => by rw [List.mem_singleton.1 hz]; omega) p q w h g))
    one_int (nul_max k (by omega)) Tab Keeps.tab vworks_any (decide_eq_false (by omega)) (decide_eq_false g1) (decide_eq_false (by omega)) (decide_eq_false g2)
    gx.len gy.len (GV.nul k).len (GV.nul 0).len (tabV_len _ _) (by omega)
    (by omega) (by omega) (by omega) (by omega) (by omega) (by omega) (by omega) (by omega) (by omega) rfl (par_at x j) w hv0 hu ht
  ·refine verr_0_high_high al am nl cl nl cm nl nl l0.1 l0.2 k j x y (nulL k) (nulL 0) (nulL 1) c 1 0 (fun w => QV w (.slice al nl cl) la) (QV.keeps _ _) hA (fun w => QV w (.slice am nl cm) lb) (QV.keeps _ _) hB HQ
    HR
    (fun w => zeroG (by omega) w) (fun w => vunit_out k j (by omega) (by omega) w)
    (fun p q w h g => vpart_arg x (j : Int) nl gx.len (by omega) (by omega) p q w h g)
    one_int (nul_max k (by omega)) Tab Keeps.tab vworks_any (decide_eq_false (by omega)) (decide_eq_false g1) (decide_eq_false (by omega)) (decide_eq_false g2)
    gx.len gy.len (GV.nul k).len (GV.nul 0).len (GV.nul 1).len (by omega)
    (by omega) (by omega) (by omega) (by omega) (by omega) (by omega) (by omega) (by omega) w hv0 hu ht
set_option maxHeartbeats 4000000 in
theorem verr_ne (l0 : Int × Int) (la lb : List (Int × Int)) (n i : Int) (h0 : QR l0) (al am : Option Addr) (nl cl nm cm : Nat) (w : World) (hv0 : QV w (.slice al nl cl) la) (hu : QV w (.slice am nm cm) lb) (ht : Tab w) (g1 : ¬ 20 < nl) (g2 : ¬ 20 < nm) (hlm : ¬ nl = nm) :
  Calls Tryz.prog 9 #[.agg #[.int .i64 l0.1, .int .u32 l0.2], .slice al nl cl, .slice am nm cm, .int .i64 n, .int .i64 i] w fun e w' => e = .returned (.bool true) ∧ Below w.heap.size w w' := by
 have gx := gv_of (qv_len hv0) (qv_rg hv0)
 have gy := gv_of (qv_len hu) (qv_rg hu)
 have hA := fun w hv => vVf_w la nl (qv_len hv0) (by omega) (.slice al nl cl) w hv
 have hB := fun w hv => vVf_w lb nm (qv_len hu) (by omega) (.slice am nm cm) w hv
 generalize la.map qm = x at gx hA
 generalize lb.map qm = y at gy hB
 have sc := qm_sz h0
 have HQ := fun w => qmof h0 w
 generalize qm l0 = c at sc HQ
 have hne : x.length ≠ y.length := by rw [gx.len, gy.len]; exact hlm
 have HR := fun p q w h g => refused_ne (c := c) (by rw [gx.len]; omega) (by rw [gy.len]; omega) hne p q w h g
 have HNo := fun p q w h g => nothing_ne (c := c) (by rw [gx.len]; omega) (by rw [gy.len]; omega) hne p q w h g
 by_cases hi : i < 0
 ·by_cases hn : n < 0
  ·refine verr_1_neg_low al am nl cl nm cm nl nm l0.1 l0.2 n i x y (nulL 0) (nulL 0) (nulL 1) c 1 0 (fun w => QV w (.slice al nl cl) la) (QV.keeps _ _) hA (fun w => QV w (.slice am nm cm) lb) (QV.keeps _ _) hB HQ
    HR HNo
    (fun w => vzero_neg n hn w) (fun w => vunit_neg n i hn w)
    (fun p q w h g => vpart_arg x i nl gx.len (by omega) (by omega) p q w h g)
    one_int (nul_max 0 (by omega)) Tab Keeps.tab vworks_any (decide_eq_false (by omega)) (decide_eq_false g1) (decide_eq_false (by omega)) (decide_eq_false g2)
    gx.len gy.len (GV.nul 0).len (GV.nul 0).len (GV.nul 1).len (by omega)
    (by omega) (bne_iff_ne.2 (by omega)) hlm
    hn hi (by omega) w hv0 hu ht
  by_cases hn2 : 2048 < n
  ·refine verr_1_big_low al am nl cl nm cm nl nm l0.1 l0.2 n i x y (nulL 0) (nulL 0) (nulL 1) c 1 0 (fun w => QV w (.slice al nl cl) la) (QV.keeps _ _) hA (fun w => QV w (.slice am nm cm) lb) (QV.keeps _ _) hB HQ
    HR HNo
    (fun w => vzero_big n hn2 w) (fun w => vunit_big n i hn2 w)
    (fun p q w h g => vpart_arg x i nl gx.len (by omega) (by omega) p q w h g)
    one_int (nul_max 0 (by omega)) Tab Keeps.tab vworks_any (decide_eq_false (by omega)) (decide_eq_false g1) (decide_eq_false (by omega)) (decide_eq_false g2)
    gx.len gy.len (GV.nul 0).len (GV.nul 0).len (GV.nul 1).len (by omega)
    (by omega) (bne_iff_ne.2 (by omega)) hlm
    hn hn2 hi (by omega) w hv0 hu ht
  obtain ⟨k, rfl⟩ : ∃ k : Nat, n = (k : Int) := ⟨n.toNat, by omega⟩
  refine verr_1_low_low al am nl cl nm cm nl nm l0.1 l0.2 k i x y (nulL k) (nulL 0) (nulL 1) c 1 0 (fun w => QV w (.slice al nl cl) la) (QV.keeps _ _) hA (fun w => QV w (.slice am nm cm) lb) (QV.keeps _ _) hB HQ
   HR HNo
   (fun w => zeroG (by omega) w) (fun w => vunit_out k i (by omega) (by omega) w)
   (fun p q w h g => vpart_arg x i nl gx.len (by omega) (by omega) p q w h g)
   one_int (nul_max k (by omega)) Tab Keeps.tab vworks_any (decide_eq_false (by omega)) (decide_eq_false g1) (decide_eq_false (by omega)) (decide_eq_false g2)
   gx.len gy.len (GV.nul k).len (GV.nul 0).len (GV.nul 1).len (by omega)
   (by omega) (bne_iff_ne.2 (by omega)) hlm
   (by omega) (by omega) (by omega) (by omega) hi (by omega) w hv0 hu ht
 obtain ⟨j, rfl⟩ : ∃ j : Nat, i = (j : Int) := ⟨i.toNat, by omega⟩
 by_cases hn : n < 0
 ·by_cases hil : j < nl
  ·refine verr_1_neg_in al am nl cl nm cm nl nm l0.1 l0.2 n j x y (nulL 0) (nulL 0) (tabV 1 (partV x [j])) c 1 (gv x j) (fun w => QV w (.slice al nl cl) la) (QV.keeps _ _) hA (fun w => QV w (.slice am nm cm) lb) (QV.keeps _ _) hB HQ
    HR HNo
    (fun w => vzero_neg n hn w) (fun w => vunit_neg n (j : Int) hn w)
    (fun p q w h g => nv_two (vpartV x [j] nl 1 gx.len (by omega) rfl (by omega) (fun z hz => by rw [List.mem_singleton.1 hz]; omega) p q w h g))
    one_int (nul_max 0 (by omega)) Tab Keeps.tab vworks_any (decide_eq_false (by omega)) (decide_eq_false g1) (decide_eq_false (by omega)) (decide_eq_false g2)
    gx.len gy.len (GV.nul 0).len (GV.nul 0).len (tabV_len _ _) (by omega)
    (by omega) (bne_iff_ne.2 (by omega)) hlm
    hn (by omega) (by omega) (by omega) (by omega) rfl (par_at x j) w hv0 hu ht
  ·refine verr_1_neg_high al am nl cl nm cm nl nm l0.1 l0.2 n j x y (nulL 0) (nulL 0) (nulL 1) c 1 0 (fun w => QV w (.slice al nl cl) la) (QV.keeps _ _) hA (fun w => QV w (.slice am nm cm) lb) (QV.keeps _ _) hB HQ
    HR HNo
    (fun w => vzero_neg n hn w) (fun w => vunit_neg n (j : Int) hn w)
    (fun p q w h g => vpart_arg x (j : Int) nl gx.len (by omega) (by omega) p q w h g)
    one_int (nul_max 0 (by omega)) Tab Keeps.tab vworks_any (decide_eq_false (by omega)) (decide_eq_false g1) (decide_eq_false (by omega)) (decide_eq_false g2)
    gx.len gy.len (GV.nul 0).len (GV.nul 0).len (GV.nul 1).len (by omega)
    (by omega) (bne_iff_ne.2 (by omega)) hlm
    hn (by omega) (by omega) (by omega) w hv0 hu ht
 by_cases hn2 : 2048 < n
 ·by_cases hil : j < nl
  ·refine verr_1_big_in al am nl cl nm cm nl nm l0.1 l0.2 n j x y (nulL 0) (nulL 0) (tabV 1 (partV x [j])) c 1 (gv x j) (fun w => QV w (.slice al nl cl) la) (QV.keeps _ _) hA (fun w => QV w (.slice am nm cm) lb) (QV.keeps _ _) hB HQ
    HR HNo
    (fun w => vzero_big n hn2 w) (fun w => vunit_big n (j : Int) hn2 w)
    (fun p q w h g => nv_two (vpartV x [j] nl 1 gx.len (by omega) rfl (by omega) (fun z hz => by rw [List.mem_singleton.1 hz]; omega) p q w h g))
    one_int (nul_max 0 (by omega)) Tab Keeps.tab vworks_any (decide_eq_false (by omega)) (decide_eq_false g1) (decide_eq_false (by omega)) (decide_eq_false g2)
    gx.len gy.len (GV.nul 0).len (GV.nul 0).len (tabV_len _ _) (by omega)
    (by omega) (bne_iff_ne.2 (by omega)) hlm
    hn hn2 (by omega) (by omega) (by omega) (by omega) rfl (par_at x j) w hv0 hu ht
  ·refine verr_1_big_high al am nl cl nm cm nl nm l0.1 l0.2 n j x y (nulL 0) (nulL 0) (nulL 1) c 1 0 (fun w => QV w (.slice al nl cl) la) (QV.keeps _ _) hA (fun w => QV w (.slice am nm cm) lb) (QV.keeps _ _) hB HQ
    HR HNo
    (fun w => vzero_big n hn2 w) (fun w => vunit_big n (j : Int) hn2 w)
    (fun p q w h g => vpart_arg x (j : Int) nl gx.len (by omega) (by omega) p q w h g)
    one_int (nul_max 0 (by omega)) Tab Keeps.tab vworks_any (decide_eq_false (by omega)) (decide_eq_false g1) (decide_eq_false (by omega)) (decide_eq_false g2)
    gx.len gy.len (GV.nul 0).len (GV.nul 0).len (GV.nul 1).len (by omega)
    (by omega) (bne_iff_ne.2 (by omega)) hlm
    hn hn2 (by omega) (by omega) (by omega) w hv0 hu ht
 obtain ⟨k, rfl⟩ : ∃ k : Nat, n = (k : Int) := ⟨n.toNat, by omega⟩
 by_cases hin : j < k
 ·by_cases hil : j < nl
  ·refine verr_1_in_in al am nl cl nm cm nl nm l0.1 l0.2 k j x y (nulL k) (uniL k j) (tabV 1 (partV x [j])) c 1 (gv x j) (fun w => QV w (.slice al nl cl) la) (QV.keeps _ _) hA (fun w => QV w (.slice am nm cm) lb) (QV.keeps _ _) hB HQ
    HR HNo
    (fun w => zeroG (by omega) w) (fun w => nv_two (vunit_ok k j (by omega) (by omega) w))
    (fun p q w h g => nv_two (vpartV x [j] nl 1 gx.len (by omega) rfl (by omega) (fun z hz => by rw [List.mem_singleton.1 hz]; omega) p q w h g))
    one_int (nul_max k (by omega)) Tab Keeps.tab vworks_any (decide_eq_false (by omega)) (decide_eq_false g1) (decide_eq_false (by omega)) (decide_eq_false g2)
    gx.len gy.len (GV.nul k).len (uni_len k j) (tabV_len _ _) (by omega)
    (by omega) (bne_iff_ne.2 (by omega)) hlm
    (by omega) (by omega) (by omega) (by omega) (by omega) (by omega) (by omega) (by omega) (by omega) (uni_at (by omega)) (by omega) (by omega) rfl (par_at x j) w hv0 hu ht
  ·refine verr_1_in_high al am nl cl nm cm nl nm l0.1 l0.2 k j x y (nulL k) (uniL k j) (nulL 1) c 1 0 (fun w => QV w (.slice al nl cl) la) (QV.keeps _ _) hA (fun w => QV w (.slice am nm cm) lb) (QV.keeps _ _) hB HQ
    HR HNo
    (fun w => zeroG (by omega) w) (fun w => nv_two (vunit_ok k j (by omega) (by omega) w))
    (fun p q w h g => vpart_arg x (j : Int) nl gx.len (by omega) (by omega) p q w h g)
    one_int (nul_max k (by omega)) Tab Keeps.tab vworks_any (decide_eq_false (by omega)) (decide_eq_false g1) (decide_eq_false (by omega)) (decide_eq_false g2)
    gx.len gy.len (GV.nul k).len (uni_len k j) (GV.nul 1).len (by omega)
    (by omega) (bne_iff_ne.2 (by omega)) hlm
    (by omega) (by omega) (by omega) (by omega) (by omega) (by omega) (by omega) (by omega) (by omega) (uni_at (by omega)) (by omega) w hv0 hu ht
 ·by_cases hil : j < nl
  ·refine verr_1_high_in al am nl cl nm cm nl nm l0.1 l0.2 k j x y (nulL k) (nulL 0) (tabV 1 (partV x [j])) c 1 (gv x j) (fun w => QV w (.slice al nl cl) la) (QV.keeps _ _) hA (fun w => QV w (.slice am nm cm) lb) (QV.keeps _ _) hB HQ
    HR HNo
    (fun w => zeroG (by omega) w) (fun w => vunit_out k j (by omega) (by omega) w)
    (fun p q w h g => nv_two (vpartV x [j] nl 1 gx.len (by omega) rfl (by omega) (fun z hz => by rw [List.mem_singleton.1 hz]; omega) p q w h g))
    one_int (nul_max k (by omega)) Tab Keeps.tab vworks_any (decide_eq_false (by omega)) (decide_eq_false g1) (decide_eq_false (by omega)) (decide_eq_false g2)
    gx.len gy.len (GV.nul k).len (GV.nul 0).len (tabV_len _ _) (by omega)
    (by omega) (bne_iff_ne.2 (by omega)) hlm
    (by omega) (by omega) (by omega) (by omega) (by omega) (by omega) (by omega) (by omega) (by omega) rfl (par_at x j) w hv0 hu ht
  ·refine verr_1_high_high al am nl cl nm cm nl nm l0.1 l0.2 k j x y (nulL k) (nulL 0) (nulL 1) c 1 0 (fun w => QV w (.slice al nl cl) la) (QV.keeps _ _) hA (fun w => QV w (.slice am nm cm) lb) (QV.keeps _ _) hB HQ
    HR HNo
    (fun w => zeroG (by omega) w) (fun w => vunit_out k j (by omega) (by omega) w)
    (fun p q w h g => vpart_arg x (j : Int) nl gx.len (by omega) (by omega) p q w h g)
    one_int (nul_max k (by omega)) Tab Keeps.tab vworks_any (decide_eq_false (by omega)) (decide_eq_false g1) (decide_eq_false (by omega)) (decide_eq_false g2)
    gx.len gy.len (GV.nul k).len (GV.nul 0).len (GV.nul 1).len (by omega)
    (by omega) (bne_iff_ne.2 (by omega)) hlm
    (by omega) (by omega) (by omega) (by omega) (by omega) (by omega) (by omega) (by omega) w hv0 hu ht
theorem verrors_any (l0 : Int × Int) (la lb : List (Int × Int)) (n i : Int) (h0 : QR l0) (al am : Option Addr) (nl cl nm cm : Nat) (w : World) (hv0 : QV w (.slice al nl cl) la) (hu : QV w (.slice am nm cm) lb) (ht : Tab w) :
  Calls Tryz.prog 9 #[.agg #[.int .i64 l0.1, .int .u32 l0.2], .slice al nl cl, .slice am nm cm, .int .i64 n, .int .i64 i] w fun e w' => e = .returned (.bool true) ∧ Below w.heap.size w w' := by
 by_cases g1 : 20 < nl
 ·exact verr_l1 al am nl cl nm cm _ _ n i Tab Keeps.tab vworks_any (decide_eq_true (by omega)) (decide_eq_true g1) w ht
 by_cases g2 : 20 < nm
 ·exact verr_l2 al am nl cl nm cm _ _ n i Tab Keeps.tab vworks_any (decide_eq_false (by omega)) (decide_eq_false g1) (decide_eq_true (by omega)) (decide_eq_true g2) w ht
 by_cases hlm : nl = nm
 ·exact verr_eq l0 la lb n i h0 al am nl cl nm cm w hv0 hu ht g1 g2 hlm
 ·exact verr_ne l0 la lb n i h0 al am nl cl nm cm w hv0 hu ht g1 g2 hlm
end Go.Proofs.YtoahpkelajimfaaGreatDoor
