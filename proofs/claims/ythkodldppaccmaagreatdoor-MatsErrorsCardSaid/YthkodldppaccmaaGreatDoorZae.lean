/-
  The law answers true at every input, and leaves its arguments as they were: a part of the proof. CONDITIONS: the package-level tables start as the program's text lays them (the card ties them).
-/
import Derived.Test.YthkodldppaccmaaGreatDoorZad
import Derived.Test.YthkodldppaccmaaGreatDoorTie
import Derived.Test.YthkodldppaccmaaGreatDoorCards
set_option linter.unusedVariables false
set_option linter.unusedSimpArgs false
namespace Go.Proofs.YthkodldppaccmaaGreatDoor
open Go.RowKit
attribute [local irreducible] lo hs sm s64 c64 d64 b64 mh ml pd pc qd qc val hiB str cmpI srD lz nb zl zh zs fe rowV tabV gv bsV turM mulM sumM oneM appV formM tabM dotL sumL mulL
set_option maxHeartbeats 16000000 in
set_option maxRecDepth 100000 in
theorem mworks_w (ma mt mp mn mq : Mx) (v1 v2 v3 va : List Rat) (c2 c10 : Rat) (HO1 : ∀ (p2 : Value) (w : World), ILs w p2 ([1, 2, 3, 4]) → Calls Tryz.prog 127 #[.int .i64 2, .int .i64 2, p2] w fun e w' => ∃ pv, e = .returned (.tuple #[pv, .int .i64 0]) ∧ MT w' pv ma ∧ Below w.heap.size w w') (HT1 : ∀ (p0 : Value) (w : World), MT w p0 ma → Calls Tryz.prog 49 #[p0] w fun e w' => ∃ pv, e = .returned (.tuple #[pv, .int .i64 0]) ∧ MT w' pv mt ∧ Below w.heap.size w w') (HM1 : ∀ (p0 p1 : Value) (w : World), MT w p0 ma → MT w p1 ma → Calls Tryz.prog 48 #[p0, p1] w fun e w' => ∃ pv, e = .returned (.tuple #[pv, .int .i64 0]) ∧ MT w' pv mp ∧ Below w.heap.size w w') (HV1 : ∀ (p0 : Value) (w : World), ILs w p0 ([1, (-1)]) → Calls Tryz.prog 83 #[p0] w fun e w' => ∃ pv, e = .returned pv ∧ PT w' pv v1 ∧ Below w.heap.size w w') (HV2 : ∀ (p0 : Value) (w : World), ILs w p0 ([1, 0]) → Calls Tryz.prog 83 #[p0] w fun e w' => ∃ pv, e = .returned pv ∧ PT w' pv v2 ∧ Below w.heap.size w w') (HV3 : ∀ (p0 : Value) (w : World), ILs w p0 ([0, 1]) → Calls Tryz.prog 83 #[p0] w fun e w' => ∃ pv, e = .returned pv ∧ PT w' pv v3 ∧ Below w.heap.size w w') (HA1 : ∀ (p0 p1 : Value) (w : World), MT w p0 ma → PT w p1 v1 → Calls Tryz.prog 59 #[p0, p1] w fun e w' => ∃ pv, e = .returned (.tuple #[pv, .int .i64 0]) ∧ PT w' pv va ∧ Below w.heap.size w w') (HF1 : ∀ (p0 p1 p2 : Value) (w : World), MT w p0 ma → PT w p1 v2 → PT w p2 v3 → Calls Tryz.prog 60 #[p0, p1, p2] w fun e w' => e = .returned (.tuple #[fracV c2, .int .i64 0]) ∧ Below w.heap.size w w') (HI2 : ∀ w, Calls Tryz.prog 34 #[.int .i64 2] w fun xe w' => xe = .returned (fracV c2) ∧ Below w.heap.size w w') (HI10 : ∀ w, Calls Tryz.prog 34 #[.int .i64 10] w fun xe w' => xe = .returned (fracV c10) ∧ Below w.heap.size w w') (HO2 : ∀ (p2 : Value) (w : World), ILs w p2 ([1]) → Calls Tryz.prog 127 #[.int .i64 2, .int .i64 2, p2] w fun e w' => e = .returned (.tuple #[.agg #[.int .i64 0, .int .i64 0, .slice none 0 0], .int .i64 1]) ∧ Below w.heap.size w w') (HO3 : ∀ w, Calls Tryz.prog 127 #[.int .i64 (-1), .int .i64 2049, .slice none 0 0] w fun xe w' => xe = .returned (.tuple #[.agg #[.int .i64 0, .int .i64 0, .slice none 0 0], .int .i64 1]) ∧ Below w.heap.size w w') (HO4 : ∀ w, Calls Tryz.prog 127 #[.int .i64 2049, .int .i64 0, .slice none 0 0] w fun xe w' => xe = .returned (.tuple #[.agg #[.int .i64 0, .int .i64 0, .slice none 0 0], .int .i64 3]) ∧ Below w.heap.size w w') (HO5 : ∀ (w : World), Calls Tryz.prog 127 #[.int .i64 0, .int .i64 3, .slice none 0 0] w fun e w' => ∃ pv, e = .returned (.tuple #[pv, .int .i64 0]) ∧ MT w' pv mn ∧ Below w.heap.size w w') (HP1 : ∀ (p0 p1 p2 : Value) (w : World), MT w p0 ma → ILs w p1 ([1, 0]) → ILs w p2 ([1]) → Calls Tryz.prog 77 #[p0, p1, p2] w fun e w' => ∃ pv, e = .returned (.tuple #[pv, .int .i64 0]) ∧ MT w' pv mq ∧ Below w.heap.size w w') (HS1 : ∀ (p0 : Value) (w : World), MT w p0 ma → Calls Tryz.prog 65 #[p0] w fun e w' => e = .returned (fracV c10) ∧ Below w.heap.size w w') (HY1 : ∀ (p0 : Value) (w : World), MT w p0 ma → Calls Tryz.prog 71 #[p0] w fun e w' => e = .returned (.bool false) ∧ Below w.heap.size w w') (HY2 : ∀ (p0 : Value) (w : World), MT w p0 mn → Calls Tryz.prog 71 #[p0] w fun e w' => e = .returned (.bool false) ∧ Below w.heap.size w w') (KT : World → Prop) (hKT : Keeps KT) (HXma : ∀ (p0 : Value) (w : World), KT w → MT w p0 ma → Calls Tryz.prog 128 #[p0] w fun e w' => e = .returned (.string (ByteArray.mk #[91, 49, 32, 50, 93, 32, 91, 51, 32, 52, 93])) ∧ Below w.heap.size w w') (HXmt : ∀ (p0 : Value) (w : World), KT w → MT w p0 mt → Calls Tryz.prog 128 #[p0] w fun e w' => e = .returned (.string (ByteArray.mk #[91, 49, 32, 51, 93, 32, 91, 50, 32, 52, 93])) ∧ Below w.heap.size w w') (HXmp : ∀ (p0 : Value) (w : World), KT w → MT w p0 mp → Calls Tryz.prog 128 #[p0] w fun e w' => e = .returned (.string (ByteArray.mk #[91, 55, 32, 49, 48, 93, 32, 91, 49, 53, 32, 50, 50, 93])) ∧ Below w.heap.size w w') (HXmq : ∀ (p0 : Value) (w : World), KT w → MT w p0 mq → Calls Tryz.prog 128 #[p0] w fun e w' => e = .returned (.string (ByteArray.mk #[91, 52, 93, 32, 91, 50, 93])) ∧ Below w.heap.size w w') (HXv : ∀ (p0 : Value) (w : World), KT w → PT w p0 va → Calls Tryz.prog 84 #[p0] w fun e w' => e = .returned (.string (ByteArray.mk #[91, 45, 49, 32, 45, 49, 93])) ∧ Below w.heap.size w w') (hma1 : (ma.r : Int) = 2) (hmt1 : (mt.r : Int) = 2) (hmp1 : (mp.r : Int) = 2) (hmn1 : (mn.r : Int) = 0) (hmq1 : (mq.r : Int) = 2) (hma2 : (ma.c : Int) = 2) (hmt2 : (mt.c : Int) = 2) (hmp2 : (mp.c : Int) = 2) (hmn2 : (mn.c : Int) = 3) (hmq2 : (mq.c : Int) = 1) (w : World) (kKT : KT w) :
  Calls Tryz.prog 41 #[] w fun e w' => e = .returned (.bool true) ∧ Below w.heap.size w w' := by
 replace HO1 := Lib.hid HO1
 replace HT1 := Lib.hid HT1
 replace HM1 := Lib.hid HM1
 replace HV1 := Lib.hid HV1
 replace HV2 := Lib.hid HV2
 replace HV3 := Lib.hid HV3
 replace HA1 := Lib.hid HA1
 replace HF1 := Lib.hid HF1
 replace HI2 := Lib.hid HI2
 replace HI10 := Lib.hid HI10
 replace HO2 := Lib.hid HO2
 replace HO3 := Lib.hid HO3
 replace HO4 := Lib.hid HO4
 replace HO5 := Lib.hid HO5
 replace HP1 := Lib.hid HP1
 replace HS1 := Lib.hid HS1
 replace HY1 := Lib.hid HY1
 replace HY2 := Lib.hid HY2
 replace hKT := Lib.hid hKT
 replace HXma := Lib.hid HXma
 replace HXmt := Lib.hid HXmt
 replace HXmp := Lib.hid HXmp
 replace HXmq := Lib.hid HXmq
 replace HXv := Lib.hid HXv
 have hL0 : GL w w [] := GL.start w
 have hT : PTs w [] := PTs.nil w
 replace hma1 := Lib.hid hma1
 replace hma2 := Lib.hid hma2
 replace hmt1 := Lib.hid hmt1
 replace hmt2 := Lib.hid hmt2
 replace hmp1 := Lib.hid hmp1
 replace hmp2 := Lib.hid hmp2
 replace hmn1 := Lib.hid hmn1
 replace hmn2 := Lib.hid hmn2
 replace hmq1 := Lib.hid hmq1
 replace hmq2 := Lib.hid hmq2
 replace hT := (hT.new (.cells #[.int .i64 1, .int .i64 2, .int .i64 3, .int .i64 4] 2))
 replace hL0 := (hL0.new rfl [.int .i64 1, .int .i64 2, .int .i64 3, .int .i64 4] 2)
 generalize hweq : (w.alloc (.cells #[.int .i64 1, .int .i64 2, .int .i64 3, .int .i64 4] 2)) = x1 at hL0 hT
 go_enter Tryz.func41, Tryz.ntmps41
 have hbv1 : ILs x1 (.slice (some ⟨w.heap.size, 0, none⟩) 4 4) [1, 2, 3, 4] := ils_at (hL0.get _ _ List.mem_cons_self) rfl rfl
 replace hbv1 := Lib.hid hbv1
 go_wp2_with fail
 with_reducible refine Calls.mono (HO1.out (.slice (some ⟨w.heap.size, 0, none⟩) 4 4) _ hbv1.out) ?_
 rintro e x2 ⟨v0, rfl, q0, hb⟩
 replace hL0 := hL0.call hb
 replace hT := hT.call hb
 clear hb hweq
 obtain ⟨g1, d1, g1c, rfl, hm1, hcp1⟩ := mt_form q0 hma1.out hma2.out
 replace hcp1 := Lib.hid hcp1
 replace hT := hT.cons hm1
 clear hm1
 clear q0
 replace hT := (hT.new (.cells #[.int .i64 2, .int .i64 2, .slice g1 d1 g1c] 81))
 replace hL0 := (hL0.new rfl [.int .i64 2, .int .i64 2, .slice g1 d1 g1c] 81)
 generalize hweq : (x2.alloc (.cells #[.int .i64 2, .int .i64 2, .slice g1 d1 g1c] 81)) = x3 at hL0 hT
 go_upto_region 2 with fail
 have hN0 := cells_of _ 0 [] rfl (hL0.get _ _ List.mem_cons_self)
 simp only [cellsF, and_true, Nat.zero_add, Nat.reduceAdd] at hN0
 go_wp2_with fail
 clear hN0
 with_reducible refine Calls.mono (HT1.out (.agg #[.int .i64 2, .int .i64 2, .slice g1 d1 g1c]) _ (mt_of (hT.get List.mem_cons_self) hcp1.out hma1.out hma2.out)) ?_
 rintro e x4 ⟨v0, rfl, q0, hb⟩
 replace hL0 := hL0.call hb
 replace hT := hT.call hb
 clear hb hweq
 obtain ⟨g2, d2, g2c, rfl, hm2, hcp2⟩ := mt_form q0 hmt1.out hmt2.out
 replace hcp2 := Lib.hid hcp2
 replace hT := hT.cons hm2
 clear hm2
 clear q0
 replace hT := (hT.new (.cells #[.int .i64 2, .int .i64 2, .slice g2 d2 g2c] 81))
 replace hL0 := (hL0.new rfl [.int .i64 2, .int .i64 2, .slice g2 d2 g2c] 81)
 generalize hweq : (x4.alloc (.cells #[.int .i64 2, .int .i64 2, .slice g2 d2 g2c] 81)) = x5 at hL0 hT
 go_upto_region 3 with fail
 have hN0 := cells_of _ 0 [] rfl (hL0.get _ _ (List.mem_cons_of_mem _ List.mem_cons_self))
 simp only [cellsF, and_true, Nat.zero_add, Nat.reduceAdd] at hN0
 go_wp2_with fail
 clear hN0
 with_reducible refine Calls.mono (HM1.out (.agg #[.int .i64 2, .int .i64 2, .slice g1 d1 g1c]) (.agg #[.int .i64 2, .int .i64 2, .slice g1 d1 g1c]) _ (mt_of (hT.get (List.mem_cons_of_mem _ List.mem_cons_self)) hcp1.out hma1.out hma2.out) (mt_of (hT.get (List.mem_cons_of_mem _ List.mem_cons_self)) hcp1.out hma1.out hma2.out)) ?_
 rintro e x6 ⟨v0, rfl, q0, hb⟩
 replace hL0 := hL0.call hb
 replace hT := hT.call hb
 clear hb hweq
 obtain ⟨g3, d3, g3c, rfl, hm3, hcp3⟩ := mt_form q0 hmp1.out hmp2.out
 replace hcp3 := Lib.hid hcp3
 replace hT := hT.cons hm3
 clear hm3
 clear q0
 replace hT := (hT.new (.cells #[.int .i64 2, .int .i64 2, .slice g3 d3 g3c] 81))
 replace hL0 := (hL0.new rfl [.int .i64 2, .int .i64 2, .slice g3 d3 g3c] 81)
 generalize hweq : (x6.alloc (.cells #[.int .i64 2, .int .i64 2, .slice g3 d3 g3c] 81)) = x7 at hL0 hT
 go_upto_region 4 with fail
 clear hweq
 refine region_tl 9 [EV (.agg #[.int .i64 2, .int .i64 2, .slice g1 d1 g1c]), PI [1, (-1)], PP v1, PE va 0, PE va 0, PP va, EV (.int .i64 0), PP va, EV (.int .i64 0)] (by kernel_rfl) (by kernel_rfl) ?_ ?_ ?_
 ·exact stays_cons (stays_eq _) (stays_cons (stays_pi _) (stays_cons (stays_pt _) (stays_cons (stays_pe _ _) (stays_cons (stays_pe _ _) (stays_cons (stays_pt _) (stays_cons (stays_eq _) (stays_cons (stays_pt _) (stays_cons (stays_eq _) (stays_nil)))))))))
 ·simp only [List.take_succ_cons, List.take_zero, hopsR, and_true]
  refine ⟨?_, ?_, ?_, ?_, ?_, ?_, ?_, ?_, ?_⟩ <;> intro fv w1 hb1 hp
  all_goals (simp only [putsV, Act.put, List.setIfInBounds_toArray, List.set_cons_succ, List.set_cons_zero, Nat.zero_add, Nat.reduceAdd])
  ·refine tyAt_none rfl ?_
   have hc := (hL0.call (below_drew hb1)).fc
   simp only [fcG, cellsF, neK, and_true, ne_eq, Nat.zero_add, Nat.reduceAdd] at hc
   simp [tyUpon, execOp, go_sem, Act.eval, hc, Below.refl]
  ·refine tyAt_none rfl ?_
   refine ty_val8 (u := .slice (some ⟨w1.heap.size, 0, none⟩) 2 2) (w' := w1.alloc (.cells #[.int .i64 1, .int .i64 (-1)] 2)) (by simp [execOp, go_sem, Act.eval]) ((Below.refl _ _).alloc (Nat.le_refl _) _) (ils_at (hd_new w1 [.int .i64 1, .int .i64 (-1)] _) rfl rfl)
  ·have h1 : (PI [1, (-1)]) (fv 1) w1 := hp 1 (LC (by kernel_rfl))
   refine tyAt_none rfl ?_
   refine ty_call (f := 83) (args := #[fv 1]) (by simp [execOp, go_sem, Act.eval]) ?_
   exact (HV1.out (fv 1) w1 h1).mono fun e w2 ⟨pv, h1, h2, h3⟩ => ⟨pv, h1, h2, h3⟩
  ·have h0 : EV _ (fv 0) w1 := hp 0 (LC (by kernel_rfl))
   have h2 : (PP v1) (fv 2) w1 := hp 2 (LC (by kernel_rfl))
   refine tyAt_none rfl ?_
   refine ty_call (f := 59) (args := #[.agg #[.int .i64 2, .int .i64 2, .slice g1 d1 g1c], fv 2]) (by simp [execOp, go_sem, Act.eval, h0]) ?_
   exact (HA1.out (.agg #[.int .i64 2, .int .i64 2, .slice g1 d1 g1c]) (fv 2) w1 (mt_of (PT.below (hT.get (List.mem_cons_of_mem _ (List.mem_cons_of_mem _ List.mem_cons_self))) (below_drew hb1)) hcp1.out hma1.out hma2.out) h2).mono fun e w2 ⟨pv, h1, h2, h3⟩ => ⟨_, h1, ⟨pv, rfl, h2⟩, h3⟩
  ·have h3 : (PE va 0) (fv 3) w1 := hp 3 (LC (by kernel_rfl))
   refine tyAt_none rfl ?_
   simp [tyUpon, execOp, go_sem, Act.eval, Below.refl]
   exact h3
  ·have h4 : (PE va 0) (fv 4) w1 := hp 4 (LC (by kernel_rfl))
   refine tyAt_none rfl ?_
   obtain ⟨pa, pe, pz⟩ := h4
   simp [tyUpon, execOp, go_sem, Act.eval, pe, Below.refl]
   exact pz
  ·have h4 : (PE va 0) (fv 4) w1 := hp 4 (LC (by kernel_rfl))
   refine tyAt_none rfl ?_
   obtain ⟨pa, pe, pz⟩ := h4
   simp [tyUpon, execOp, go_sem, Act.eval, pe, Below.refl]
  ·have h5 : (PP va) (fv 5) w1 := hp 5 (LC (by kernel_rfl))
   refine tyAt_none rfl ?_
   simp [tyUpon, execOp, go_sem, Act.eval, Below.refl]
   exact h5
  ·have h6 : EV _ (fv 6) w1 := hp 6 (LC (by kernel_rfl))
   refine tyAt_none rfl ?_
   simp [tyUpon, execOp, go_sem, Act.eval, h6, Below.refl]
 ·intro fv x8 hb1 hv
  have e0 : fv 0 = _ := hv 0 (by omega)
  have q1 : ILs x8 (fv 1) ([1, (-1)]) := hv 1 (by omega)
  obtain ⟨g4, d4, g4c, e1⟩ := ils_form q1
  rw [e1] at q1
  have q2 : PT x8 (fv 2) v1 := hv 2 (by omega)
  obtain ⟨g5, d5, g5c, e2, -⟩ := pt_form q2
  rw [e2] at q2
  obtain ⟨pa3, e3, q3⟩ := hv 3 (by omega)
  obtain ⟨pa4, e4, q4⟩ := hv 4 (by omega)
  have q5 : PT x8 (fv 5) va := hv 5 (by omega)
  obtain ⟨g6, d6, g6c, e5, -⟩ := pt_form q5
  rw [e5] at q5
  have e6 : fv 6 = _ := hv 6 (by omega)
  have q7 : PT x8 (fv 7) va := hv 7 (by omega)
  obtain ⟨g7, d7, g7c, e7, -⟩ := pt_form q7
  rw [e7] at q7
  have e8 : fv 8 = _ := hv 8 (by omega)
  simp only [List.take_succ_cons, List.take_zero, putsV, Act.put, List.setIfInBounds_toArray, List.set_cons_succ, List.set_cons_zero, List.drop_succ_cons, List.drop_zero, Nat.zero_add, Nat.reduceAdd, e0, e1, e2, e3, e4, e5, e6, e7, e8]
  replace hL0 := hL0.call (below_drew hb1)
  replace hT := hT.call (below_drew hb1)
  replace hT := hT.cons q2
  replace hT := hT.cons q5
  replace hT := hT.cons q7
  clear e0 e1 e2 e3 e4 e5 e6 e7 e8 hb1 hv q1 q2 q3 q4 q5 q7 fv
  go_upto_region 5 with fail
  have hSo := Lib.hid hT
  refine region_tbl 10 8 [EV (.agg #[.int .i64 2, .int .i64 2, .slice g1 d1 g1c]), PI [1, 0], PP v2, PI [0, 1], PP v3, EV (.tuple #[.agg #[.int .u64 ((zl c2.num : Nat) : Int), .string (zh c2.num), .bool (zs c2.num), .int .u64 ((lo (fe c2) : Nat) : Int), .string (hs (fe c2))], .int .i64 0]), EV (.tuple #[.agg #[.int .u64 ((zl c2.num : Nat) : Int), .string (zh c2.num), .bool (zs c2.num), .int .u64 ((lo (fe c2) : Nat) : Int), .string (hs (fe c2))], .int .i64 0]), EV (.agg #[.int .u64 ((zl c2.num : Nat) : Int), .string (zh c2.num), .bool (zs c2.num), .int .u64 ((lo (fe c2) : Nat) : Int), .string (hs (fe c2))]), EV (.int .i64 0), NewB x8.heap.size [.int .u64 0, .string ⟨#[]⟩, .bool false, .int .u64 0, .string ⟨#[]⟩]] [9] (by kernel_rfl) (by kernel_rfl) ?_ ?_ ?_ ?_ ?_ (by rfl) ?_
  ·exact stays_cons (stays_eq _) (stays_cons (stays_pi _) (stays_cons (stays_pt _) (stays_cons (stays_pi _) (stays_cons (stays_pt _) (stays_cons (stays_eq _) (stays_cons (stays_eq _) (stays_cons (stays_eq _) (stays_cons (stays_eq _) (stays_cons (stays_new _ _) (stays_nil))))))))))
  ·simp only [List.take_succ_cons, List.take_zero, hopsR, and_true]
   refine ⟨?_, ?_, ?_, ?_, ?_, ?_, ?_, ?_, ?_, ?_⟩ <;> intro fv w1 hb1 hp
   all_goals (simp only [putsV, Act.put, List.setIfInBounds_toArray, List.set_cons_succ, List.set_cons_zero, Nat.zero_add, Nat.reduceAdd])
   ·refine tyAt_none rfl ?_
    have hc := (hL0.call (below_drew hb1)).fc
    simp only [fcG, cellsF, neK, and_true, ne_eq, Nat.zero_add, Nat.reduceAdd] at hc
    simp [tyUpon, execOp, go_sem, Act.eval, hc, Below.refl]
   ·refine tyAt_none rfl ?_
    refine ty_val8 (u := .slice (some ⟨w1.heap.size, 0, none⟩) 2 2) (w' := w1.alloc (.cells #[.int .i64 1, .int .i64 0] 2)) (by simp [execOp, go_sem, Act.eval]) ((Below.refl _ _).alloc (Nat.le_refl _) _) (ils_at (hd_new w1 [.int .i64 1, .int .i64 0] _) rfl rfl)
   ·have h1 : (PI [1, 0]) (fv 1) w1 := hp 1 (LC (by kernel_rfl))
    refine tyAt_none rfl ?_
    refine ty_call (f := 83) (args := #[fv 1]) (by simp [execOp, go_sem, Act.eval]) ?_
    exact (HV2.out (fv 1) w1 h1).mono fun e w2 ⟨pv, h1, h2, h3⟩ => ⟨pv, h1, h2, h3⟩
   ·refine tyAt_none rfl ?_
    refine ty_val8 (u := .slice (some ⟨w1.heap.size, 0, none⟩) 2 2) (w' := w1.alloc (.cells #[.int .i64 0, .int .i64 1] 2)) (by simp [execOp, go_sem, Act.eval]) ((Below.refl _ _).alloc (Nat.le_refl _) _) (ils_at (hd_new w1 [.int .i64 0, .int .i64 1] _) rfl rfl)
   ·have h3 : (PI [0, 1]) (fv 3) w1 := hp 3 (LC (by kernel_rfl))
    refine tyAt_none rfl ?_
    refine ty_call (f := 83) (args := #[fv 3]) (by simp [execOp, go_sem, Act.eval]) ?_
    exact (HV3.out (fv 3) w1 h3).mono fun e w2 ⟨pv, h1, h2, h3⟩ => ⟨pv, h1, h2, h3⟩
   ·have h0 : EV _ (fv 0) w1 := hp 0 (LC (by kernel_rfl))
    have h2 : (PP v2) (fv 2) w1 := hp 2 (LC (by kernel_rfl))
    have h4 : (PP v3) (fv 4) w1 := hp 4 (LC (by kernel_rfl))
    refine tyAt_none rfl ?_
    refine ty_call (f := 60) (args := #[.agg #[.int .i64 2, .int .i64 2, .slice g1 d1 g1c], fv 2, fv 4]) (by simp [execOp, go_sem, Act.eval, h0]) ?_
    exact (HF1.out (.agg #[.int .i64 2, .int .i64 2, .slice g1 d1 g1c]) (fv 2) (fv 4) w1 (mt_of (PT.below (hT.get (List.mem_cons_of_mem _ (List.mem_cons_of_mem _ (List.mem_cons_of_mem _ (List.mem_cons_of_mem _ (List.mem_cons_of_mem _ List.mem_cons_self)))))) (below_drew hb1)) hcp1.out hma1.out hma2.out) h2 h4).mono fun e w2 ⟨h1, h2⟩ => ⟨_, h1, rfl, h2⟩
   ·have h5 : EV _ (fv 5) w1 := hp 5 (LC (by kernel_rfl))
    refine tyAt_none rfl ?_
    simp [tyUpon, execOp, go_sem, Act.eval, h5, Below.refl]
   ·have h6 : EV _ (fv 6) w1 := hp 6 (LC (by kernel_rfl))
    refine tyAt_none rfl ?_
    simp [tyUpon, execOp, go_sem, Act.eval, h6, Below.refl]
   ·have h6 : EV _ (fv 6) w1 := hp 6 (LC (by kernel_rfl))
    refine tyAt_none rfl ?_
    simp [tyUpon, execOp, go_sem, Act.eval, h6, Below.refl]
   ·exact tyAt_new rfl rfl new_frac (below_drew hb1).size
  ·intro j hj u w2 hT
   simp only [List.contains_iff_mem, List.mem_cons, List.not_mem_nil, or_false] at hj
   rcases hj with rfl <;> exact NewB.ptr hT
  ·exact ⟨⟨_, _, _, _, rfl, rfl, rfl, new_frac⟩, trivial⟩
  ·intro fv wl hb1 hv
   have e0 : fv 0 = .agg #[.int .i64 2, .int .i64 2, .slice g1 d1 g1c] := hv 0 (by omega) (by omega)
   have e5 : fv 5 = .tuple #[.agg #[.int .u64 ((zl c2.num : Nat) : Int), .string (zh c2.num), .bool (zs c2.num), .int .u64 ((lo (fe c2) : Nat) : Int), .string (hs (fe c2))], .int .i64 0] := hv 5 (by omega) (by omega)
   have e6 : fv 6 = .tuple #[.agg #[.int .u64 ((zl c2.num : Nat) : Int), .string (zh c2.num), .bool (zs c2.num), .int .u64 ((lo (fe c2) : Nat) : Int), .string (hs (fe c2))], .int .i64 0] := hv 6 (by omega) (by omega)
   have e7 : fv 7 = .agg #[.int .u64 ((zl c2.num : Nat) : Int), .string (zh c2.num), .bool (zs c2.num), .int .u64 ((lo (fe c2) : Nat) : Int), .string (hs (fe c2))] := hv 7 (by omega) (by omega)
   obtain ⟨kb9, e9, n9, m9⟩ : NewB x8.heap.size [.int .u64 0, .string ⟨#[]⟩, .bool false, .int .u64 0, .string ⟨#[]⟩] (fv 9) wl := hv 9 (by omega) (by omega)
   have hx0 := hL0
   replace hL0 := hL0.call (below_drew hb1)
   replace hL0 := GL.tnew (M := []) hL0 hx0 n9 m9 (fun p hp => by cases hp)
   simp only [List.cons_append, List.nil_append] at hL0
   have hA := hL0.fc
   simp only [fcG, cellsF, neK, and_true, ne_eq, Nat.zero_add, Nat.reduceAdd] at hA
   have hP := hL0.put 0 (kb9) _ rfl [.int .u64 ((zl c2.num : Nat) : Int), .string (zh c2.num), .bool (zs c2.num), .int .u64 ((lo (fe c2) : Nat) : Int), .string (hs (fe c2))] rfl
   simp only [setAll, List.set_cons_zero, List.set_cons_succ] at hP
   have hB1 := hP.fc
   simp only [fcG, cellsF, neK, and_true, ne_eq, Nat.zero_add, Nat.reduceAdd] at hB1
   refine ⟨(((((wl.setCell ⟨kb9, 0, none⟩ (.int .u64 ((zl c2.num : Nat) : Int))).setCell ⟨kb9, 1, none⟩ (.string (zh c2.num))).setCell ⟨kb9, 2, none⟩ (.bool (zs c2.num))).setCell ⟨kb9, 3, none⟩ (.int .u64 ((lo (fe c2) : Nat) : Int))).setCell ⟨kb9, 4, none⟩ (.string (hs (fe c2)))), .int .i64 0, fun o ho => ?_, fun o ho => ?_, ?_⟩
   ·obtain rfl := Option.some.inj ho
    simp [execOp, go_sem, Act.eval, putsV, Act.put, List.take_succ_cons, List.take_zero, List.setIfInBounds_toArray, List.set_cons_succ, List.set_cons_zero, Nat.zero_add, Nat.reduceAdd, hA, e0, e5, e6, e7, e9]
   ·obtain rfl := Option.some.inj ho
    simp [execOp, go_sem, Act.eval, putsV, Act.put, List.take_succ_cons, List.take_zero, List.setIfInBounds_toArray, List.set_cons_succ, List.set_cons_zero, Nat.zero_add, Nat.reduceAdd, hB1, e0, e5, e6, e7, e9]
   ·rfl
  ·intro fv x9 hb1 hv hne
   have e0 : fv 0 = _ := hv 0 (by omega)
   have q1 : ILs x9 (fv 1) ([1, 0]) := hv 1 (by omega)
   obtain ⟨g8, d8, g8c, e1⟩ := ils_form q1
   rw [e1] at q1
   have q2 : PT x9 (fv 2) v2 := hv 2 (by omega)
   obtain ⟨g9, d9, g9c, e2, -⟩ := pt_form q2
   rw [e2] at q2
   have q3 : ILs x9 (fv 3) ([0, 1]) := hv 3 (by omega)
   obtain ⟨g10, d10, g10c, e3⟩ := ils_form q3
   rw [e3] at q3
   have q4 : PT x9 (fv 4) v3 := hv 4 (by omega)
   obtain ⟨g11, d11, g11c, e4, -⟩ := pt_form q4
   rw [e4] at q4
   have e5 : fv 5 = _ := hv 5 (by omega)
   have e6 : fv 6 = _ := hv 6 (by omega)
   have e7 : fv 7 = _ := hv 7 (by omega)
   have e8 : fv 8 = _ := hv 8 (by omega)
   obtain ⟨kb9, e9, n9, m9⟩ : NewB x8.heap.size [.int .u64 0, .string ⟨#[]⟩, .bool false, .int .u64 0, .string ⟨#[]⟩] (fv 9) x9 := hv 9 (by omega)
   simp only [List.take_succ_cons, List.take_zero, putsV, Act.put, List.setIfInBounds_toArray, List.set_cons_succ, List.set_cons_zero, List.drop_succ_cons, List.drop_zero, Nat.zero_add, Nat.reduceAdd, e0, e1, e2, e3, e4, e5, e6, e7, e8, e9]
   have hx0 := hL0
   replace hL0 := hL0.call (below_drew hb1)
   replace hT := hT.call (below_drew hb1)
   replace hL0 := GL.tnew (M := []) hL0 hx0 n9 m9 (fun p hp => by cases hp)
   simp only [List.cons_append, List.nil_append] at hL0
   have hkb := Lib.hid m9
   clear e0 e1 e2 e3 e4 e5 e6 e7 e8 e9 hb1 hv hne hx0 n9 m9 q1 q2 q3 q4 fv
   have hT1 := hT.putN hSo.out hkb.out ((((((Upd.refl kb9 x9).setCell 0 (.int .u64 ((zl c2.num : Nat) : Int))).setCell 1 (.string (zh c2.num))).setCell 2 (.bool (zs c2.num))).setCell 3 (.int .u64 ((lo (fe c2) : Nat) : Int))).setCell 4 (.string (hs (fe c2))))
   have hA := hL0.fc
   simp only [fcG, cellsF, neK, and_true, ne_eq, Nat.zero_add, Nat.reduceAdd] at hA
   have hP := hL0.put 0 (kb9) _ rfl [.int .u64 ((zl c2.num : Nat) : Int), .string (zh c2.num), .bool (zs c2.num), .int .u64 ((lo (fe c2) : Nat) : Int), .string (hs (fe c2))] rfl
   simp only [setAll, List.set_cons_zero, List.set_cons_succ] at hP
   generalize hput1 : (((((x9.setCell ⟨kb9, 0, none⟩ (.int .u64 ((zl c2.num : Nat) : Int))).setCell ⟨kb9, 1, none⟩ (.string (zh c2.num))).setCell ⟨kb9, 2, none⟩ (.bool (zs c2.num))).setCell ⟨kb9, 3, none⟩ (.int .u64 ((lo (fe c2) : Nat) : Int))).setCell ⟨kb9, 4, none⟩ (.string (hs (fe c2)))) = x10 at hP hT1
   have hB1 := hP.fc
   simp only [fcG, cellsF, neK, and_true, ne_eq, Nat.zero_add, Nat.reduceAdd] at hB1
   replace hL0 := hP
   replace hT := hT1
   clear hT1 hSo hkb
   go_upto_region 6 with fail
   clear hput1 hB1
   clear hA
   refine region_tl 43 [EV (.int .i64 0), EV (.bool false), EV (.bool false), EV (.int .i64 0), EV (.bool false), EV (.bool false), EV (.bool false), EV (.int .i64 0), EV (.bool false), EV (.bool false), EV (.bool false), EV (.int .i64 0), EV (.bool false), EV (.bool false), EV (.bool false), EV (.int .i64 0), EV (.bool false), EV (.bool false), EV (.bool false), EV (.agg #[.int .i64 2, .int .i64 2, .slice g1 d1 g1c]), EV (.string (ByteArray.mk #[91, 49, 32, 50, 93, 32, 91, 51, 32, 52, 93])), EV (.bool false), EV (.bool false), EV (.bool false), EV (.agg #[.int .i64 2, .int .i64 2, .slice g2 d2 g2c]), EV (.string (ByteArray.mk #[91, 49, 32, 51, 93, 32, 91, 50, 32, 52, 93])), EV (.bool false), EV (.bool false), EV (.bool false), EV (.agg #[.int .i64 2, .int .i64 2, .slice g3 d3 g3c]), EV (.string (ByteArray.mk #[91, 55, 32, 49, 48, 93, 32, 91, 49, 53, 32, 50, 50, 93])), EV (.bool false), EV (.bool false), EV (.bool false), EV (.slice g7 d7 g7c), EV (.string (ByteArray.mk #[91, 45, 49, 32, 45, 49, 93])), EV (.bool false), EV (.bool false), EV (.bool false), EV (.agg #[.int .u64 ((zl c2.num : Nat) : Int), .string (zh c2.num), .bool (zs c2.num), .int .u64 ((lo (fe c2) : Nat) : Int), .string (hs (fe c2))]), EV (.agg #[.int .u64 ((zl c2.num : Nat) : Int), .string (zh c2.num), .bool (zs c2.num), .int .u64 ((lo (fe c2) : Nat) : Int), .string (hs (fe c2))]), EV (.bool false), EV (.bool false)] (by kernel_rfl) (by kernel_rfl) ?_ ?_ ?_
   ·exact stays_cons (stays_eq _) (stays_cons (stays_eq _) (stays_cons (stays_eq _) (stays_cons (stays_eq _) (stays_cons (stays_eq _) (stays_cons (stays_eq _) (stays_cons (stays_eq _) (stays_cons (stays_eq _) (stays_cons (stays_eq _) (stays_cons (stays_eq _) (stays_cons (stays_eq _) (stays_cons (stays_eq _) (stays_cons (stays_eq _) (stays_cons (stays_eq _) (stays_cons (stays_eq _) (stays_cons (stays_eq _) (stays_cons (stays_eq _) (stays_cons (stays_eq _) (stays_cons (stays_eq _) (stays_cons (stays_eq _) (stays_cons (stays_eq _) (stays_cons (stays_eq _) (stays_cons (stays_eq _) (stays_cons (stays_eq _) (stays_cons (stays_eq _) (stays_cons (stays_eq _) (stays_cons (stays_eq _) (stays_cons (stays_eq _) (stays_cons (stays_eq _) (stays_cons (stays_eq _) (stays_cons (stays_eq _) (stays_cons (stays_eq _) (stays_cons (stays_eq _) (stays_cons (stays_eq _) (stays_cons (stays_eq _) (stays_cons (stays_eq _) (stays_cons (stays_eq _) (stays_cons (stays_eq _) (stays_cons (stays_eq _) (stays_cons (stays_eq _) (stays_cons (stays_eq _) (stays_cons (stays_eq _) (stays_cons (stays_eq _) (stays_nil)))))))))))))))))))))))))))))))))))))))))))
   ·simp only [List.take_succ_cons, List.take_zero, hopsR, and_true]
    refine ⟨?_, ?_, ?_, ?_, ?_, ?_, ?_, ?_, ?_, ?_, ?_, ?_, ?_, ?_, ?_, ?_, ?_, ?_, ?_, ?_, ?_, ?_, ?_, ?_, ?_, ?_, ?_, ?_, ?_, ?_, ?_, ?_, ?_, ?_, ?_, ?_, ?_, ?_, ?_, ?_, ?_, ?_, ?_⟩ <;> intro fv w1 hb1 hp
    all_goals (simp only [putsV, Act.put, List.setIfInBounds_toArray, List.set_cons_succ, List.set_cons_zero, Nat.zero_add, Nat.reduceAdd])
    ·refine tyAt_none rfl ?_
     simp [tyUpon, execOp, go_sem, Act.eval, Below.refl]
    ·have h0 : EV _ (fv 0) w1 := hp 0 (LC (by kernel_rfl))
     refine tyAt_none rfl ?_
     simp [tyUpon, execOp, go_sem, Act.eval, h0, Below.refl]
    ·have h1 : EV _ (fv 1) w1 := hp 1 (LC (by kernel_rfl))
     refine tyAt_none rfl ?_
     simp [tyUpon, execOp, go_sem, Act.eval, h1, Below.refl]
    ·have h2 : EV _ (fv 2) w1 := hp 2 (LC (by kernel_rfl))
     refine tyAt_yes (by simp [Region.wanted, yielded, h2]) ?_
     simp [tyUpon, execOp, go_sem, Act.eval, h2, Below.refl]
    ·have h3 : EV _ (fv 3) w1 := hp 3 (LC (by kernel_rfl))
     have h2 : EV _ (fv 2) w1 := hp 2 (LC (by kernel_rfl))
     refine tyAt_yes (by simp [Region.wanted, yielded, h3, h2]) ?_
     simp [tyUpon, execOp, go_sem, Act.eval, h3, h2, Below.refl]
    ·have h2 : EV _ (fv 2) w1 := hp 2 (LC (by kernel_rfl))
     have h4 : EV _ (fv 4) w1 := hp 4 (LC (by kernel_rfl))
     refine tyAt_none rfl ?_
     simp [tyUpon, execOp, go_sem, Act.eval, h2, h4, Below.refl]
    ·have h5 : EV _ (fv 5) w1 := hp 5 (LC (by kernel_rfl))
     refine tyAt_none rfl ?_
     simp [tyUpon, execOp, go_sem, Act.eval, h5, Below.refl]
    ·have h6 : EV _ (fv 6) w1 := hp 6 (LC (by kernel_rfl))
     refine tyAt_yes (by simp [Region.wanted, yielded, h6]) ?_
     simp [tyUpon, execOp, go_sem, Act.eval, h6, Below.refl]
    ·have h7 : EV _ (fv 7) w1 := hp 7 (LC (by kernel_rfl))
     have h6 : EV _ (fv 6) w1 := hp 6 (LC (by kernel_rfl))
     refine tyAt_yes (by simp [Region.wanted, yielded, h7, h6]) ?_
     simp [tyUpon, execOp, go_sem, Act.eval, h7, h6, Below.refl]
    ·have h6 : EV _ (fv 6) w1 := hp 6 (LC (by kernel_rfl))
     have h8 : EV _ (fv 8) w1 := hp 8 (LC (by kernel_rfl))
     refine tyAt_none rfl ?_
     simp [tyUpon, execOp, go_sem, Act.eval, h6, h8, Below.refl]
    ·have h9 : EV _ (fv 9) w1 := hp 9 (LC (by kernel_rfl))
     refine tyAt_none rfl ?_
     simp [tyUpon, execOp, go_sem, Act.eval, h9, Below.refl]
    ·have h10 : EV _ (fv 10) w1 := hp 10 (LC (by kernel_rfl))
     refine tyAt_yes (by simp [Region.wanted, yielded, h10]) ?_
     simp [tyUpon, execOp, go_sem, Act.eval, h10, Below.refl]
    ·have h11 : EV _ (fv 11) w1 := hp 11 (LC (by kernel_rfl))
     have h10 : EV _ (fv 10) w1 := hp 10 (LC (by kernel_rfl))
     refine tyAt_yes (by simp [Region.wanted, yielded, h11, h10]) ?_
     simp [tyUpon, execOp, go_sem, Act.eval, h11, h10, Below.refl]
    ·have h10 : EV _ (fv 10) w1 := hp 10 (LC (by kernel_rfl))
     have h12 : EV _ (fv 12) w1 := hp 12 (LC (by kernel_rfl))
     refine tyAt_none rfl ?_
     simp [tyUpon, execOp, go_sem, Act.eval, h10, h12, Below.refl]
    ·have h13 : EV _ (fv 13) w1 := hp 13 (LC (by kernel_rfl))
     refine tyAt_none rfl ?_
     simp [tyUpon, execOp, go_sem, Act.eval, h13, Below.refl]
    ·have h14 : EV _ (fv 14) w1 := hp 14 (LC (by kernel_rfl))
     refine tyAt_yes (by simp [Region.wanted, yielded, h14]) ?_
     simp [tyUpon, execOp, go_sem, Act.eval, h14, Below.refl]
    ·have h15 : EV _ (fv 15) w1 := hp 15 (LC (by kernel_rfl))
     have h14 : EV _ (fv 14) w1 := hp 14 (LC (by kernel_rfl))
     refine tyAt_yes (by simp [Region.wanted, yielded, h15, h14]) ?_
     simp [tyUpon, execOp, go_sem, Act.eval, h15, h14, Below.refl]
    ·have h14 : EV _ (fv 14) w1 := hp 14 (LC (by kernel_rfl))
     have h16 : EV _ (fv 16) w1 := hp 16 (LC (by kernel_rfl))
     refine tyAt_none rfl ?_
     simp [tyUpon, execOp, go_sem, Act.eval, h14, h16, Below.refl]
    ·have h17 : EV _ (fv 17) w1 := hp 17 (LC (by kernel_rfl))
     refine tyAt_none rfl ?_
     simp [tyUpon, execOp, go_sem, Act.eval, h17, Below.refl]
    ·have h18 : EV _ (fv 18) w1 := hp 18 (LC (by kernel_rfl))
     refine tyAt_yes (by simp [Region.wanted, yielded, h18]) ?_
     have hc := (hL0.call (below_drew hb1)).fc
     simp only [fcG, cellsF, neK, and_true, ne_eq, Nat.zero_add, Nat.reduceAdd] at hc
     simp [tyUpon, execOp, go_sem, Act.eval, hc, h18, Below.refl]
    ·have h19 : EV _ (fv 19) w1 := hp 19 (LC (by kernel_rfl))
     have h18 : EV _ (fv 18) w1 := hp 18 (LC (by kernel_rfl))
     refine tyAt_yes (by simp [Region.wanted, yielded, h19, h18]) ?_
     refine ty_call (f := 128) (args := #[.agg #[.int .i64 2, .int .i64 2, .slice g1 d1 g1c]]) (by simp [execOp, go_sem, Act.eval, h19, h18]) ?_
     exact (HXma.out (.agg #[.int .i64 2, .int .i64 2, .slice g1 d1 g1c]) w1 (hKT.out.at ((hL0.call (below_drew hb1)).bl) kKT) (mt_of (PT.below (hT.get (List.mem_cons_of_mem _ (List.mem_cons_of_mem _ (List.mem_cons_of_mem _ (List.mem_cons_of_mem _ (List.mem_cons_of_mem _ List.mem_cons_self)))))) (below_drew hb1)) hcp1.out hma1.out hma2.out)).mono fun e w2 ⟨h1, h2⟩ => ⟨_, h1, rfl, h2⟩
    ·have h20 : EV _ (fv 20) w1 := hp 20 (LC (by kernel_rfl))
     have h18 : EV _ (fv 18) w1 := hp 18 (LC (by kernel_rfl))
     refine tyAt_yes (by simp [Region.wanted, yielded, h20, h18]) ?_
     simp [tyUpon, execOp, go_sem, Act.eval, h20, h18, Below.refl]
    ·have h18 : EV _ (fv 18) w1 := hp 18 (LC (by kernel_rfl))
     have h21 : EV _ (fv 21) w1 := hp 21 (LC (by kernel_rfl))
     refine tyAt_none rfl ?_
     simp [tyUpon, execOp, go_sem, Act.eval, h18, h21, Below.refl]
    ·have h22 : EV _ (fv 22) w1 := hp 22 (LC (by kernel_rfl))
     refine tyAt_none rfl ?_
     simp [tyUpon, execOp, go_sem, Act.eval, h22, Below.refl]
    ·have h23 : EV _ (fv 23) w1 := hp 23 (LC (by kernel_rfl))
     refine tyAt_yes (by simp [Region.wanted, yielded, h23]) ?_
     have hc := (hL0.call (below_drew hb1)).fc
     simp only [fcG, cellsF, neK, and_true, ne_eq, Nat.zero_add, Nat.reduceAdd] at hc
     simp [tyUpon, execOp, go_sem, Act.eval, hc, h23, Below.refl]
    ·have h24 : EV _ (fv 24) w1 := hp 24 (LC (by kernel_rfl))
     have h23 : EV _ (fv 23) w1 := hp 23 (LC (by kernel_rfl))
     refine tyAt_yes (by simp [Region.wanted, yielded, h24, h23]) ?_
     refine ty_call (f := 128) (args := #[.agg #[.int .i64 2, .int .i64 2, .slice g2 d2 g2c]]) (by simp [execOp, go_sem, Act.eval, h24, h23]) ?_
     exact (HXmt.out (.agg #[.int .i64 2, .int .i64 2, .slice g2 d2 g2c]) w1 (hKT.out.at ((hL0.call (below_drew hb1)).bl) kKT) (mt_of (PT.below (hT.get (List.mem_cons_of_mem _ (List.mem_cons_of_mem _ (List.mem_cons_of_mem _ (List.mem_cons_of_mem _ List.mem_cons_self))))) (below_drew hb1)) hcp2.out hmt1.out hmt2.out)).mono fun e w2 ⟨h1, h2⟩ => ⟨_, h1, rfl, h2⟩
    ·have h25 : EV _ (fv 25) w1 := hp 25 (LC (by kernel_rfl))
     have h23 : EV _ (fv 23) w1 := hp 23 (LC (by kernel_rfl))
     refine tyAt_yes (by simp [Region.wanted, yielded, h25, h23]) ?_
     simp [tyUpon, execOp, go_sem, Act.eval, h25, h23, Below.refl]
    ·have h23 : EV _ (fv 23) w1 := hp 23 (LC (by kernel_rfl))
     have h26 : EV _ (fv 26) w1 := hp 26 (LC (by kernel_rfl))
     refine tyAt_none rfl ?_
     simp [tyUpon, execOp, go_sem, Act.eval, h23, h26, Below.refl]
    ·have h27 : EV _ (fv 27) w1 := hp 27 (LC (by kernel_rfl))
     refine tyAt_none rfl ?_
     simp [tyUpon, execOp, go_sem, Act.eval, h27, Below.refl]
    ·have h28 : EV _ (fv 28) w1 := hp 28 (LC (by kernel_rfl))
     refine tyAt_yes (by simp [Region.wanted, yielded, h28]) ?_
     have hc := (hL0.call (below_drew hb1)).fc
     simp only [fcG, cellsF, neK, and_true, ne_eq, Nat.zero_add, Nat.reduceAdd] at hc
     simp [tyUpon, execOp, go_sem, Act.eval, hc, h28, Below.refl]
    ·have h29 : EV _ (fv 29) w1 := hp 29 (LC (by kernel_rfl))
     have h28 : EV _ (fv 28) w1 := hp 28 (LC (by kernel_rfl))
     refine tyAt_yes (by simp [Region.wanted, yielded, h29, h28]) ?_
     refine ty_call (f := 128) (args := #[.agg #[.int .i64 2, .int .i64 2, .slice g3 d3 g3c]]) (by simp [execOp, go_sem, Act.eval, h29, h28]) ?_
     exact (HXmp.out (.agg #[.int .i64 2, .int .i64 2, .slice g3 d3 g3c]) w1 (hKT.out.at ((hL0.call (below_drew hb1)).bl) kKT) (mt_of (PT.below (hT.get (List.mem_cons_of_mem _ (List.mem_cons_of_mem _ (List.mem_cons_of_mem _ List.mem_cons_self)))) (below_drew hb1)) hcp3.out hmp1.out hmp2.out)).mono fun e w2 ⟨h1, h2⟩ => ⟨_, h1, rfl, h2⟩
    ·have h30 : EV _ (fv 30) w1 := hp 30 (LC (by kernel_rfl))
     have h28 : EV _ (fv 28) w1 := hp 28 (LC (by kernel_rfl))
     refine tyAt_yes (by simp [Region.wanted, yielded, h30, h28]) ?_
     simp [tyUpon, execOp, go_sem, Act.eval, h30, h28, Below.refl]
    ·have h28 : EV _ (fv 28) w1 := hp 28 (LC (by kernel_rfl))
     have h31 : EV _ (fv 31) w1 := hp 31 (LC (by kernel_rfl))
     refine tyAt_none rfl ?_
     simp [tyUpon, execOp, go_sem, Act.eval, h28, h31, Below.refl]
    ·have h32 : EV _ (fv 32) w1 := hp 32 (LC (by kernel_rfl))
     refine tyAt_none rfl ?_
     simp [tyUpon, execOp, go_sem, Act.eval, h32, Below.refl]
    ·have h33 : EV _ (fv 33) w1 := hp 33 (LC (by kernel_rfl))
     refine tyAt_yes (by simp [Region.wanted, yielded, h33]) ?_
     simp [tyUpon, execOp, go_sem, Act.eval, h33, Below.refl]
    ·have h34 : EV _ (fv 34) w1 := hp 34 (LC (by kernel_rfl))
     have h33 : EV _ (fv 33) w1 := hp 33 (LC (by kernel_rfl))
     refine tyAt_yes (by simp [Region.wanted, yielded, h34, h33]) ?_
     refine ty_call (f := 84) (args := #[.slice g7 d7 g7c]) (by simp [execOp, go_sem, Act.eval, h34, h33]) ?_
     exact (HXv.out (.slice g7 d7 g7c) w1 (hKT.out.at ((hL0.call (below_drew hb1)).bl) kKT) (PT.below (hT.get List.mem_cons_self) (below_drew hb1))).mono fun e w2 ⟨h1, h2⟩ => ⟨_, h1, rfl, h2⟩
    ·have h35 : EV _ (fv 35) w1 := hp 35 (LC (by kernel_rfl))
     have h33 : EV _ (fv 33) w1 := hp 33 (LC (by kernel_rfl))
     refine tyAt_yes (by simp [Region.wanted, yielded, h35, h33]) ?_
     simp [tyUpon, execOp, go_sem, Act.eval, h35, h33, Below.refl]
    ·have h33 : EV _ (fv 33) w1 := hp 33 (LC (by kernel_rfl))
     have h36 : EV _ (fv 36) w1 := hp 36 (LC (by kernel_rfl))
     refine tyAt_none rfl ?_
     simp [tyUpon, execOp, go_sem, Act.eval, h33, h36, Below.refl]
    ·have h37 : EV _ (fv 37) w1 := hp 37 (LC (by kernel_rfl))
     refine tyAt_none rfl ?_
     simp [tyUpon, execOp, go_sem, Act.eval, h37, Below.refl]
    ·have h38 : EV _ (fv 38) w1 := hp 38 (LC (by kernel_rfl))
     refine tyAt_yes (by simp [Region.wanted, yielded, h38]) ?_
     have hc := (hL0.call (below_drew hb1)).fc
     simp only [fcG, cellsF, neK, and_true, ne_eq, Nat.zero_add, Nat.reduceAdd] at hc
     simp [tyUpon, execOp, go_sem, Act.eval, hc, h38, Below.refl]
    ·have h38 : EV _ (fv 38) w1 := hp 38 (LC (by kernel_rfl))
     refine tyAt_yes (by simp [Region.wanted, yielded, h38]) ?_
     refine ty_call (f := 34) (args := #[.int .i64 2]) (by simp [execOp, go_sem, Act.eval, h38]) ?_
     exact (HI2.out w1).mono fun e w2 ⟨h1, h2⟩ => ⟨_, h1, rfl, h2⟩
    ·have h39 : EV _ (fv 39) w1 := hp 39 (LC (by kernel_rfl))
     have h40 : EV _ (fv 40) w1 := hp 40 (LC (by kernel_rfl))
     have h38 : EV _ (fv 38) w1 := hp 38 (LC (by kernel_rfl))
     refine tyAt_yes (by simp [Region.wanted, yielded, h39, h40, h38]) ?_
     simp [tyUpon, execOp, go_sem, Act.eval, h39, h40, h38, Below.refl]
    ·have h38 : EV _ (fv 38) w1 := hp 38 (LC (by kernel_rfl))
     have h41 : EV _ (fv 41) w1 := hp 41 (LC (by kernel_rfl))
     refine tyAt_none rfl ?_
     simp [tyUpon, execOp, go_sem, Act.eval, h38, h41, Below.refl]
   ·intro fv x11 hb1 hv
    have e0 : fv 0 = _ := hv 0 (by omega)
    have e1 : fv 1 = _ := hv 1 (by omega)
    have e2 : fv 2 = _ := hv 2 (by omega)
    have e3 : fv 3 = _ := hv 3 (by omega)
    have e4 : fv 4 = _ := hv 4 (by omega)
    have e5 : fv 5 = _ := hv 5 (by omega)
    have e6 : fv 6 = _ := hv 6 (by omega)
    have e7 : fv 7 = _ := hv 7 (by omega)
    have e8 : fv 8 = _ := hv 8 (by omega)
    have e9 : fv 9 = _ := hv 9 (by omega)
    have e10 : fv 10 = _ := hv 10 (by omega)
    have e11 : fv 11 = _ := hv 11 (by omega)
    have e12 : fv 12 = _ := hv 12 (by omega)
    have e13 : fv 13 = _ := hv 13 (by omega)
    have e14 : fv 14 = _ := hv 14 (by omega)
    have e15 : fv 15 = _ := hv 15 (by omega)
    have e16 : fv 16 = _ := hv 16 (by omega)
    have e17 : fv 17 = _ := hv 17 (by omega)
    have e18 : fv 18 = _ := hv 18 (by omega)
    have e19 : fv 19 = _ := hv 19 (by omega)
    have e20 : fv 20 = _ := hv 20 (by omega)
    have e21 : fv 21 = _ := hv 21 (by omega)
    have e22 : fv 22 = _ := hv 22 (by omega)
    have e23 : fv 23 = _ := hv 23 (by omega)
    have e24 : fv 24 = _ := hv 24 (by omega)
    have e25 : fv 25 = _ := hv 25 (by omega)
    have e26 : fv 26 = _ := hv 26 (by omega)
    have e27 : fv 27 = _ := hv 27 (by omega)
    have e28 : fv 28 = _ := hv 28 (by omega)
    have e29 : fv 29 = _ := hv 29 (by omega)
    have e30 : fv 30 = _ := hv 30 (by omega)
    have e31 : fv 31 = _ := hv 31 (by omega)
    have e32 : fv 32 = _ := hv 32 (by omega)
    have e33 : fv 33 = _ := hv 33 (by omega)
    have e34 : fv 34 = _ := hv 34 (by omega)
    have e35 : fv 35 = _ := hv 35 (by omega)
    have e36 : fv 36 = _ := hv 36 (by omega)
    have e37 : fv 37 = _ := hv 37 (by omega)
    have e38 : fv 38 = _ := hv 38 (by omega)
    have e39 : fv 39 = _ := hv 39 (by omega)
    have e40 : fv 40 = _ := hv 40 (by omega)
    have e41 : fv 41 = _ := hv 41 (by omega)
    have e42 : fv 42 = _ := hv 42 (by omega)
    simp only [List.take_succ_cons, List.take_zero, putsV, Act.put, List.setIfInBounds_toArray, List.set_cons_succ, List.set_cons_zero, List.drop_succ_cons, List.drop_zero, Nat.zero_add, Nat.reduceAdd, e0, e1, e2, e3, e4, e5, e6, e7, e8, e9, e10, e11, e12, e13, e14, e15, e16, e17, e18, e19, e20, e21, e22, e23, e24, e25, e26, e27, e28, e29, e30, e31, e32, e33, e34, e35, e36, e37, e38, e39, e40, e41, e42]
    replace hL0 := hL0.call (below_drew hb1)
    replace hT := hT.call (below_drew hb1)
    clear e0 e1 e2 e3 e4 e5 e6 e7 e8 e9 e10 e11 e12 e13 e14 e15 e16 e17 e18 e19 e20 e21 e22 e23 e24 e25 e26 e27 e28 e29 e30 e31 e32 e33 e34 e35 e36 e37 e38 e39 e40 e41 e42 hb1 hv fv
    replace hT := (hT.new (.cells #[.int .i64 1] 2))
    replace hL0 := (hL0.new rfl [.int .i64 1] 2)
    generalize hweq : (x11.alloc (.cells #[.int .i64 1] 2)) = x12 at hL0 hT
    have hbv2 : ILs x12 (.slice (some ⟨x11.heap.size, 0, none⟩) 1 1) [1] := ils_at (hL0.get _ _ List.mem_cons_self) rfl rfl
    replace hbv2 := Lib.hid hbv2
    go_wp2_with fail
    with_reducible refine Calls.mono (HO2.out (.slice (some ⟨x11.heap.size, 0, none⟩) 1 1) _ hbv2.out) ?_
    rintro e x13 ⟨rfl, hb⟩
    replace hL0 := hL0.call hb
    replace hT := hT.call hb
    clear hb hweq
    replace hT := (hT.new (.cells #[.int .i64 0, .int .i64 0, .slice none 0 0] 81))
    replace hL0 := (hL0.new rfl [.int .i64 0, .int .i64 0, .slice none 0 0] 81)
    generalize hweq : (x13.alloc (.cells #[.int .i64 0, .int .i64 0, .slice none 0 0] 81)) = x14 at hL0 hT
    have hT1 := hT.putM ((((Upd.refl x13.heap.size x14).setCell 0 (.int .i64 0)).setCell 1 (.int .i64 0)).setCell 2 (.slice none 0 0)) (hL0.get _ _ List.mem_cons_self) (by intro n; simp)
    have hA := hL0.fc
    simp only [fcG, cellsF, neK, and_true, ne_eq, Nat.zero_add, Nat.reduceAdd] at hA
    have hP := hL0.put 0 (x13.heap.size) _ rfl [.int .i64 0, .int .i64 0, .slice none 0 0] rfl
    simp only [setAll, List.set_cons_zero, List.set_cons_succ] at hP
    generalize hput2 : (((x14.setCell ⟨x13.heap.size, 0, none⟩ (.int .i64 0)).setCell ⟨x13.heap.size, 1, none⟩ (.int .i64 0)).setCell ⟨x13.heap.size, 2, none⟩ (.slice none 0 0)) = x15 at hP hT1
    have hB2 := hP.fc
    simp only [fcG, cellsF, neK, and_true, ne_eq, Nat.zero_add, Nat.reduceAdd] at hB2
    replace hL0 := hP
    replace hT := hT1
    clear hT1
    go_wp2_with fail
    clear hA
    with_reducible refine Calls.mono (HO3.out _) ?_
    rintro e x16 ⟨rfl, hb⟩
    replace hL0 := hL0.call hb
    replace hT := hT.call hb
    clear hb hweq hput2 hB2
    replace hT := (hT.new (.cells #[.int .i64 0, .int .i64 0, .slice none 0 0] 81))
    replace hL0 := (hL0.new rfl [.int .i64 0, .int .i64 0, .slice none 0 0] 81)
    generalize hweq : (x16.alloc (.cells #[.int .i64 0, .int .i64 0, .slice none 0 0] 81)) = x17 at hL0 hT
    have hT1 := hT.putM ((((Upd.refl x16.heap.size x17).setCell 0 (.int .i64 0)).setCell 1 (.int .i64 0)).setCell 2 (.slice none 0 0)) (hL0.get _ _ List.mem_cons_self) (by intro n; simp)
    have hA := hL0.fc
    simp only [fcG, cellsF, neK, and_true, ne_eq, Nat.zero_add, Nat.reduceAdd] at hA
    have hP := hL0.put 0 (x16.heap.size) _ rfl [.int .i64 0, .int .i64 0, .slice none 0 0] rfl
    simp only [setAll, List.set_cons_zero, List.set_cons_succ] at hP
    generalize hput3 : (((x17.setCell ⟨x16.heap.size, 0, none⟩ (.int .i64 0)).setCell ⟨x16.heap.size, 1, none⟩ (.int .i64 0)).setCell ⟨x16.heap.size, 2, none⟩ (.slice none 0 0)) = x18 at hP hT1
    have hB3 := hP.fc
    simp only [fcG, cellsF, neK, and_true, ne_eq, Nat.zero_add, Nat.reduceAdd] at hB3
    replace hL0 := hP
    replace hT := hT1
    clear hT1
    go_wp2_with fail
    clear hA
    with_reducible refine Calls.mono (HO4.out _) ?_
    rintro e x19 ⟨rfl, hb⟩
    replace hL0 := hL0.call hb
    replace hT := hT.call hb
    clear hb hweq hput3 hB3
    replace hT := (hT.new (.cells #[.int .i64 0, .int .i64 0, .slice none 0 0] 81))
    replace hL0 := (hL0.new rfl [.int .i64 0, .int .i64 0, .slice none 0 0] 81)
    generalize hweq : (x19.alloc (.cells #[.int .i64 0, .int .i64 0, .slice none 0 0] 81)) = x20 at hL0 hT
    have hT1 := hT.putM ((((Upd.refl x19.heap.size x20).setCell 0 (.int .i64 0)).setCell 1 (.int .i64 0)).setCell 2 (.slice none 0 0)) (hL0.get _ _ List.mem_cons_self) (by intro n; simp)
    have hA := hL0.fc
    simp only [fcG, cellsF, neK, and_true, ne_eq, Nat.zero_add, Nat.reduceAdd] at hA
    have hP := hL0.put 0 (x19.heap.size) _ rfl [.int .i64 0, .int .i64 0, .slice none 0 0] rfl
    simp only [setAll, List.set_cons_zero, List.set_cons_succ] at hP
    generalize hput4 : (((x20.setCell ⟨x19.heap.size, 0, none⟩ (.int .i64 0)).setCell ⟨x19.heap.size, 1, none⟩ (.int .i64 0)).setCell ⟨x19.heap.size, 2, none⟩ (.slice none 0 0)) = x21 at hP hT1
    have hB4 := hP.fc
    simp only [fcG, cellsF, neK, and_true, ne_eq, Nat.zero_add, Nat.reduceAdd] at hB4
    replace hL0 := hP
    replace hT := hT1
    clear hT1
    go_wp2_with fail
    clear hA
    with_reducible refine Calls.mono (HO5.out _) ?_
    rintro e x22 ⟨v0, rfl, q0, hb⟩
    replace hL0 := hL0.call hb
    replace hT := hT.call hb
    clear hb hweq hput4 hB4
    obtain ⟨g12, d12, g12c, rfl, hm4, hcp4⟩ := mt_form q0 hmn1.out hmn2.out
    replace hcp4 := Lib.hid hcp4
    replace hT := hT.cons hm4
    clear hm4
    clear q0
    replace hT := (hT.new (.cells #[.int .i64 0, .int .i64 3, .slice g12 d12 g12c] 81))
    replace hL0 := (hL0.new rfl [.int .i64 0, .int .i64 3, .slice g12 d12 g12c] 81)
    generalize hweq : (x22.alloc (.cells #[.int .i64 0, .int .i64 3, .slice g12 d12 g12c] 81)) = x23 at hL0 hT
    go_upto_region 12 with fail
    have hZ0 := cells_of _ 0 [] rfl (hL0.get _ _ (List.mem_cons_of_mem _ (List.mem_cons_of_mem _ (List.mem_cons_of_mem _ (List.mem_cons_of_mem _ (List.mem_cons_of_mem _ (List.mem_cons_of_mem _ (List.mem_cons_of_mem _ (List.mem_cons_of_mem _ List.mem_cons_self)))))))))
    simp only [cellsF, and_true, Nat.zero_add, Nat.reduceAdd] at hZ0
    replace hT := ((hT.new (.cells #[.int .i64 1, .int .i64 0] 3)).new (.cells #[.int .i64 1] 3))
    clear hweq
    replace hL0 := ((hL0.new rfl [.int .i64 1, .int .i64 0] 3).new (K := x23.heap.size + 1) (szA _ _) [.int .i64 1] 3)
    generalize hweq : ((x23.alloc (.cells #[.int .i64 1, .int .i64 0] 3)).alloc (.cells #[.int .i64 1] 3)) = x24 at hL0 hT
    have hN0 := cells_of _ 0 [] rfl (hL0.get _ _ (List.mem_cons_of_mem _ (List.mem_cons_of_mem _ (List.mem_cons_of_mem _ (List.mem_cons_of_mem _ (List.mem_cons_of_mem _ (List.mem_cons_of_mem _ (List.mem_cons_of_mem _ (List.mem_cons_of_mem _ (List.mem_cons_of_mem _ (List.mem_cons_of_mem _ List.mem_cons_self)))))))))))
    simp only [cellsF, and_true, Nat.zero_add, Nat.reduceAdd] at hN0
    have hbv3 : ILs x24 (.slice (some ⟨x23.heap.size, 0, none⟩) 2 2) [1, 0] := ils_at (hL0.get _ _ (List.mem_cons_of_mem _ List.mem_cons_self)) rfl rfl
    replace hbv3 := Lib.hid hbv3
    have hbv4 : ILs x24 (.slice (some ⟨x23.heap.size + 1, 0, none⟩) 1 1) [1] := ils_at (hL0.get _ _ List.mem_cons_self) rfl rfl
    replace hbv4 := Lib.hid hbv4
    go_wp2_with fail
    clear hN0
    with_reducible refine Calls.mono (HP1.out (.agg #[.int .i64 2, .int .i64 2, .slice g1 d1 g1c]) (.slice (some ⟨x23.heap.size, 0, none⟩) 2 2) (.slice (some ⟨x23.heap.size + 1, 0, none⟩) 1 1) _ (mt_of (hT.get (List.mem_cons_of_mem _ (List.mem_cons_of_mem _ (List.mem_cons_of_mem _ (List.mem_cons_of_mem _ (List.mem_cons_of_mem _ (List.mem_cons_of_mem _ List.mem_cons_self))))))) hcp1.out hma1.out hma2.out) hbv3.out hbv4.out) ?_
    rintro e x25 ⟨v0, rfl, q0, hb⟩
    replace hL0 := hL0.call hb
    replace hT := hT.call hb
    clear hb hweq
    clear hZ0
    obtain ⟨g13, d13, g13c, rfl, hm5, hcp5⟩ := mt_form q0 hmq1.out hmq2.out
    replace hcp5 := Lib.hid hcp5
    replace hT := hT.cons hm5
    clear hm5
    clear q0
    have hZ0 := cells_of _ 0 [] rfl (hL0.get _ _ (List.mem_cons_of_mem _ (List.mem_cons_of_mem _ List.mem_cons_self)))
    simp only [cellsF, and_true, Nat.zero_add, Nat.reduceAdd] at hZ0
    replace hT := (hT.new (.cells #[.int .i64 2, .int .i64 1, .slice g13 d13 g13c] 81))
    replace hL0 := (hL0.new rfl [.int .i64 2, .int .i64 1, .slice g13 d13 g13c] 81)
    generalize hweq : (x25.alloc (.cells #[.int .i64 2, .int .i64 1, .slice g13 d13 g13c] 81)) = x26 at hL0 hT
    have hN0 := cells_of _ 0 [] rfl (hL0.get _ _ List.mem_cons_self)
    simp only [cellsF, and_true, Nat.zero_add, Nat.reduceAdd] at hN0
    have hN1 := cells_of _ 0 [] rfl (hL0.get _ _ (List.mem_cons_of_mem _ (List.mem_cons_of_mem _ (List.mem_cons_of_mem _ List.mem_cons_self))))
    simp only [cellsF, and_true, Nat.zero_add, Nat.reduceAdd] at hN1
    go_wp2_with fail
    clear hN0 hN1
    with_reducible refine Calls.mono (HXmq.out (.agg #[.int .i64 2, .int .i64 1, .slice g13 d13 g13c]) _ (hKT.out.at (hL0.bl) kKT) (mt_of (hT.get List.mem_cons_self) hcp5.out hmq1.out hmq2.out)) ?_
    rintro e x27 ⟨rfl, hb⟩
    replace hL0 := hL0.call hb
    replace hT := hT.call hb
    clear hb hweq
    clear hZ0
    have hN0 := cells_of _ 0 [] rfl (hL0.get _ _ (List.mem_cons_of_mem _ (List.mem_cons_of_mem _ (List.mem_cons_of_mem _ (List.mem_cons_of_mem _ (List.mem_cons_of_mem _ (List.mem_cons_of_mem _ (List.mem_cons_of_mem _ (List.mem_cons_of_mem _ (List.mem_cons_of_mem _ (List.mem_cons_of_mem _ (List.mem_cons_of_mem _ List.mem_cons_self))))))))))))
    simp only [cellsF, and_true, Nat.zero_add, Nat.reduceAdd] at hN0
    go_wp2_with fail
    clear hN0
    with_reducible refine Calls.mono (HS1.out (.agg #[.int .i64 2, .int .i64 2, .slice g1 d1 g1c]) _ (mt_of (hT.get (List.mem_cons_of_mem _ (List.mem_cons_of_mem _ (List.mem_cons_of_mem _ (List.mem_cons_of_mem _ (List.mem_cons_of_mem _ (List.mem_cons_of_mem _ (List.mem_cons_of_mem _ List.mem_cons_self)))))))) hcp1.out hma1.out hma2.out)) ?_
    rintro e x28 ⟨rfl, hb⟩
    replace hL0 := hL0.call hb
    replace hT := hT.call hb
    clear hb
    go_wp2_with fail
    with_reducible refine Calls.mono (HI10.out _) ?_
    rintro e x29 ⟨rfl, hb⟩
    replace hL0 := hL0.call hb
    replace hT := hT.call hb
    clear hb
    have hN0 := cells_of _ 0 [] rfl (hL0.get _ _ (List.mem_cons_of_mem _ (List.mem_cons_of_mem _ (List.mem_cons_of_mem _ (List.mem_cons_of_mem _ (List.mem_cons_of_mem _ (List.mem_cons_of_mem _ (List.mem_cons_of_mem _ (List.mem_cons_of_mem _ (List.mem_cons_of_mem _ (List.mem_cons_of_mem _ (List.mem_cons_of_mem _ List.mem_cons_self))))))))))))
    simp only [cellsF, and_true, Nat.zero_add, Nat.reduceAdd] at hN0
    go_wp2_with fail
    clear hN0
    with_reducible refine Calls.mono (HY1.out (.agg #[.int .i64 2, .int .i64 2, .slice g1 d1 g1c]) _ (mt_of (hT.get (List.mem_cons_of_mem _ (List.mem_cons_of_mem _ (List.mem_cons_of_mem _ (List.mem_cons_of_mem _ (List.mem_cons_of_mem _ (List.mem_cons_of_mem _ (List.mem_cons_of_mem _ List.mem_cons_self)))))))) hcp1.out hma1.out hma2.out)) ?_
    rintro e x30 ⟨rfl, hb⟩
    replace hL0 := hL0.call hb
    replace hT := hT.call hb
    clear hb
    have hN0 := cells_of _ 0 [] rfl (hL0.get _ _ (List.mem_cons_of_mem _ (List.mem_cons_of_mem _ (List.mem_cons_of_mem _ List.mem_cons_self))))
    simp only [cellsF, and_true, Nat.zero_add, Nat.reduceAdd] at hN0
    go_wp2_with fail
    clear hN0
    with_reducible refine Calls.mono (HY2.out (.agg #[.int .i64 0, .int .i64 3, .slice g12 d12 g12c]) _ (mt_of (hT.get (List.mem_cons_of_mem _ List.mem_cons_self)) hcp4.out hmn1.out hmn2.out)) ?_
    rintro e x31 ⟨rfl, hb⟩
    replace hL0 := hL0.call hb
    replace hT := hT.call hb
    clear hb
    go_wp2_with fail
    exact bodyPost_ret (v := .bool true) (by simp [results, Tryz.results41, go_sem]) rfl ⟨rfl, hL0.bl⟩
end Go.Proofs.YthkodldppaccmaaGreatDoor
namespace Go.Proofs.YthkodldppaccmaaGreatDoor
open Go.RowKit
attribute [local irreducible] lo hs sm s64 c64 d64 b64 mh ml pd pc qd qc val hiB str cmpI srD lz nb zl zh zs fe
def mW (r c : Nat) (zs : List Int) : Mx := ⟨r, c, oW zs⟩
def maW : Mx := mW 2 2 [1, 2, 3, 4]
def mtW : Mx := turM 2 2 maW
def mpW : Mx := mulM 2 2 2 maW maW
def mnW : Mx := mW 0 3 []
def mqW : Mx := tabM 2 1 fun i j => ent maW ([1, 0].getD i 0) ([1].getD j 0)
/-- The text of a row, without brackets. -/
def jrow (l : List Rat) : List UInt8 := Lib.join ((l.map qtxt).map (·.data.toList)) [32]
def srow (x : Mx) (i : Nat) : ByteArray := ⟨([91] ++ jrow (rowL x i) ++ [93]).toArray⟩
def jmat (x : Mx) (n : Nat) : List UInt8 := Lib.join (((List.range n).map (srow x)).map (·.data.toList)) [32]
theorem gmW {x : Mx} {n k : Nat} (hr : x.r = n) (hc : x.c = k) (hl : x.l.length = n * k) (hs : x.l.all (fun q => decide (q.num.natAbs < 18446744073709551616 ∧ q.den < 18446744073709551616)) = true) : GM x n k 1 := ⟨hr, hc, hl, szl hs⟩
theorem mtext_at (x : Mx) (n k : Nat) (t : ByteArray) (hx : GM x n k 1) (hn : n ≤ 12) (hk : k ≤ 12) (hl : (List.range n).all (fun i => decide ((jrow (rowL x i)).length ≤ 100)) = true) (hJ : (⟨(jmat x n).toArray⟩ : ByteArray) = t) (hl2 : (jmat x n).length ≤ 1000000) (u : Value) (w : World) (hT : Tab w) (hu : MT w u x) :
  Calls Tryz.prog 128 #[u] w fun e w' => e = .returned (.string t) ∧ Below w.heap.size w w' := by
 rw [← hJ]
 have ox := hx.ok (by omega) (by omega)
 have hs := hx.sz
 have hlen := hx.len
 obtain ⟨rfl, rfl, -, -⟩ := hx
 obtain ⟨u1, rfl, hu⟩ := hu
 refine mTextV x (srow x) (jmat x x.r) ox (fun i hi v w ht hv => ?_) rfl hl2 u1 w hT hu
 have h9 := of_decide_eq_true (List.all_eq_true.1 hl i (List.mem_range.2 hi))
 exact rtextV (rowL x i) x.c 1 (jrow (rowL x i)) (row_len x i) (by omega) (by omega) (fun q hq => by
  obtain ⟨k, hk, rfl⟩ := tab_mem hq
  exact hs _ (gv_mem (by rw [hlen]; exact ix_lt hi hk))) rfl (by omega) v w ht hv
theorem ils_nil (w : World) : ILs w (.slice none 0 0) [] := ⟨none, 0, 0, rfl, fun h => absurd h (Nat.lt_irrefl _), fun i h => absurd h (Nat.not_lt_zero _)⟩
theorem mof_at (r c : Nat) (zs : List Int) (hm : zs.length ≤ 100000) (hz : ∀ z ∈ zs, -9223372036854775808 ≤ z ∧ z < 9223372036854775808) (hr : r ≤ 2048) (hc : c ≤ 2048) (hl : zs.length = r * c) (s : Value) (w : World) (hs : ILs w s zs) :
  Calls Tryz.prog 127 #[.int .i64 (r : Int), .int .i64 (c : Int), s] w fun e w' => ∃ pv, e = .returned (.tuple #[pv, .int .i64 0]) ∧ MT w' pv (mW r c zs) ∧ Below w.heap.size w w' := by
 refine (mOf_ok r c zs hm hz hr hc hl s w hs).mono ?_
 rintro e w' ⟨t, rfl, h1, hb⟩
 exact ⟨_, rfl, ⟨t, rfl, h1.cq⟩, hb⟩
theorem gma : GM maW 2 2 1 := gmW rfl rfl rfl (by kernel_rfl)
theorem gmt : GM mtW 2 2 1 := gmW rfl rfl rfl (by kernel_rfl)
theorem gmp : GM mpW 2 2 1 := gmW rfl rfl rfl (by kernel_rfl)
theorem gmn : GM mnW 0 3 1 := gmW rfl rfl rfl (by kernel_rfl)
theorem gmq : GM mqW 2 1 1 := gmW rfl rfl rfl (by kernel_rfl)
theorem gvW (zs : List Int) (n : Nat) (h : zs.length = n) (hs : (oW zs).all (fun q => decide (q.num.natAbs < 18446744073709551616 ∧ q.den < 18446744073709551616)) = true) : GV (oW zs) n 1 := ⟨by unfold oW; rw [tabV_len, h], szl hs⟩
set_option maxRecDepth 10000 in
theorem mworks_any (w : World) (ht : Tab w) : Calls Tryz.prog 41 #[] w fun xe w' => xe = .returned (.bool true) ∧ Below w.heap.size w w' := by
 have g1 := gvW [1, -1] 2 rfl (by kernel_rfl)
 have g2 := gvW [1, 0] 2 rfl (by kernel_rfl)
 have g3 := gvW [0, 1] 2 rfl (by kernel_rfl)
 have e2 : formM 2 2 maW (oW [1, 0]) (oW [0, 1]) = (((2 : Int)) : Rat) := by decide +kernel
 have e10 : qsum maW.l = (((10 : Int)) : Rat) := by decide +kernel
 have sva : ∀ q ∈ appV 2 2 maW (oW [1, -1]), Sz q 1 := szl (by kernel_rfl)
 refine mworks_w maW mtW mpW mnW mqW (oW [1, -1]) (oW [1, 0]) (oW [0, 1]) (appV 2 2 maW (oW [1, -1])) (((2 : Int)) : Rat) (((10 : Int)) : Rat)
  (fun p w h => mof_at 2 2 [1, 2, 3, 4] (by decide) (by decide) (by decide) (by decide) rfl p w h)
  (fun p w h => MTurnG gma (by decide) (by decide) p w h)
  (fun p q w h g => MulG gma gma (by decide) (by decide) (by decide) (by decide) (by decide) p q w h g)
  (fun p w h => of_at _ (by decide) (by decide) p w h) (fun p w h => of_at _ (by decide) (by decide) p w h) (fun p w h => of_at _ (by decide) (by decide) p w h)
  (fun p q w h g => MApplyG gma g1 (by decide) (by decide) (by decide) (by decide) p q w h g)
  (fun p q s w h g f => by have := MFormG (N := 10) gma g2 g3 (by decide) (by decide) (by decide) (by decide) (by decide) (by decide) p q s w h g f; rwa [e2] at this)
  (fun w => intF 2 (by decide) (by decide) w) (fun w => intF 10 (by decide) (by decide) w)
  (fun p w h => mOf_err 2 2 1 [1] (by decide) (by decide) (by decide) (fun d ao w => mcheck_len 2 2 1 d 4 ao (by decide) (by decide) rfl (by decide) w) p w h)
  (fun w => mOf_err (-1) 2049 1 [] (by decide) (by decide) (by decide) (fun d ao w => mcheck_err (-1) 2049 1 0 d ao (by decide) (fun w => msize_neg1 (-1) 2049 (by decide) w) w) _ w (ils_nil w))
  (fun w => mOf_err 2049 0 3 [] (by decide) (by decide) (by decide) (fun d ao w => mcheck_err 2049 0 3 0 d ao (by decide) (fun w => msize_big1 2049 0 (by decide) (by decide) (by decide) w) w) _ w (ils_nil w))
  (fun w => mof_at 0 3 [] (by decide) (by decide) (by decide) (by decide) rfl _ w (ils_nil w))
  (fun p q s w h g f => by
   obtain ⟨u1, rfl, hu⟩ := h
   refine (mPartV maW [1, 0] [1] (gma.ok (by decide) (by decide)) (by decide) (by decide) (by decide) (by decide) u1 q s w hu g f).mono ?_
   rintro e w' ⟨t, rfl, h1, hb⟩
   exact ⟨_, rfl, ⟨t, rfl, h1.cq⟩, hb⟩)
  (fun p w h => by
   obtain ⟨u1, rfl, hu⟩ := h
   have := mSumV maW 1 (gma.ok (by decide) (by decide)) (by decide) (by decide) (by decide) gma.sz u1 w hu
   rwa [e10] at this)
  (fun p w h => MSymG gma (by decide) false ⟨(fun h => by cases h), fun h => by have := h 0 1 (by decide) (by decide); revert this; decide +kernel⟩ p w h)
  (fun p w h => MSymN gmn (by decide) (by decide) (by decide) p w h)
  Tab Keeps.tab
  (fun p w hT h => mtext_at maW 2 2 _ gma (by decide) (by decide) (by kernel_rfl) (by kernel_rfl) (by decide +kernel) p w hT h)
  (fun p w hT h => mtext_at mtW 2 2 _ gmt (by decide) (by decide) (by kernel_rfl) (by kernel_rfl) (by decide +kernel) p w hT h)
  (fun p w hT h => mtext_at mpW 2 2 _ gmp (by decide) (by decide) (by kernel_rfl) (by kernel_rfl) (by decide +kernel) p w hT h)
  (fun p w hT h => mtext_at mqW 2 1 _ gmq (by decide) (by decide) (by kernel_rfl) (by kernel_rfl) (by decide +kernel) p w hT h)
  (fun p w hT h => text_at (appV 2 2 maW (oW [1, -1])) (jrow (appV 2 2 maW (oW [1, -1]))) _ (by decide +kernel) sva rfl (by decide +kernel) (by kernel_rfl) p w hT h)
  (by rfl) (by rfl) (by rfl) (by rfl) (by rfl) (by rfl) (by rfl) (by rfl) (by rfl) (by rfl) w ht
end Go.Proofs.YthkodldppaccmaaGreatDoor
namespace Go.Proofs.YthkodldppaccmaaGreatDoor
open Go.RowKit
attribute [local irreducible] lo hs sm s64 c64 d64 b64 mh ml pd pc qd qc val hiB str cmpI srD lz nb zl zh zs fe qmade
section
variable {x y r : Mx} {n k p K M N : Nat}
theorem ri {x : Mx} {n k K : Nat} (h : GM x n k K) : (x.r : Int) = (n : Int) := by rw [h.r]
theorem ci {x : Mx} {n k K : Nat} (h : GM x n k K) : (x.c : Int) = (k : Int) := by rw [h.c]
theorem lmulG (hx : GM x n k K) (hy : GM y k p M) (hn : n ≤ 12) (hk : k ≤ 12) (hp : p ≤ 12) (hK : K ≤ 700) (hM : M ≤ 700) (hr : mulM n k p x y = r) (u v : Value) (w : World) (hu : MT w u x) (hv : MT w v y) :
  Calls Tryz.prog 68 #[u, v] w fun e w' => ∃ pv, e = .returned pv ∧ MT w' pv r ∧ Below w.heap.size w w' := by
 have gr := hx.mul hy
 rw [hr] at gr
 exact lmul_w n k k p n p x y r (fun u v w hu hv => by have := MulG hx hy hn hk hp hK hM u v w hu hv; rwa [hr] at this) (ri hx) (ci hx) (ri hy) (ci hy) (ri gr) (ci gr) u v w hu hv
theorem lmaddG (hx : GM x n k K) (hy : GM y n k M) (hn : n ≤ 12) (hk : k ≤ 12) (hK : K ≤ 100000) (hM : M ≤ 100000) (hr : sumM n k x y = r) (u v : Value) (w : World) (hu : MT w u x) (hv : MT w v y) :
  Calls Tryz.prog 69 #[u, v] w fun e w' => ∃ pv, e = .returned pv ∧ MT w' pv r ∧ Below w.heap.size w w' := by
 have gr := hx.sum hy
 rw [hr] at gr
 exact lmadd_w n k n k n k x y r (fun u v w hu hv => by have := MAddG hx hy hn hk hK hM u v w hu hv; rwa [hr] at this) (ri hx) (ci hx) (ri hy) (ci hy) (ri gr) (ci gr) u v w hu hv
theorem lturnG (hx : GM x n k K) (hn : n ≤ 12) (hk : k ≤ 12) (hr : turM n k x = r) (u : Value) (w : World) (hu : MT w u x) :
  Calls Tryz.prog 70 #[u] w fun e w' => ∃ pv, e = .returned pv ∧ MT w' pv r ∧ Below w.heap.size w w' := by
 have gr := hx.tur
 rw [hr] at gr
 exact lturn_w n k k n x r (fun u w hu => by have := MTurnG hx hn hk u w hu; rwa [hr] at this) (ri hx) (ci hx) (ri gr) (ci gr) u w hu
theorem few_any (ls : List Nat) (b : Bool) (hb : b = true ↔ ∀ l ∈ ls, l ≤ 40) (hm : ls.length ≤ 10) (v : Value) (w : World) (hv : FWs w v ls) : Calls Tryz.prog 40 #[v] w fun e w' => e = .returned (.bool b) ∧ Below w.heap.size w w' := by
 obtain ⟨ao, c, g, rfl, h1, h2⟩ := hv
 refine mfew_w ls.length c g ao (fun i => ls.getD i 0) (by omega) w h1 (fun i hi => ?_) b (hb.trans ⟨fun h i hi => ?_, fun h l hl => ?_⟩)
 ·obtain ⟨a, d, h3⟩ := h2 i hi
  exact ⟨a, d, by rw [h3, List.getD_eq_getElem?_getD, List.getElem?_eq_getElem hi]; rfl⟩
 ·show ls.getD i 0 ≤ 40
  rw [List.getD_eq_getElem?_getD, List.getElem?_eq_getElem hi]
  exact h _ (List.getElem_mem hi)
 ·obtain ⟨i, hi, rfl⟩ := List.getElem_of_mem hl
  have := h i hi
  rwa [List.getD_eq_getElem?_getD, List.getElem?_eq_getElem hi] at this
end
theorem t5 {z : Int} (h : 0 ≤ z) : ∃ d : Nat, Int.tmod z 5 = (d : Int) ∧ d ≤ 4 := by
 rw [Int.tmod_eq_emod_of_nonneg h]
 exact ⟨(z % 5).toNat, by omega, by omega⟩
end Go.Proofs.YthkodldppaccmaaGreatDoor
namespace Go.Proofs.YthkodldppaccmaaGreatDoor
open Go.ChangeShapes Go.WideShapes Go.ChangeAt Go.RowKit
theorem own : ownKnob Tryz.prog.godebug = none := by kernel_rfl
theorem cells24 : Tryz.prog.cellsOf 32 = 1 := by kernel_rfl
/-- The variables that every row of this layer lists. -/
def laidAll : List (String × DataW Unit) := [("math/bits.deBruijn32tab", Rows.laid_math_bits_deBruijn32tab), ("math/bits.deBruijn64tab", Rows.laid_math_bits_deBruijn64tab), ("internal/strconv.uint64pow10", Rows.laid_internal_strconv_uint64pow10)]
theorem gPow : Tryz.prog.globalNamed "internal/strconv.uint64pow10" = some 2 := by kernel_rfl
theorem gPowType : (Tryz.prog.globals[2]?).map (·.type) = some 275 := by kernel_rfl
theorem cells20 : Tryz.prog.cellsOf 275 = 20 := by kernel_rfl
theorem tab_of {W : World} (h : laidMetH Tryz.prog laidAll W) : Tab W := by
 have h1 := laidMetH.filter (fun x => x.1 == "internal/strconv.uint64pow10") h
 have e : laidAll.filter (fun x => x.1 == "internal/strconv.uint64pow10") = [("internal/strconv.uint64pow10", Rows.laid_internal_strconv_uint64pow10)] := by kernel_rfl
 rw [e, MakeChecks.laidMetH_plain _ _ _ (by kernel_rfl)] at h1
 exact Lib.tabIs_of_head (rest := []) gPow gPowType Tryz.underlying275 Tryz.underlying32 cells24 cells20 (show laidMet Tryz.prog (("internal/strconv.uint64pow10", Lib.tabData .u64 Lib.pow10Tab) :: []) W from h1)
end Go.Proofs.YthkodldppaccmaaGreatDoor
namespace Go.Proofs.YthkodldppaccmaaGreatDoor
open Go.ChangeShapes Go.WideShapes Go.ChangeAt Go.RowKit Go.Joins
set_option maxRecDepth 100000 in
theorem cellsQ : Tryz.prog.cellsOf 24 = 2 := by kernel_rfl
theorem cellsI : Tryz.prog.cellsOf 2 = 1 := by kernel_rfl
theorem cellsU : Tryz.prog.cellsOf 22 = 1 := by kernel_rfl
set_option maxRecDepth 100000 in
theorem q_of {H : Type} {enc : TypeId × Value → H} {W : World} {base : Nat} {v : Value} {d : DataW H} {p : List MemPlace} (hv : Value.okWide Tryz.prog W .any base 24 v)
  (h : DataW.Trod enc Tryz.prog W 0 (fun _ => true) true 24 v d p) : ∃ n e : Int, v = .agg #[.int .i64 n, .int .u32 e] ∧ (-9223372036854775808 ≤ n ∧ n < 9223372036854775808) ∧ (0 ≤ e ∧ e < 4294967296) := by
 obtain ⟨v0, v1, y0, y1, m, rfl, rfl, rfl, h0, h1⟩ := open_agg2 Tryz.underlying24 (by kernel_rfl) cellsQ hv h
 obtain ⟨n, e0, -, f0⟩ := DataW.trod_int Tryz.underlying2 h0
 obtain ⟨e, e1, -, f1⟩ := DataW.trod_int Tryz.underlying22 h1
 simp only [List.cons.injEq, and_true] at e0 e1
 subst e0 e1
 have b0 := bounds_i64 f0
 have b1 := bounds_u32 f1
 exact ⟨n, e, rfl, by omega, by omega⟩
end Go.Proofs.YthkodldppaccmaaGreatDoor
namespace Go.Proofs.YthkodldppaccmaaGreatDoor
open Go.ChangeShapes Go.WideShapes Go.ChangeAt Go.RowKit Go.Joins
section
variable {H : Type} {enc : TypeId × Value → H} {P : Program} {w : World} {base : Nat} {spare : Nat → Bool} {held : Bool}
end
theorem addaddV (a : Addr) (i j : Nat) : (a.add i).add j = a.add (i + j) := by
 unfold Addr.add
 by_cases h : i = 0
 ·subst h; simp
 ·by_cases h2 : j = 0
  ·subst h2; simp [h]
  ·simp [h, h2, Nat.add_assoc]
set_option maxRecDepth 100000 in
theorem qv_of {H : Type} {enc : TypeId × Value → H} {W : World} {base : Nat} {v : Value} {d : DataW H} {p : List MemPlace} (hv : Value.okWide Tryz.prog W .any base 25 v)
  (h : DataW.Trod enc Tryz.prog W 0 (fun _ => true) true 25 v d p) : ∃ a n c l, v = .slice a n c ∧ QV W (.slice a n c) l := by
 obtain ⟨a0, len, cap, rfl⟩ := okWide_slice Tryz.underlying25 hv
 obtain ⟨fuel, hf⟩ := h
 rcases Go.Deep.open_slice_pairs Tryz.underlying25 Tryz.underlying24 cellsQ rfl rfl cellsI cellsU hf with ⟨hcs, hx⟩ | ⟨a, len', cap', m, n, V0, V1, D0, D1, P0, P1, hcs, _, hl, _, hm, hx, hcell⟩
 ·simp [Value.cells] at hcs
  obtain ⟨rfl, rfl, rfl⟩ := hcs
  exact ⟨none, 0, 0, [], rfl, none, 0, rfl, Nat.le_refl _, fun _ => rfl, fun h => absurd h (Nat.lt_irrefl _)⟩
 ·simp [Value.cells] at hcs
  obtain ⟨rfl, rfl, rfl⟩ := hcs
  simp only [if_true] at hm
  by_cases h0 : len = 0
  ·subst h0
   exact ⟨some a, 0, cap, [], rfl, some a, cap, rfl, Nat.zero_le _, (fun h => by cases h), fun h => absurd h (Nat.lt_irrefl _)⟩
  have each : ∀ i, i < len → ∃ z : Int × Int, W.cell? (a.add (i * 2)) = some (.int .i64 z.1) ∧ W.cell? ((a.add (i * 2)).add 1) = some (.int .u32 z.2) ∧ (-9223372036854775808 ≤ z.1 ∧ z.1 < 9223372036854775808) ∧ 0 ≤ z.2 ∧ z.2 < 4294967296 := by
   intro i hi
   obtain ⟨e0, e1, g0, g1⟩ := hcell i (by omega)
   obtain ⟨x, y0, -, f0⟩ := DataW.trod_int Tryz.underlying2 g0
   obtain ⟨y, y1, -, f1⟩ := DataW.trod_int Tryz.underlying22 g1
   simp only [List.cons.injEq, and_true] at y0 y1
   rw [y0] at e0
   rw [y1] at e1
   have b0 := bounds_i64 f0
   have b1 := bounds_u32 f1
   exact ⟨(x, y), e0, by rw [addaddV]; exact e1, by omega, by omega⟩
  obtain ⟨q, hq⟩ := Go.Deep.choose_lt each
  refine ⟨some a, len, cap, (List.range len).map q, rfl, some a, cap, by simp, by simpa using hl, (fun h => by cases h), fun _ => ⟨a, rfl, fun i hi => ?_, fun i hi => ?_, fun z hz => ?_, ?_⟩⟩
  ·have hi' : i < len := by simpa using hi
   have := (hq i hi').1
   simpa using this
  ·have hi' : i < len := by simpa using hi
   have := (hq i hi').2.1
   simpa using this
  ·obtain ⟨i, hi, rfl⟩ := List.mem_map.1 hz
   exact (hq i (List.mem_range.1 hi)).2.2
  ·have e := (hq 0 (by omega)).1
   have := World.block_lt_of_cell? W _ e
   rw [add_blk] at this
   exact this
end Go.Proofs.YthkodldppaccmaaGreatDoor
namespace Go.Proofs.YthkodldppaccmaaGreatDoor
open Go.ChangeShapes Go.WideShapes Go.ChangeAt Go.RowKit Go.Joins
section
variable {H : Type} {enc : TypeId × Value → H} {P : Program} {w : World} {base : Nat} {spare : Nat → Bool} {held : Bool}
end
set_option maxRecDepth 100000 in
theorem qv_of_trod {H : Type} {enc : TypeId × Value → H} {W : World} {fuel : Nat} {v : Value} {y : DataW H × List MemPlace}
  (hf : DataW.trod enc Tryz.prog W 0 (fun _ => true) true fuel 25 [v] = some y) : ∃ a n c l, v = .slice a n c ∧ QV W (.slice a n c) l := by
 obtain ⟨d, p⟩ := y
 rcases Go.Deep.open_slice_pairs Tryz.underlying25 Tryz.underlying24 cellsQ rfl rfl cellsI cellsU hf with ⟨hcs, hx⟩ | ⟨a, len, cap, m, n, V0, V1, D0, D1, P0, P1, hcs, _, hl, _, hm, hx, hcell⟩
 ·simp only [List.cons.injEq, and_true] at hcs
  subst hcs
  exact ⟨none, 0, 0, [], rfl, none, 0, rfl, Nat.le_refl _, fun _ => rfl, fun h => absurd h (Nat.lt_irrefl _)⟩
 ·simp only [List.cons.injEq, and_true] at hcs
  subst hcs
  simp only [if_true] at hm
  by_cases h0 : len = 0
  ·subst h0
   exact ⟨some a, 0, cap, [], rfl, some a, cap, rfl, Nat.zero_le _, (fun h => by cases h), fun h => absurd h (Nat.lt_irrefl _)⟩
  have each : ∀ i, i < len → ∃ z : Int × Int, W.cell? (a.add (i * 2)) = some (.int .i64 z.1) ∧ W.cell? ((a.add (i * 2)).add 1) = some (.int .u32 z.2) ∧ (-9223372036854775808 ≤ z.1 ∧ z.1 < 9223372036854775808) ∧ 0 ≤ z.2 ∧ z.2 < 4294967296 := by
   intro i hi
   obtain ⟨e0, e1, g0, g1⟩ := hcell i (by omega)
   obtain ⟨x, y0, -, f0⟩ := DataW.trod_int Tryz.underlying2 g0
   obtain ⟨y, y1, -, f1⟩ := DataW.trod_int Tryz.underlying22 g1
   simp only [List.cons.injEq, and_true] at y0 y1
   rw [y0] at e0
   rw [y1] at e1
   have b0 := bounds_i64 f0
   have b1 := bounds_u32 f1
   exact ⟨(x, y), e0, by rw [addaddV]; exact e1, by omega, by omega⟩
  obtain ⟨q, hq⟩ := Go.Deep.choose_lt each
  refine ⟨some a, len, cap, (List.range len).map q, rfl, some a, cap, by simp, by simpa using hl, (fun h => by cases h), fun _ => ⟨a, rfl, fun i hi => ?_, fun i hi => ?_, fun z hz => ?_, ?_⟩⟩
  ·have hi' : i < len := by simpa using hi
   have := (hq i hi').1
   simpa using this
  ·have hi' : i < len := by simpa using hi
   have := (hq i hi').2.1
   simpa using this
  ·obtain ⟨i, hi, rfl⟩ := List.mem_map.1 hz
   exact (hq i (List.mem_range.1 hi)).2.2
  ·have e := (hq 0 (by omega)).1
   have := World.block_lt_of_cell? W _ e
   rw [add_blk] at this
   exact this
theorem cellsM : Tryz.prog.cellsOf 76 = 3 := by kernel_rfl
set_option maxRecDepth 100000 in
theorem m_of {H : Type} {enc : TypeId × Value → H} {W : World} {base : Nat} {v : Value} {d : DataW H} {p : List MemPlace} (hv : Value.okWide Tryz.prog W .any base 76 v)
  (h : DataW.Trod enc Tryz.prog W 0 (fun _ => true) true 76 v d p) : ∃ (x y : Int) (a : Option Addr) (n c : Nat) (l : List (Int × Int)), v = .agg #[.int .u8 x, .int .u8 y, .slice a n c] ∧ (0 ≤ x ∧ x < 256) ∧ (0 ≤ y ∧ y < 256) ∧ QV W (.slice a n c) l := by
 obtain ⟨v0, v1, v2, y0, y1, y2, m, rfl, rfl, rfl, h0, h1, h2⟩ := open_agg3 Tryz.underlying76 (by kernel_rfl) cellsM hv h
 obtain ⟨x, e0, -, f0⟩ := DataW.trod_int Tryz.underlying5 h0
 obtain ⟨y, e1, -, f1⟩ := DataW.trod_int Tryz.underlying5 h1
 simp only [List.cons.injEq, and_true] at e0 e1
 subst e0 e1
 obtain ⟨a, n, c, l, rfl, hq⟩ := qv_of_trod h2
 have b0 := bounds_u8 f0
 have b1 := bounds_u8 f1
 exact ⟨x, y, a, n, c, l, rfl, by omega, by omega, hq⟩
end Go.Proofs.YthkodldppaccmaaGreatDoor
