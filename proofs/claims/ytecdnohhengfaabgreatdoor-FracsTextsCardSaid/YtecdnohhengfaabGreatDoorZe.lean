/-
  Layer 3, walks: the operations of fractions.
-/
import Derived.Test.YtecdnohhengfaabGreatDoorZd
set_option linter.unusedVariables false
set_option linter.unusedSimpArgs false
namespace Go.Proofs.YtecdnohhengfaabGreatDoor
open Go.RowKit
attribute [local irreducible] lo hs sm s64 c64 d64 b64 mh ml pd pc qd qc val hiB str cmpI srD lz nb isq decB zl zh zs

set_option maxHeartbeats 4000000 in
set_option maxRecDepth 100000 in
theorem fcmp_w (m n x y c : Int) (d e p q : Nat) (HD : ∀ w, Calls Tryz.prog 75 #[.agg #[.int .u64 ((zl m : Nat) : Int), .string (zh m), .bool (zs m), .int .u64 ((lo d : Nat) : Int), .string (hs d)]] w fun xe w' => xe = .returned (.agg #[.int .u64 ((lo p : Nat) : Int), .string (hs p)]) ∧ Below w.heap.size w w') (HE : ∀ w, Calls Tryz.prog 75 #[.agg #[.int .u64 ((zl n : Nat) : Int), .string (zh n), .bool (zs n), .int .u64 ((lo e : Nat) : Int), .string (hs e)]] w fun xe w' => xe = .returned (.agg #[.int .u64 ((lo q : Nat) : Int), .string (hs q)]) ∧ Below w.heap.size w w') (HS : ∀ w, Calls Tryz.prog 124 #[.agg #[.int .u64 ((zl m : Nat) : Int), .string (zh m), .bool (zs m)], .agg #[.int .u64 ((lo q : Nat) : Int), .string (hs q)]] w fun xe w' => xe = .returned (.agg #[.int .u64 ((zl x : Nat) : Int), .string (zh x), .bool (zs x)]) ∧ Below w.heap.size w w') (HT : ∀ w, Calls Tryz.prog 124 #[.agg #[.int .u64 ((zl n : Nat) : Int), .string (zh n), .bool (zs n)], .agg #[.int .u64 ((lo p : Nat) : Int), .string (hs p)]] w fun xe w' => xe = .returned (.agg #[.int .u64 ((zl y : Nat) : Int), .string (zh y), .bool (zs y)]) ∧ Below w.heap.size w w') (HC : ∀ w, Calls Tryz.prog 123 #[.agg #[.int .u64 ((zl x : Nat) : Int), .string (zh x), .bool (zs x)], .agg #[.int .u64 ((zl y : Nat) : Int), .string (zh y), .bool (zs y)]] w fun xe w' => xe = .returned (.int .i64 c) ∧ Below w.heap.size w w') (w : World) :
    Calls Tryz.prog 70 #[.agg #[.int .u64 ((zl m : Nat) : Int), .string (zh m), .bool (zs m), .int .u64 ((lo d : Nat) : Int), .string (hs d)], .agg #[.int .u64 ((zl n : Nat) : Int), .string (zh n), .bool (zs n), .int .u64 ((lo e : Nat) : Int), .string (hs e)]] w fun xe w' => xe = .returned (.int .i64 c) ∧ Below w.heap.size w w' := by
  have hL0 : GL w w [] := GL.start w
  replace HD := Lib.hid HD
  replace HE := Lib.hid HE
  replace HS := Lib.hid HS
  replace HT := Lib.hid HT
  replace HC := Lib.hid HC
  replace hL0 := ((hL0.new rfl [.int .u64 ((zl m : Nat) : Int), .string (zh m), .bool (zs m), .int .u64 ((lo d : Nat) : Int), .string (hs d)] 35).new (K := w.heap.size + 1) (szA _ _) [.int .u64 ((zl n : Nat) : Int), .string (zh n), .bool (zs n), .int .u64 ((lo e : Nat) : Int), .string (hs e)] 35)
  generalize hweq : ((w.alloc (.cells #[.int .u64 ((zl m : Nat) : Int), .string (zh m), .bool (zs m), .int .u64 ((lo d : Nat) : Int), .string (hs d)] 35)).alloc (.cells #[.int .u64 ((zl n : Nat) : Int), .string (zh n), .bool (zs n), .int .u64 ((lo e : Nat) : Int), .string (hs e)] 35)) = x1 at hL0
  go_enter Tryz.func70, Tryz.ntmps70
  go_upto_region 1 with fail
  clear hweq
  obtain ⟨α, iα, F, hF1, hF2⟩ := cls x1
  have hq0 := cls_box hF1 hL0 _ _ List.mem_cons_self
  simp only [cellsC, and_true, Nat.zero_add, Nat.reduceAdd] at hq0
  have hq1 := cls_box hF1 hL0 _ _ (List.mem_cons_of_mem _ List.mem_cons_self)
  simp only [cellsC, and_true, Nat.zero_add, Nat.reduceAdd] at hq1
  refine region_qs 12 (C := fun w' => ∃ x, w' = F x) (by kernel_rfl) (by kernel_rfl) (cls_drew hF2) ?_
  simp only [List.take_succ_cons, List.take_zero, List.drop_succ_cons, List.drop_zero, List.take_nil, List.drop_nil]
  repeat (go_big_quiet_step (first | fail | (go_at_call 75; with_reducible exact cls_call hF1 hF2 HE.out _) | (go_at_call 124; with_reducible exact cls_call hF1 hF2 HS.out _) | (go_at_call 75; with_reducible exact cls_call hF1 hF2 HD.out _) | (go_at_call 124; with_reducible exact cls_call hF1 hF2 HT.out _) | (go_at_call 123; with_reducible exact cls_call hF1 hF2 HC.out _)))
  refine wpQuiet_nil ?_
  rintro wq ⟨xq, rfl⟩
  replace hL0 := hL0.call (hF1 xq)
  clear  hq0 hq1 hF2
  generalize F xq = x2 at hL0 ⊢
  clear hF1 xq iα F α
  go_wp2_with fail
  exact bodyPost_ret (v := .int .i64 c) (by simp [results, Tryz.results70, go_sem]) rfl ⟨rfl, hL0.bl⟩

set_option maxHeartbeats 4000000 in
set_option maxRecDepth 100000 in
theorem fsquare_w (n m x : Int) (e d p f : Nat) (HM : ∀ w, Calls Tryz.prog 78 #[.agg #[.int .u64 ((zl n : Nat) : Int), .string (zh n), .bool (zs n)], .agg #[.int .u64 ((zl n : Nat) : Int), .string (zh n), .bool (zs n)]] w fun xe w' => xe = .returned (.agg #[.int .u64 ((zl m : Nat) : Int), .string (zh m), .bool (zs m)]) ∧ Below w.heap.size w w') (HD : ∀ w, Calls Tryz.prog 75 #[.agg #[.int .u64 ((zl n : Nat) : Int), .string (zh n), .bool (zs n), .int .u64 ((lo e : Nat) : Int), .string (hs e)]] w fun xe w' => xe = .returned (.agg #[.int .u64 ((lo d : Nat) : Int), .string (hs d)]) ∧ Below w.heap.size w w') (HP : ∀ w, Calls Tryz.prog 79 #[.agg #[.int .u64 ((lo d : Nat) : Int), .string (hs d)], .agg #[.int .u64 ((lo d : Nat) : Int), .string (hs d)]] w fun xe w' => xe = .returned (.agg #[.int .u64 ((lo p : Nat) : Int), .string (hs p)]) ∧ Below w.heap.size w w') (HL : ∀ w, Calls Tryz.prog 40 #[.agg #[.int .u64 ((zl m : Nat) : Int), .string (zh m), .bool (zs m)], .agg #[.int .u64 ((lo p : Nat) : Int), .string (hs p)]] w fun xe w' => xe = .returned (.agg #[.int .u64 ((zl x : Nat) : Int), .string (zh x), .bool (zs x), .int .u64 ((lo f : Nat) : Int), .string (hs f)]) ∧ Below w.heap.size w w') (w : World) :
    Calls Tryz.prog 73 #[.agg #[.int .u64 ((zl n : Nat) : Int), .string (zh n), .bool (zs n), .int .u64 ((lo e : Nat) : Int), .string (hs e)]] w fun xe w' => xe = .returned (.agg #[.int .u64 ((zl x : Nat) : Int), .string (zh x), .bool (zs x), .int .u64 ((lo f : Nat) : Int), .string (hs f)]) ∧ Below w.heap.size w w' := by
  have hL0 : GL w w [] := GL.start w
  replace HM := Lib.hid HM
  replace HD := Lib.hid HD
  replace HP := Lib.hid HP
  replace HL := Lib.hid HL
  replace hL0 := ((hL0.new rfl [.int .u64 ((zl n : Nat) : Int), .string (zh n), .bool (zs n), .int .u64 ((lo e : Nat) : Int), .string (hs e)] 35).new (K := w.heap.size + 1) (szA _ _) [.int .u64 0, .string ⟨#[]⟩, .bool false, .int .u64 0, .string ⟨#[]⟩] 35)
  generalize hweq : ((w.alloc (.cells #[.int .u64 ((zl n : Nat) : Int), .string (zh n), .bool (zs n), .int .u64 ((lo e : Nat) : Int), .string (hs e)] 35)).alloc (.cells #[.int .u64 0, .string ⟨#[]⟩, .bool false, .int .u64 0, .string ⟨#[]⟩] 35)) = x1 at hL0
  go_enter Tryz.func73, Tryz.ntmps73
  go_upto_region 1 with fail
  clear hweq
  obtain ⟨α, iα, F, hF1, hF2⟩ := cls x1
  have hq0 := cls_box hF1 hL0 _ _ (List.mem_cons_of_mem _ List.mem_cons_self)
  simp only [cellsC, and_true, Nat.zero_add, Nat.reduceAdd] at hq0
  refine region_qs 11 (C := fun w' => ∃ x, w' = F x) (by kernel_rfl) (by kernel_rfl) (cls_drew hF2) ?_
  simp only [List.take_succ_cons, List.take_zero, List.drop_succ_cons, List.drop_zero, List.take_nil, List.drop_nil]
  repeat (go_big_quiet_step (first | fail | (go_at_call 78; with_reducible exact cls_call hF1 hF2 HM.out _) | (go_at_call 75; with_reducible exact cls_call hF1 hF2 HD.out _) | (go_at_call 79; with_reducible exact cls_call hF1 hF2 HP.out _) | (go_at_call 40; with_reducible exact cls_call hF1 hF2 HL.out _)))
  refine wpQuiet_nil ?_
  rintro wq ⟨xq, rfl⟩
  replace hL0 := hL0.call (hF1 xq)
  clear  hq0 hF2
  generalize F xq = x2 at hL0 ⊢
  clear hF1 xq iα F α
  have hA := hL0.fc
  simp only [fcG, cellsF, neK, and_true, ne_eq, Nat.zero_add, Nat.reduceAdd] at hA
  have hP := hL0.put 0 (w.heap.size + 1) _ rfl [.int .u64 ((zl x : Nat) : Int), .string (zh x), .bool (zs x), .int .u64 ((lo f : Nat) : Int), .string (hs f)] rfl
  simp only [setAll, List.set_cons_zero, List.set_cons_succ] at hP
  generalize hput1 : (((((x2.setCell ⟨w.heap.size + 1, 0, none⟩ (.int .u64 ((zl x : Nat) : Int))).setCell ⟨w.heap.size + 1, 1, none⟩ (.string (zh x))).setCell ⟨w.heap.size + 1, 2, none⟩ (.bool (zs x))).setCell ⟨w.heap.size + 1, 3, none⟩ (.int .u64 ((lo f : Nat) : Int))).setCell ⟨w.heap.size + 1, 4, none⟩ (.string (hs f))) = x3 at hP
  have hB1 := hP.fc
  simp only [fcG, cellsF, neK, and_true, ne_eq, Nat.zero_add, Nat.reduceAdd] at hB1
  replace hL0 := hP
  go_wp2_with fail
  exact bodyPost_ret (v := .agg #[.int .u64 ((zl x : Nat) : Int), .string (zh x), .bool (zs x), .int .u64 ((lo f : Nat) : Int), .string (hs f)]) (by simp [results, Tryz.results73, go_sem, hB1]) rfl ⟨rfl, hL0.bl⟩

set_option maxHeartbeats 4000000 in
set_option maxRecDepth 100000 in
theorem finv_true (n s m x : Int) (e d a f : Nat) (HS : ∀ w, Calls Tryz.prog 69 #[.agg #[.int .u64 ((zl n : Nat) : Int), .string (zh n), .bool (zs n), .int .u64 ((lo e : Nat) : Int), .string (hs e)]] w fun xe w' => xe = .returned (.int .i64 s) ∧ Below w.heap.size w w') (HD : ∀ w, Calls Tryz.prog 75 #[.agg #[.int .u64 ((zl n : Nat) : Int), .string (zh n), .bool (zs n), .int .u64 ((lo e : Nat) : Int), .string (hs e)]] w fun xe w' => xe = .returned (.agg #[.int .u64 ((lo d : Nat) : Int), .string (hs d)]) ∧ Below w.heap.size w w') (HF : ∀ w, Calls Tryz.prog 43 #[.bool true, .agg #[.int .u64 ((lo d : Nat) : Int), .string (hs d)]] w fun xe w' => xe = .returned (.agg #[.int .u64 ((zl m : Nat) : Int), .string (zh m), .bool (zs m)]) ∧ Below w.heap.size w w') (HA : ∀ w, Calls Tryz.prog 12 #[.agg #[.int .u64 ((zl n : Nat) : Int), .string (zh n), .bool (zs n)]] w fun xe w' => xe = .returned (.agg #[.int .u64 ((lo a : Nat) : Int), .string (hs a)]) ∧ Below w.heap.size w w') (HL : ∀ w, Calls Tryz.prog 40 #[.agg #[.int .u64 ((zl m : Nat) : Int), .string (zh m), .bool (zs m)], .agg #[.int .u64 ((lo a : Nat) : Int), .string (hs a)]] w fun xe w' => xe = .returned (.agg #[.int .u64 ((zl x : Nat) : Int), .string (zh x), .bool (zs x), .int .u64 ((lo f : Nat) : Int), .string (hs f)]) ∧ Below w.heap.size w w') (hsg : decide (s < 0) = true) (w : World) :
    Calls Tryz.prog 89 #[.agg #[.int .u64 ((zl n : Nat) : Int), .string (zh n), .bool (zs n), .int .u64 ((lo e : Nat) : Int), .string (hs e)]] w fun xe w' => xe = .returned (.agg #[.int .u64 ((zl x : Nat) : Int), .string (zh x), .bool (zs x), .int .u64 ((lo f : Nat) : Int), .string (hs f)]) ∧ Below w.heap.size w w' := by
  have hL0 : GL w w [] := GL.start w
  replace HS := Lib.hid HS
  replace HD := Lib.hid HD
  replace HF := Lib.hid HF
  replace HA := Lib.hid HA
  replace HL := Lib.hid HL
  replace hL0 := ((hL0.new rfl [.int .u64 ((zl n : Nat) : Int), .string (zh n), .bool (zs n), .int .u64 ((lo e : Nat) : Int), .string (hs e)] 35).new (K := w.heap.size + 1) (szA _ _) [.int .u64 0, .string ⟨#[]⟩, .bool false, .int .u64 0, .string ⟨#[]⟩] 35)
  generalize hweq : ((w.alloc (.cells #[.int .u64 ((zl n : Nat) : Int), .string (zh n), .bool (zs n), .int .u64 ((lo e : Nat) : Int), .string (hs e)] 35)).alloc (.cells #[.int .u64 0, .string ⟨#[]⟩, .bool false, .int .u64 0, .string ⟨#[]⟩] 35)) = x1 at hL0
  go_enter Tryz.func89, Tryz.ntmps89
  go_upto_region 1 with fail
  clear hweq
  obtain ⟨α, iα, F, hF1, hF2⟩ := cls x1
  have hq0 := cls_box hF1 hL0 _ _ (List.mem_cons_of_mem _ List.mem_cons_self)
  simp only [cellsC, and_true, Nat.zero_add, Nat.reduceAdd] at hq0
  refine region_qs 10 (C := fun w' => ∃ x, w' = F x) (by kernel_rfl) (by kernel_rfl) (cls_drew hF2) ?_
  simp only [List.take_succ_cons, List.take_zero, List.drop_succ_cons, List.drop_zero, List.take_nil, List.drop_nil]
  repeat (go_big_quiet_step (first | fail | (go_at_call 69; with_reducible exact cls_call hF1 hF2 HS.out _) | (go_at_call 75; with_reducible exact cls_call hF1 hF2 HD.out _) | (go_at_call 43; with_reducible exact cls_call hF1 hF2 HF.out _) | (go_at_call 12; with_reducible exact cls_call hF1 hF2 HA.out _) | (go_at_call 40; with_reducible exact cls_call hF1 hF2 HL.out _)))
  refine wpQuiet_nil ?_
  rintro wq ⟨xq, rfl⟩
  replace hL0 := hL0.call (hF1 xq)
  clear  hq0 hF2
  generalize F xq = x2 at hL0 ⊢
  clear hF1 xq iα F α
  have hA := hL0.fc
  simp only [fcG, cellsF, neK, and_true, ne_eq, Nat.zero_add, Nat.reduceAdd] at hA
  have hP := hL0.put 0 (w.heap.size + 1) _ rfl [.int .u64 ((zl x : Nat) : Int), .string (zh x), .bool (zs x), .int .u64 ((lo f : Nat) : Int), .string (hs f)] rfl
  simp only [setAll, List.set_cons_zero, List.set_cons_succ] at hP
  generalize hput1 : (((((x2.setCell ⟨w.heap.size + 1, 0, none⟩ (.int .u64 ((zl x : Nat) : Int))).setCell ⟨w.heap.size + 1, 1, none⟩ (.string (zh x))).setCell ⟨w.heap.size + 1, 2, none⟩ (.bool (zs x))).setCell ⟨w.heap.size + 1, 3, none⟩ (.int .u64 ((lo f : Nat) : Int))).setCell ⟨w.heap.size + 1, 4, none⟩ (.string (hs f))) = x3 at hP
  have hB1 := hP.fc
  simp only [fcG, cellsF, neK, and_true, ne_eq, Nat.zero_add, Nat.reduceAdd] at hB1
  replace hL0 := hP
  go_wp2_with fail
  exact bodyPost_ret (v := .agg #[.int .u64 ((zl x : Nat) : Int), .string (zh x), .bool (zs x), .int .u64 ((lo f : Nat) : Int), .string (hs f)]) (by simp [results, Tryz.results89, go_sem, hB1]) rfl ⟨rfl, hL0.bl⟩

set_option maxHeartbeats 4000000 in
set_option maxRecDepth 100000 in
theorem finv_false (n s m x : Int) (e d a f : Nat) (HS : ∀ w, Calls Tryz.prog 69 #[.agg #[.int .u64 ((zl n : Nat) : Int), .string (zh n), .bool (zs n), .int .u64 ((lo e : Nat) : Int), .string (hs e)]] w fun xe w' => xe = .returned (.int .i64 s) ∧ Below w.heap.size w w') (HD : ∀ w, Calls Tryz.prog 75 #[.agg #[.int .u64 ((zl n : Nat) : Int), .string (zh n), .bool (zs n), .int .u64 ((lo e : Nat) : Int), .string (hs e)]] w fun xe w' => xe = .returned (.agg #[.int .u64 ((lo d : Nat) : Int), .string (hs d)]) ∧ Below w.heap.size w w') (HF : ∀ w, Calls Tryz.prog 43 #[.bool false, .agg #[.int .u64 ((lo d : Nat) : Int), .string (hs d)]] w fun xe w' => xe = .returned (.agg #[.int .u64 ((zl m : Nat) : Int), .string (zh m), .bool (zs m)]) ∧ Below w.heap.size w w') (HA : ∀ w, Calls Tryz.prog 12 #[.agg #[.int .u64 ((zl n : Nat) : Int), .string (zh n), .bool (zs n)]] w fun xe w' => xe = .returned (.agg #[.int .u64 ((lo a : Nat) : Int), .string (hs a)]) ∧ Below w.heap.size w w') (HL : ∀ w, Calls Tryz.prog 40 #[.agg #[.int .u64 ((zl m : Nat) : Int), .string (zh m), .bool (zs m)], .agg #[.int .u64 ((lo a : Nat) : Int), .string (hs a)]] w fun xe w' => xe = .returned (.agg #[.int .u64 ((zl x : Nat) : Int), .string (zh x), .bool (zs x), .int .u64 ((lo f : Nat) : Int), .string (hs f)]) ∧ Below w.heap.size w w') (hsg : decide (s < 0) = false) (w : World) :
    Calls Tryz.prog 89 #[.agg #[.int .u64 ((zl n : Nat) : Int), .string (zh n), .bool (zs n), .int .u64 ((lo e : Nat) : Int), .string (hs e)]] w fun xe w' => xe = .returned (.agg #[.int .u64 ((zl x : Nat) : Int), .string (zh x), .bool (zs x), .int .u64 ((lo f : Nat) : Int), .string (hs f)]) ∧ Below w.heap.size w w' := by
  have hL0 : GL w w [] := GL.start w
  replace HS := Lib.hid HS
  replace HD := Lib.hid HD
  replace HF := Lib.hid HF
  replace HA := Lib.hid HA
  replace HL := Lib.hid HL
  replace hL0 := ((hL0.new rfl [.int .u64 ((zl n : Nat) : Int), .string (zh n), .bool (zs n), .int .u64 ((lo e : Nat) : Int), .string (hs e)] 35).new (K := w.heap.size + 1) (szA _ _) [.int .u64 0, .string ⟨#[]⟩, .bool false, .int .u64 0, .string ⟨#[]⟩] 35)
  generalize hweq : ((w.alloc (.cells #[.int .u64 ((zl n : Nat) : Int), .string (zh n), .bool (zs n), .int .u64 ((lo e : Nat) : Int), .string (hs e)] 35)).alloc (.cells #[.int .u64 0, .string ⟨#[]⟩, .bool false, .int .u64 0, .string ⟨#[]⟩] 35)) = x1 at hL0
  go_enter Tryz.func89, Tryz.ntmps89
  go_upto_region 1 with fail
  clear hweq
  obtain ⟨α, iα, F, hF1, hF2⟩ := cls x1
  have hq0 := cls_box hF1 hL0 _ _ (List.mem_cons_of_mem _ List.mem_cons_self)
  simp only [cellsC, and_true, Nat.zero_add, Nat.reduceAdd] at hq0
  refine region_qs 10 (C := fun w' => ∃ x, w' = F x) (by kernel_rfl) (by kernel_rfl) (cls_drew hF2) ?_
  simp only [List.take_succ_cons, List.take_zero, List.drop_succ_cons, List.drop_zero, List.take_nil, List.drop_nil]
  repeat (go_big_quiet_step (first | fail | (go_at_call 69; with_reducible exact cls_call hF1 hF2 HS.out _) | (go_at_call 75; with_reducible exact cls_call hF1 hF2 HD.out _) | (go_at_call 43; with_reducible exact cls_call hF1 hF2 HF.out _) | (go_at_call 12; with_reducible exact cls_call hF1 hF2 HA.out _) | (go_at_call 40; with_reducible exact cls_call hF1 hF2 HL.out _)))
  refine wpQuiet_nil ?_
  rintro wq ⟨xq, rfl⟩
  replace hL0 := hL0.call (hF1 xq)
  clear  hq0 hF2
  generalize F xq = x2 at hL0 ⊢
  clear hF1 xq iα F α
  have hA := hL0.fc
  simp only [fcG, cellsF, neK, and_true, ne_eq, Nat.zero_add, Nat.reduceAdd] at hA
  have hP := hL0.put 0 (w.heap.size + 1) _ rfl [.int .u64 ((zl x : Nat) : Int), .string (zh x), .bool (zs x), .int .u64 ((lo f : Nat) : Int), .string (hs f)] rfl
  simp only [setAll, List.set_cons_zero, List.set_cons_succ] at hP
  generalize hput1 : (((((x2.setCell ⟨w.heap.size + 1, 0, none⟩ (.int .u64 ((zl x : Nat) : Int))).setCell ⟨w.heap.size + 1, 1, none⟩ (.string (zh x))).setCell ⟨w.heap.size + 1, 2, none⟩ (.bool (zs x))).setCell ⟨w.heap.size + 1, 3, none⟩ (.int .u64 ((lo f : Nat) : Int))).setCell ⟨w.heap.size + 1, 4, none⟩ (.string (hs f))) = x3 at hP
  have hB1 := hP.fc
  simp only [fcG, cellsF, neK, and_true, ne_eq, Nat.zero_add, Nat.reduceAdd] at hB1
  replace hL0 := hP
  go_wp2_with fail
  exact bodyPost_ret (v := .agg #[.int .u64 ((zl x : Nat) : Int), .string (zh x), .bool (zs x), .int .u64 ((lo f : Nat) : Int), .string (hs f)]) (by simp [results, Tryz.results89, go_sem, hB1]) rfl ⟨rfl, hL0.bl⟩

set_option maxHeartbeats 4000000 in
set_option maxRecDepth 100000 in
theorem fmul_w (m n u v x y : Int) (d e p q g h k f : Nat) (HD : ∀ w, Calls Tryz.prog 75 #[.agg #[.int .u64 ((zl m : Nat) : Int), .string (zh m), .bool (zs m), .int .u64 ((lo d : Nat) : Int), .string (hs d)]] w fun xe w' => xe = .returned (.agg #[.int .u64 ((lo p : Nat) : Int), .string (hs p)]) ∧ Below w.heap.size w w') (HE : ∀ w, Calls Tryz.prog 75 #[.agg #[.int .u64 ((zl n : Nat) : Int), .string (zh n), .bool (zs n), .int .u64 ((lo e : Nat) : Int), .string (hs e)]] w fun xe w' => xe = .returned (.agg #[.int .u64 ((lo q : Nat) : Int), .string (hs q)]) ∧ Below w.heap.size w w') (HX : ∀ w, Calls Tryz.prog 93 #[.agg #[.int .u64 ((zl m : Nat) : Int), .string (zh m), .bool (zs m)], .agg #[.int .u64 ((lo q : Nat) : Int), .string (hs q)]] w fun xe w' => xe = .returned (.tuple #[.agg #[.int .u64 ((zl u : Nat) : Int), .string (zh u), .bool (zs u)], .agg #[.int .u64 ((lo g : Nat) : Int), .string (hs g)]]) ∧ Below w.heap.size w w') (HY : ∀ w, Calls Tryz.prog 93 #[.agg #[.int .u64 ((zl n : Nat) : Int), .string (zh n), .bool (zs n)], .agg #[.int .u64 ((lo p : Nat) : Int), .string (hs p)]] w fun xe w' => xe = .returned (.tuple #[.agg #[.int .u64 ((zl v : Nat) : Int), .string (zh v), .bool (zs v)], .agg #[.int .u64 ((lo h : Nat) : Int), .string (hs h)]]) ∧ Below w.heap.size w w') (HM : ∀ w, Calls Tryz.prog 78 #[.agg #[.int .u64 ((zl u : Nat) : Int), .string (zh u), .bool (zs u)], .agg #[.int .u64 ((zl v : Nat) : Int), .string (zh v), .bool (zs v)]] w fun xe w' => xe = .returned (.agg #[.int .u64 ((zl x : Nat) : Int), .string (zh x), .bool (zs x)]) ∧ Below w.heap.size w w') (HP : ∀ w, Calls Tryz.prog 79 #[.agg #[.int .u64 ((lo h : Nat) : Int), .string (hs h)], .agg #[.int .u64 ((lo g : Nat) : Int), .string (hs g)]] w fun xe w' => xe = .returned (.agg #[.int .u64 ((lo k : Nat) : Int), .string (hs k)]) ∧ Below w.heap.size w w') (HL : ∀ w, Calls Tryz.prog 40 #[.agg #[.int .u64 ((zl x : Nat) : Int), .string (zh x), .bool (zs x)], .agg #[.int .u64 ((lo k : Nat) : Int), .string (hs k)]] w fun xe w' => xe = .returned (.agg #[.int .u64 ((zl y : Nat) : Int), .string (zh y), .bool (zs y), .int .u64 ((lo f : Nat) : Int), .string (hs f)]) ∧ Below w.heap.size w w') (w : World) :
    Calls Tryz.prog 32 #[.agg #[.int .u64 ((zl m : Nat) : Int), .string (zh m), .bool (zs m), .int .u64 ((lo d : Nat) : Int), .string (hs d)], .agg #[.int .u64 ((zl n : Nat) : Int), .string (zh n), .bool (zs n), .int .u64 ((lo e : Nat) : Int), .string (hs e)]] w fun xe w' => xe = .returned (.agg #[.int .u64 ((zl y : Nat) : Int), .string (zh y), .bool (zs y), .int .u64 ((lo f : Nat) : Int), .string (hs f)]) ∧ Below w.heap.size w w' := by
  have hL0 : GL w w [] := GL.start w
  replace HD := Lib.hid HD
  replace HE := Lib.hid HE
  replace HX := Lib.hid HX
  replace HY := Lib.hid HY
  replace HM := Lib.hid HM
  replace HP := Lib.hid HP
  replace HL := Lib.hid HL
  replace hL0 := (((hL0.new rfl [.int .u64 ((zl m : Nat) : Int), .string (zh m), .bool (zs m), .int .u64 ((lo d : Nat) : Int), .string (hs d)] 35).new (K := w.heap.size + 1) (szA _ _) [.int .u64 ((zl n : Nat) : Int), .string (zh n), .bool (zs n), .int .u64 ((lo e : Nat) : Int), .string (hs e)] 35).new (K := w.heap.size + 1 + 1) (by simp only [World.size_alloc]) [.int .u64 0, .string ⟨#[]⟩, .bool false, .int .u64 0, .string ⟨#[]⟩] 35)
  generalize hweq : (((w.alloc (.cells #[.int .u64 ((zl m : Nat) : Int), .string (zh m), .bool (zs m), .int .u64 ((lo d : Nat) : Int), .string (hs d)] 35)).alloc (.cells #[.int .u64 ((zl n : Nat) : Int), .string (zh n), .bool (zs n), .int .u64 ((lo e : Nat) : Int), .string (hs e)] 35)).alloc (.cells #[.int .u64 0, .string ⟨#[]⟩, .bool false, .int .u64 0, .string ⟨#[]⟩] 35)) = x1 at hL0
  go_enter Tryz.func32, Tryz.ntmps32
  go_upto_region 1 with fail
  clear hweq
  refine region_gh (by kernel_rfl) (by kernel_rfl) ?_
  refine lex_seg (gl := []) 8 (by kernel_rfl) ?_
  intro α iα F hF1 hF2
  have hq := GL.seg hF1 hL0
  simp only [fcC, cellsC, and_true, Nat.zero_add, Nat.reduceAdd] at hq
  simp only [List.take_succ_cons, List.take_zero, List.drop_succ_cons, List.drop_zero, List.take_nil, List.drop_nil]
  repeat (go_big_quiet_step (first | fail | (go_at_call 75; with_reducible exact seg_call hF2 HE.out _) | (go_at_call 93; with_reducible exact seg_call hF2 HX.out _)))
  refine wpQuiet_nil ?_
  clear hq hF1 hF2 iα F α
  refine lex_new [.int .u64 0, .string ⟨#[]⟩, .bool false] 5 33 33 rfl rfl (of_decide_eq_true (by kernel_rfl)) (by kernel_rfl) rfl new_int ?_
  simp only [Act.put, List.setIfInBounds_toArray, List.set_cons_succ, List.set_cons_zero]
  refine lex_new [.int .u64 0, .string ⟨#[]⟩] 6 31 31 rfl rfl (of_decide_eq_true (by kernel_rfl)) (by kernel_rfl) rfl new_natc ?_
  simp only [Act.put, List.setIfInBounds_toArray, List.set_cons_succ, List.set_cons_zero]
  refine lex_put [.int .u64 ((zl u : Nat) : Int), .string (zh u), .bool (zs u)] [.int .u64 0, .string ⟨#[]⟩, .bool false] 5 33 (.tmp 15) rfl (by kernel_rfl) (by simp [toG, upd]) rfl (fun w k h => put_int _ _ _ _ _ _ w k h) ?_
  simp only [Act.put]
  refine lex_put [.int .u64 ((lo g : Nat) : Int), .string (hs g)] [.int .u64 0, .string ⟨#[]⟩] 6 31 (.tmp 16) rfl (by kernel_rfl) (by simp [toG, upd]) rfl (fun w k h => put_natc _ _ _ _ w k h) ?_
  simp only [Act.put]
  refine lexG_nil ?_
  intro κ x2 hS
  replace hL0 := hL0.ghs hS [(6, [.int .u64 ((lo g : Nat) : Int), .string (hs g)]), (5, [.int .u64 ((zl u : Nat) : Int), .string (zh u), .bool (zs u)])] (by simp) (by intro p hp; simp only [List.mem_cons, List.not_mem_nil, or_false] at hp; rcases hp with rfl | rfl <;> exact ⟨_, by simp only [toG, upd]; rfl⟩)
  simp only [List.map_cons, List.map_nil, List.cons_append, List.nil_append] at hL0
  simp only [over_toG, over_nil, Act.put, List.setIfInBounds_toArray, List.set_cons_succ, List.set_cons_zero]
  clear hS
  generalize κ 6 = k2_6 at *
  generalize κ 5 = k2_5 at *
  go_upto_region 2 with fail
  refine region_gh (by kernel_rfl) (by kernel_rfl) ?_
  refine lex_seg (gl := []) 8 (by kernel_rfl) ?_
  intro α iα F hF1 hF2
  have hq := GL.seg hF1 hL0
  simp only [fcC, cellsC, and_true, Nat.zero_add, Nat.reduceAdd] at hq
  simp only [List.take_succ_cons, List.take_zero, List.drop_succ_cons, List.drop_zero, List.take_nil, List.drop_nil]
  repeat (go_big_quiet_step (first | fail | (go_at_call 75; with_reducible exact seg_call hF2 HD.out _) | (go_at_call 93; with_reducible exact seg_call hF2 HY.out _)))
  refine wpQuiet_nil ?_
  clear hq hF1 hF2 iα F α
  refine lex_new [.int .u64 0, .string ⟨#[]⟩, .bool false] 7 33 33 rfl rfl (of_decide_eq_true (by kernel_rfl)) (by kernel_rfl) rfl new_int ?_
  simp only [Act.put, List.setIfInBounds_toArray, List.set_cons_succ, List.set_cons_zero]
  refine lex_new [.int .u64 0, .string ⟨#[]⟩] 8 31 31 rfl rfl (of_decide_eq_true (by kernel_rfl)) (by kernel_rfl) rfl new_natc ?_
  simp only [Act.put, List.setIfInBounds_toArray, List.set_cons_succ, List.set_cons_zero]
  refine lex_put [.int .u64 ((zl v : Nat) : Int), .string (zh v), .bool (zs v)] [.int .u64 0, .string ⟨#[]⟩, .bool false] 7 33 (.tmp 23) rfl (by kernel_rfl) (by simp [toG, upd]) rfl (fun w k h => put_int _ _ _ _ _ _ w k h) ?_
  simp only [Act.put]
  refine lex_put [.int .u64 ((lo h : Nat) : Int), .string (hs h)] [.int .u64 0, .string ⟨#[]⟩] 8 31 (.tmp 24) rfl (by kernel_rfl) (by simp [toG, upd]) rfl (fun w k h => put_natc _ _ _ _ w k h) ?_
  simp only [Act.put]
  refine lexG_nil ?_
  intro κ x3 hS
  replace hL0 := hL0.ghs hS [(8, [.int .u64 ((lo h : Nat) : Int), .string (hs h)]), (7, [.int .u64 ((zl v : Nat) : Int), .string (zh v), .bool (zs v)])] (by simp) (by intro p hp; simp only [List.mem_cons, List.not_mem_nil, or_false] at hp; rcases hp with rfl | rfl <;> exact ⟨_, by simp only [toG, upd]; rfl⟩)
  simp only [List.map_cons, List.map_nil, List.cons_append, List.nil_append] at hL0
  simp only [over_toG, over_nil, Act.put, List.setIfInBounds_toArray, List.set_cons_succ, List.set_cons_zero]
  clear hS
  generalize κ 8 = k3_8 at *
  generalize κ 7 = k3_7 at *
  go_upto_region 3 with fail
  obtain ⟨α, iα, F, hF1, hF2⟩ := cls x3
  have hq0 := cls_box hF1 hL0 _ _ List.mem_cons_self
  simp only [cellsC, and_true, Nat.zero_add, Nat.reduceAdd] at hq0
  have hq1 := cls_box hF1 hL0 _ _ (List.mem_cons_of_mem _ List.mem_cons_self)
  simp only [cellsC, and_true, Nat.zero_add, Nat.reduceAdd] at hq1
  have hq2 := cls_box hF1 hL0 _ _ (List.mem_cons_of_mem _ (List.mem_cons_of_mem _ List.mem_cons_self))
  simp only [cellsC, and_true, Nat.zero_add, Nat.reduceAdd] at hq2
  have hq3 := cls_box hF1 hL0 _ _ (List.mem_cons_of_mem _ (List.mem_cons_of_mem _ (List.mem_cons_of_mem _ List.mem_cons_self)))
  simp only [cellsC, and_true, Nat.zero_add, Nat.reduceAdd] at hq3
  refine region_qs 7 (C := fun w' => ∃ x, w' = F x) (by kernel_rfl) (by kernel_rfl) (cls_drew hF2) ?_
  simp only [List.take_succ_cons, List.take_zero, List.drop_succ_cons, List.drop_zero, List.take_nil, List.drop_nil]
  repeat (go_big_quiet_step (first | fail | (go_at_call 78; with_reducible exact cls_call hF1 hF2 HM.out _) | (go_at_call 79; with_reducible exact cls_call hF1 hF2 HP.out _) | (go_at_call 40; with_reducible exact cls_call hF1 hF2 HL.out _)))
  refine wpQuiet_nil ?_
  rintro wq ⟨xq, rfl⟩
  replace hL0 := hL0.call (hF1 xq)
  clear  hq0 hq1 hq2 hq3 hF2
  generalize F xq = x4 at hL0 ⊢
  clear hF1 xq iα F α
  have hA := hL0.fc
  simp only [fcG, cellsF, neK, and_true, ne_eq, Nat.zero_add, Nat.reduceAdd] at hA
  have hP := hL0.put 4 (w.heap.size + 1 + 1) _ rfl [.int .u64 ((zl y : Nat) : Int), .string (zh y), .bool (zs y), .int .u64 ((lo f : Nat) : Int), .string (hs f)] rfl
  simp only [setAll, List.set_cons_zero, List.set_cons_succ] at hP
  generalize hput1 : (((((x4.setCell ⟨w.heap.size + 1 + 1, 0, none⟩ (.int .u64 ((zl y : Nat) : Int))).setCell ⟨w.heap.size + 1 + 1, 1, none⟩ (.string (zh y))).setCell ⟨w.heap.size + 1 + 1, 2, none⟩ (.bool (zs y))).setCell ⟨w.heap.size + 1 + 1, 3, none⟩ (.int .u64 ((lo f : Nat) : Int))).setCell ⟨w.heap.size + 1 + 1, 4, none⟩ (.string (hs f))) = x5 at hP
  have hB1 := hP.fc
  simp only [fcG, cellsF, neK, and_true, ne_eq, Nat.zero_add, Nat.reduceAdd] at hB1
  replace hL0 := hP
  go_wp2_with fail
  exact bodyPost_ret (v := .agg #[.int .u64 ((zl y : Nat) : Int), .string (zh y), .bool (zs y), .int .u64 ((lo f : Nat) : Int), .string (hs f)]) (by simp [results, Tryz.results32, go_sem, hB1]) rfl ⟨rfl, hL0.bl⟩

set_option maxHeartbeats 4000000 in
set_option maxRecDepth 100000 in
theorem fdiv_zero (m : Int) (d : Nat) (HI : ∀ w, Calls Tryz.prog 28 #[.int .i64 0] w fun xe w' => xe = .returned (.agg #[.int .u64 ((zl 0 : Nat) : Int), .string (zh 0), .bool (zs 0), .int .u64 ((lo 0 : Nat) : Int), .string (hs 0)]) ∧ Below w.heap.size w w') (w : World) :
    Calls Tryz.prog 27 #[.agg #[.int .u64 ((zl m : Nat) : Int), .string (zh m), .bool (zs m), .int .u64 ((lo d : Nat) : Int), .string (hs d)], .agg #[.int .u64 ((zl 0 : Nat) : Int), .string (zh 0), .bool (zs 0), .int .u64 ((lo 0 : Nat) : Int), .string (hs 0)]] w fun xe w' => xe = .returned (.tuple #[.agg #[.int .u64 0, .string ⟨#[]⟩, .bool false, .int .u64 0, .string ⟨#[]⟩], .int .i64 5]) ∧ Below w.heap.size w w' := by
  have hL0 : GL w w [] := GL.start w
  replace HI := Lib.hid HI
  replace hL0 := (((hL0.new rfl [.int .u64 ((zl m : Nat) : Int), .string (zh m), .bool (zs m), .int .u64 ((lo d : Nat) : Int), .string (hs d)] 35).new (K := w.heap.size + 1) (szA _ _) [.int .u64 ((zl 0 : Nat) : Int), .string (zh 0), .bool (zs 0), .int .u64 ((lo 0 : Nat) : Int), .string (hs 0)] 35).new (K := w.heap.size + 1 + 1) (by simp only [World.size_alloc]) [.int .u64 0, .string ⟨#[]⟩, .bool false, .int .u64 0, .string ⟨#[]⟩] 35)
  generalize hweq : (((w.alloc (.cells #[.int .u64 ((zl m : Nat) : Int), .string (zh m), .bool (zs m), .int .u64 ((lo d : Nat) : Int), .string (hs d)] 35)).alloc (.cells #[.int .u64 ((zl 0 : Nat) : Int), .string (zh 0), .bool (zs 0), .int .u64 ((lo 0 : Nat) : Int), .string (hs 0)] 35)).alloc (.cells #[.int .u64 0, .string ⟨#[]⟩, .bool false, .int .u64 0, .string ⟨#[]⟩] 35)) = x1 at hL0
  go_enter Tryz.func27, Tryz.ntmps27
  go_upto_region 1 with fail
  clear hweq
  obtain ⟨α, iα, F, hF1, hF2⟩ := cls x1
  have hq0 := cls_box hF1 hL0 _ _ (List.mem_cons_of_mem _ List.mem_cons_self)
  simp only [cellsC, and_true, Nat.zero_add, Nat.reduceAdd] at hq0
  refine region_qs 3 (C := fun w' => ∃ x, w' = F x) (by kernel_rfl) (by kernel_rfl) (cls_drew hF2) ?_
  simp only [List.take_succ_cons, List.take_zero, List.drop_succ_cons, List.drop_zero, List.take_nil, List.drop_nil]
  repeat (go_big_quiet_step (first | fail | (go_at_call 28; with_reducible exact cls_call hF1 hF2 HI.out _)))
  refine wpQuiet_nil ?_
  rintro wq ⟨xq, rfl⟩
  replace hL0 := hL0.call (hF1 xq)
  clear  hq0 hF2
  generalize F xq = x2 at hL0 ⊢
  clear hF1 xq iα F α
  have hA := hL0.fc
  simp only [fcG, cellsF, neK, and_true, ne_eq, Nat.zero_add, Nat.reduceAdd] at hA
  have hP := hL0.put 0 (w.heap.size + 1 + 1) _ rfl [.int .u64 0, .string ⟨#[]⟩, .bool false, .int .u64 0, .string ⟨#[]⟩] rfl
  simp only [setAll, List.set_cons_zero, List.set_cons_succ] at hP
  generalize hput1 : (((((x2.setCell ⟨w.heap.size + 1 + 1, 0, none⟩ (.int .u64 0)).setCell ⟨w.heap.size + 1 + 1, 1, none⟩ (.string ⟨#[]⟩)).setCell ⟨w.heap.size + 1 + 1, 2, none⟩ (.bool false)).setCell ⟨w.heap.size + 1 + 1, 3, none⟩ (.int .u64 0)).setCell ⟨w.heap.size + 1 + 1, 4, none⟩ (.string ⟨#[]⟩)) = x3 at hP
  have hB1 := hP.fc
  simp only [fcG, cellsF, neK, and_true, ne_eq, Nat.zero_add, Nat.reduceAdd] at hB1
  replace hL0 := hP
  go_wp2_with fail
  exact bodyPost_ret (v := .tuple #[.agg #[.int .u64 0, .string ⟨#[]⟩, .bool false, .int .u64 0, .string ⟨#[]⟩], .int .i64 5]) (by simp [results, Tryz.results27, go_sem, hB1]) rfl ⟨rfl, hL0.bl⟩

set_option maxHeartbeats 4000000 in
set_option maxRecDepth 100000 in
theorem fdiv_w (m n x y : Int) (d e f g : Nat) (HI : ∀ w, Calls Tryz.prog 28 #[.int .i64 0] w fun xe w' => xe = .returned (.agg #[.int .u64 ((zl 0 : Nat) : Int), .string (zh 0), .bool (zs 0), .int .u64 ((lo 0 : Nat) : Int), .string (hs 0)]) ∧ Below w.heap.size w w') (HV : ∀ w, Calls Tryz.prog 89 #[.agg #[.int .u64 ((zl n : Nat) : Int), .string (zh n), .bool (zs n), .int .u64 ((lo e : Nat) : Int), .string (hs e)]] w fun xe w' => xe = .returned (.agg #[.int .u64 ((zl x : Nat) : Int), .string (zh x), .bool (zs x), .int .u64 ((lo f : Nat) : Int), .string (hs f)]) ∧ Below w.heap.size w w') (HM : ∀ w, Calls Tryz.prog 32 #[.agg #[.int .u64 ((zl m : Nat) : Int), .string (zh m), .bool (zs m), .int .u64 ((lo d : Nat) : Int), .string (hs d)], .agg #[.int .u64 ((zl x : Nat) : Int), .string (zh x), .bool (zs x), .int .u64 ((lo f : Nat) : Int), .string (hs f)]] w fun xe w' => xe = .returned (.agg #[.int .u64 ((zl y : Nat) : Int), .string (zh y), .bool (zs y), .int .u64 ((lo g : Nat) : Int), .string (hs g)]) ∧ Below w.heap.size w w') (hn : n ≠ 0) (w : World) :
    Calls Tryz.prog 27 #[.agg #[.int .u64 ((zl m : Nat) : Int), .string (zh m), .bool (zs m), .int .u64 ((lo d : Nat) : Int), .string (hs d)], .agg #[.int .u64 ((zl n : Nat) : Int), .string (zh n), .bool (zs n), .int .u64 ((lo e : Nat) : Int), .string (hs e)]] w fun xe w' => xe = .returned (.tuple #[.agg #[.int .u64 ((zl y : Nat) : Int), .string (zh y), .bool (zs y), .int .u64 ((lo g : Nat) : Int), .string (hs g)], .int .i64 0]) ∧ Below w.heap.size w w' := by
  have hL0 : GL w w [] := GL.start w
  replace HI := Lib.hid HI
  replace HV := Lib.hid HV
  replace HM := Lib.hid HM
  have hz := ne_int hn
  clear hn
  rcases hz with e0 | ⟨e0, e1⟩ | ⟨e0, e1, e2⟩
  all_goals (
    replace hL0 := (((hL0.new rfl [.int .u64 ((zl m : Nat) : Int), .string (zh m), .bool (zs m), .int .u64 ((lo d : Nat) : Int), .string (hs d)] 35).new (K := w.heap.size + 1) (szA _ _) [.int .u64 ((zl n : Nat) : Int), .string (zh n), .bool (zs n), .int .u64 ((lo e : Nat) : Int), .string (hs e)] 35).new (K := w.heap.size + 1 + 1) (by simp only [World.size_alloc]) [.int .u64 0, .string ⟨#[]⟩, .bool false, .int .u64 0, .string ⟨#[]⟩] 35)
    generalize hweq : (((w.alloc (.cells #[.int .u64 ((zl m : Nat) : Int), .string (zh m), .bool (zs m), .int .u64 ((lo d : Nat) : Int), .string (hs d)] 35)).alloc (.cells #[.int .u64 ((zl n : Nat) : Int), .string (zh n), .bool (zs n), .int .u64 ((lo e : Nat) : Int), .string (hs e)] 35)).alloc (.cells #[.int .u64 0, .string ⟨#[]⟩, .bool false, .int .u64 0, .string ⟨#[]⟩] 35)) = x1 at hL0
    go_enter Tryz.func27, Tryz.ntmps27
    go_upto_region 1 with fail
    clear hweq
    obtain ⟨α, iα, F, hF1, hF2⟩ := cls x1
    have hq0 := cls_box hF1 hL0 _ _ (List.mem_cons_of_mem _ List.mem_cons_self)
    simp only [cellsC, and_true, Nat.zero_add, Nat.reduceAdd] at hq0
    refine region_qs 3 (C := fun w' => ∃ x, w' = F x) (by kernel_rfl) (by kernel_rfl) (cls_drew hF2) ?_
    simp only [List.take_succ_cons, List.take_zero, List.drop_succ_cons, List.drop_zero, List.take_nil, List.drop_nil]
    repeat (go_big_quiet_step (first | fail | (go_at_call 28; with_reducible exact cls_call hF1 hF2 HI.out _)))
    refine wpQuiet_nil ?_
    rintro wq ⟨xq, rfl⟩
    replace hL0 := hL0.call (hF1 xq)
    clear  hq0 hF2
    generalize F xq = x2 at hL0 ⊢
    clear hF1 xq iα F α
    go_upto_region 3 with fail
    obtain ⟨α, iα, F, hF1, hF2⟩ := cls x2
    have hq0 := cls_box hF1 hL0 _ _ (List.mem_cons_of_mem _ List.mem_cons_self)
    simp only [cellsC, and_true, Nat.zero_add, Nat.reduceAdd] at hq0
    have hq1 := cls_box hF1 hL0 _ _ (List.mem_cons_of_mem _ (List.mem_cons_of_mem _ List.mem_cons_self))
    simp only [cellsC, and_true, Nat.zero_add, Nat.reduceAdd] at hq1
    refine region_qs 4 (C := fun w' => ∃ x, w' = F x) (by kernel_rfl) (by kernel_rfl) (cls_drew hF2) ?_
    simp only [List.take_succ_cons, List.take_zero, List.drop_succ_cons, List.drop_zero, List.take_nil, List.drop_nil]
    repeat (go_big_quiet_step (first | fail | (go_at_call 89; with_reducible exact cls_call hF1 hF2 HV.out _) | (go_at_call 32; with_reducible exact cls_call hF1 hF2 HM.out _)))
    refine wpQuiet_nil ?_
    rintro wq ⟨xq, rfl⟩
    replace hL0 := hL0.call (hF1 xq)
    clear  hq0 hq1 hF2
    generalize F xq = x3 at hL0 ⊢
    clear hF1 xq iα F α
    have hA := hL0.fc
    simp only [fcG, cellsF, neK, and_true, ne_eq, Nat.zero_add, Nat.reduceAdd] at hA
    have hP := hL0.put 0 (w.heap.size + 1 + 1) _ rfl [.int .u64 ((zl y : Nat) : Int), .string (zh y), .bool (zs y), .int .u64 ((lo g : Nat) : Int), .string (hs g)] rfl
    simp only [setAll, List.set_cons_zero, List.set_cons_succ] at hP
    generalize hput1 : (((((x3.setCell ⟨w.heap.size + 1 + 1, 0, none⟩ (.int .u64 ((zl y : Nat) : Int))).setCell ⟨w.heap.size + 1 + 1, 1, none⟩ (.string (zh y))).setCell ⟨w.heap.size + 1 + 1, 2, none⟩ (.bool (zs y))).setCell ⟨w.heap.size + 1 + 1, 3, none⟩ (.int .u64 ((lo g : Nat) : Int))).setCell ⟨w.heap.size + 1 + 1, 4, none⟩ (.string (hs g))) = x4 at hP
    have hB1 := hP.fc
    simp only [fcG, cellsF, neK, and_true, ne_eq, Nat.zero_add, Nat.reduceAdd] at hB1
    replace hL0 := hP
    go_wp2_with fail
    exact bodyPost_ret (v := .tuple #[.agg #[.int .u64 ((zl y : Nat) : Int), .string (zh y), .bool (zs y), .int .u64 ((lo g : Nat) : Int), .string (hs g)], .int .i64 0]) (by simp [results, Tryz.results27, go_sem, hB1]) rfl ⟨rfl, hL0.bl⟩)

set_option maxHeartbeats 4000000 in
set_option maxRecDepth 100000 in
theorem fcombine_add (m n x y s u z : Int) (d e p0 q0 g p q r t v f : Nat) (HD : ∀ w, Calls Tryz.prog 75 #[.agg #[.int .u64 ((zl m : Nat) : Int), .string (zh m), .bool (zs m), .int .u64 ((lo d : Nat) : Int), .string (hs d)]] w fun xe w' => xe = .returned (.agg #[.int .u64 ((lo p0 : Nat) : Int), .string (hs p0)]) ∧ Below w.heap.size w w') (HE : ∀ w, Calls Tryz.prog 75 #[.agg #[.int .u64 ((zl n : Nat) : Int), .string (zh n), .bool (zs n), .int .u64 ((lo e : Nat) : Int), .string (hs e)]] w fun xe w' => xe = .returned (.agg #[.int .u64 ((lo q0 : Nat) : Int), .string (hs q0)]) ∧ Below w.heap.size w w') (HG : ∀ w, Calls Tryz.prog 76 #[.agg #[.int .u64 ((lo p0 : Nat) : Int), .string (hs p0)], .agg #[.int .u64 ((lo q0 : Nat) : Int), .string (hs q0)]] w fun xe w' => xe = .returned (.agg #[.int .u64 ((lo g : Nat) : Int), .string (hs g)]) ∧ Below w.heap.size w w') (HP : ∀ w, Calls Tryz.prog 142 #[.agg #[.int .u64 ((lo p0 : Nat) : Int), .string (hs p0)], .agg #[.int .u64 ((lo g : Nat) : Int), .string (hs g)]] w fun xe w' => xe = .returned (.agg #[.int .u64 ((lo p : Nat) : Int), .string (hs p)]) ∧ Below w.heap.size w w') (HQ : ∀ w, Calls Tryz.prog 142 #[.agg #[.int .u64 ((lo q0 : Nat) : Int), .string (hs q0)], .agg #[.int .u64 ((lo g : Nat) : Int), .string (hs g)]] w fun xe w' => xe = .returned (.agg #[.int .u64 ((lo q : Nat) : Int), .string (hs q)]) ∧ Below w.heap.size w w') (HS : ∀ w, Calls Tryz.prog 124 #[.agg #[.int .u64 ((zl m : Nat) : Int), .string (zh m), .bool (zs m)], .agg #[.int .u64 ((lo q : Nat) : Int), .string (hs q)]] w fun xe w' => xe = .returned (.agg #[.int .u64 ((zl x : Nat) : Int), .string (zh x), .bool (zs x)]) ∧ Below w.heap.size w w') (HT : ∀ w, Calls Tryz.prog 124 #[.agg #[.int .u64 ((zl n : Nat) : Int), .string (zh n), .bool (zs n)], .agg #[.int .u64 ((lo p : Nat) : Int), .string (hs p)]] w fun xe w' => xe = .returned (.agg #[.int .u64 ((zl y : Nat) : Int), .string (zh y), .bool (zs y)]) ∧ Below w.heap.size w w') (HB : ∀ w, Calls Tryz.prog 91 #[.agg #[.int .u64 ((zl x : Nat) : Int), .string (zh x), .bool (zs x)], .agg #[.int .u64 ((zl y : Nat) : Int), .string (zh y), .bool (zs y)]] w fun xe w' => xe = .returned (.agg #[.int .u64 ((zl s : Nat) : Int), .string (zh s), .bool (zs s)]) ∧ Below w.heap.size w w') (HC : ∀ w, Calls Tryz.prog 93 #[.agg #[.int .u64 ((zl s : Nat) : Int), .string (zh s), .bool (zs s)], .agg #[.int .u64 ((lo g : Nat) : Int), .string (hs g)]] w fun xe w' => xe = .returned (.tuple #[.agg #[.int .u64 ((zl u : Nat) : Int), .string (zh u), .bool (zs u)], .agg #[.int .u64 ((lo r : Nat) : Int), .string (hs r)]]) ∧ Below w.heap.size w w') (HU : ∀ w, Calls Tryz.prog 79 #[.agg #[.int .u64 ((lo p : Nat) : Int), .string (hs p)], .agg #[.int .u64 ((lo q : Nat) : Int), .string (hs q)]] w fun xe w' => xe = .returned (.agg #[.int .u64 ((lo t : Nat) : Int), .string (hs t)]) ∧ Below w.heap.size w w') (HV : ∀ w, Calls Tryz.prog 79 #[.agg #[.int .u64 ((lo t : Nat) : Int), .string (hs t)], .agg #[.int .u64 ((lo r : Nat) : Int), .string (hs r)]] w fun xe w' => xe = .returned (.agg #[.int .u64 ((lo v : Nat) : Int), .string (hs v)]) ∧ Below w.heap.size w w') (HL : ∀ w, Calls Tryz.prog 40 #[.agg #[.int .u64 ((zl u : Nat) : Int), .string (zh u), .bool (zs u)], .agg #[.int .u64 ((lo v : Nat) : Int), .string (hs v)]] w fun xe w' => xe = .returned (.agg #[.int .u64 ((zl z : Nat) : Int), .string (zh z), .bool (zs z), .int .u64 ((lo f : Nat) : Int), .string (hs f)]) ∧ Below w.heap.size w w') (w : World) :
    Calls Tryz.prog 90 #[.agg #[.int .u64 ((zl m : Nat) : Int), .string (zh m), .bool (zs m), .int .u64 ((lo d : Nat) : Int), .string (hs d)], .agg #[.int .u64 ((zl n : Nat) : Int), .string (zh n), .bool (zs n), .int .u64 ((lo e : Nat) : Int), .string (hs e)], .func (.func 91) #[] #[]] w fun xe w' => xe = .returned (.agg #[.int .u64 ((zl z : Nat) : Int), .string (zh z), .bool (zs z), .int .u64 ((lo f : Nat) : Int), .string (hs f)]) ∧ Below w.heap.size w w' := by
  have hL0 : GL w w [] := GL.start w
  replace HD := Lib.hid HD
  replace HE := Lib.hid HE
  replace HG := Lib.hid HG
  replace HP := Lib.hid HP
  replace HQ := Lib.hid HQ
  replace HS := Lib.hid HS
  replace HT := Lib.hid HT
  replace HB := Lib.hid HB
  replace HC := Lib.hid HC
  replace HU := Lib.hid HU
  replace HV := Lib.hid HV
  replace HL := Lib.hid HL
  replace hL0 := (((hL0.new rfl [.int .u64 ((zl m : Nat) : Int), .string (zh m), .bool (zs m), .int .u64 ((lo d : Nat) : Int), .string (hs d)] 35).new (K := w.heap.size + 1) (szA _ _) [.int .u64 ((zl n : Nat) : Int), .string (zh n), .bool (zs n), .int .u64 ((lo e : Nat) : Int), .string (hs e)] 35).new (K := w.heap.size + 1 + 1) (by simp only [World.size_alloc]) [.int .u64 0, .string ⟨#[]⟩, .bool false, .int .u64 0, .string ⟨#[]⟩] 35)
  generalize hweq : (((w.alloc (.cells #[.int .u64 ((zl m : Nat) : Int), .string (zh m), .bool (zs m), .int .u64 ((lo d : Nat) : Int), .string (hs d)] 35)).alloc (.cells #[.int .u64 ((zl n : Nat) : Int), .string (zh n), .bool (zs n), .int .u64 ((lo e : Nat) : Int), .string (hs e)] 35)).alloc (.cells #[.int .u64 0, .string ⟨#[]⟩, .bool false, .int .u64 0, .string ⟨#[]⟩] 35)) = x1 at hL0
  go_enter Tryz.func90, Tryz.ntmps90
  go_upto_region 1 with fail
  clear hweq
  refine region_gh (by kernel_rfl) (by kernel_rfl) ?_
  refine lex_seg (gl := []) 5 (by kernel_rfl) ?_
  intro α iα F hF1 hF2
  have hq := GL.seg hF1 hL0
  simp only [fcC, cellsC, and_true, Nat.zero_add, Nat.reduceAdd] at hq
  simp only [List.take_succ_cons, List.take_zero, List.drop_succ_cons, List.drop_zero, List.take_nil, List.drop_nil]
  repeat (go_big_quiet_step (first | fail | (go_at_call 75; with_reducible exact seg_call hF2 HD.out _) | (go_at_call 75; with_reducible exact seg_call hF2 HE.out _) | (go_at_call 76; with_reducible exact seg_call hF2 HG.out _)))
  refine wpQuiet_nil ?_
  clear hq hF1 hF2 iα F α
  refine lex_new [.int .u64 0, .string ⟨#[]⟩] 7 31 31 rfl rfl (of_decide_eq_true (by kernel_rfl)) (by kernel_rfl) rfl new_natc ?_
  simp only [Act.put, List.setIfInBounds_toArray, List.set_cons_succ, List.set_cons_zero]
  refine lex_put [.int .u64 ((lo g : Nat) : Int), .string (hs g)] [.int .u64 0, .string ⟨#[]⟩] 7 31 (.tmp 16) rfl (by kernel_rfl) (by simp [toG, upd]) rfl (fun w k h => put_natc _ _ _ _ w k h) ?_
  simp only [Act.put]
  refine lexG_nil ?_
  intro κ x2 hS
  replace hL0 := hL0.ghs hS [(7, [.int .u64 ((lo g : Nat) : Int), .string (hs g)])] (by simp) (by intro p hp; simp only [List.mem_cons, List.not_mem_nil, or_false] at hp; rcases hp with rfl <;> exact ⟨_, by simp only [toG, upd]; rfl⟩)
  simp only [List.map_cons, List.map_nil, List.cons_append, List.nil_append] at hL0
  simp only [over_toG, over_nil, Act.put, List.setIfInBounds_toArray, List.set_cons_succ, List.set_cons_zero]
  clear hS
  generalize κ 7 = k2_7 at *
  go_upto_region 2 with fail
  refine region_gh (by kernel_rfl) (by kernel_rfl) ?_
  refine lex_seg (gl := []) 8 (by kernel_rfl) ?_
  intro α iα F hF1 hF2
  have hq := GL.seg hF1 hL0
  simp only [fcC, cellsC, and_true, Nat.zero_add, Nat.reduceAdd] at hq
  simp only [List.take_succ_cons, List.take_zero, List.drop_succ_cons, List.drop_zero, List.take_nil, List.drop_nil]
  repeat (go_big_quiet_step (first | fail | (go_at_call 75; with_reducible exact seg_call hF2 HD.out _) | (go_at_call 142; with_reducible exact seg_call hF2 HP.out _) | (go_at_call 75; with_reducible exact seg_call hF2 HE.out _) | (go_at_call 142; with_reducible exact seg_call hF2 HQ.out _)))
  refine wpQuiet_nil ?_
  clear hq hF1 hF2 iα F α
  refine lex_new [.int .u64 0, .string ⟨#[]⟩] 8 31 31 rfl rfl (of_decide_eq_true (by kernel_rfl)) (by kernel_rfl) rfl new_natc ?_
  simp only [Act.put, List.setIfInBounds_toArray, List.set_cons_succ, List.set_cons_zero]
  refine lex_new [.int .u64 0, .string ⟨#[]⟩] 9 31 31 rfl rfl (of_decide_eq_true (by kernel_rfl)) (by kernel_rfl) rfl new_natc ?_
  simp only [Act.put, List.setIfInBounds_toArray, List.set_cons_succ, List.set_cons_zero]
  refine lex_put [.int .u64 ((lo p : Nat) : Int), .string (hs p)] [.int .u64 0, .string ⟨#[]⟩] 8 31 (.tmp 20) rfl (by kernel_rfl) (by simp [toG, upd]) rfl (fun w k h => put_natc _ _ _ _ w k h) ?_
  simp only [Act.put]
  refine lex_put [.int .u64 ((lo q : Nat) : Int), .string (hs q)] [.int .u64 0, .string ⟨#[]⟩] 9 31 (.tmp 24) rfl (by kernel_rfl) (by simp [toG, upd]) rfl (fun w k h => put_natc _ _ _ _ w k h) ?_
  simp only [Act.put]
  refine lexG_nil ?_
  intro κ x3 hS
  replace hL0 := hL0.ghs hS [(9, [.int .u64 ((lo q : Nat) : Int), .string (hs q)]), (8, [.int .u64 ((lo p : Nat) : Int), .string (hs p)])] (by simp) (by intro p hp; simp only [List.mem_cons, List.not_mem_nil, or_false] at hp; rcases hp with rfl | rfl <;> exact ⟨_, by simp only [toG, upd]; rfl⟩)
  simp only [List.map_cons, List.map_nil, List.cons_append, List.nil_append] at hL0
  simp only [over_toG, over_nil, Act.put, List.setIfInBounds_toArray, List.set_cons_succ, List.set_cons_zero]
  clear hS
  generalize κ 9 = k3_9 at *
  generalize κ 8 = k3_8 at *
  go_upto_region 3 with fail
  refine region_gh (by kernel_rfl) (by kernel_rfl) ?_
  refine lex_seg (gl := []) 15 (by kernel_rfl) ?_
  intro α iα F hF1 hF2
  have hq := GL.seg hF1 hL0
  simp only [fcC, cellsC, and_true, Nat.zero_add, Nat.reduceAdd] at hq
  simp only [List.take_succ_cons, List.take_zero, List.drop_succ_cons, List.drop_zero, List.take_nil, List.drop_nil]
  repeat (go_big_quiet_step (first | fail | (go_at_call 124; with_reducible exact seg_call hF2 HS.out _) | (go_at_call 124; with_reducible exact seg_call hF2 HT.out _) | (go_at_call 91; with_reducible exact seg_call hF2 HB.out _) | (go_at_call 93; with_reducible exact seg_call hF2 HC.out _)))
  refine wpQuiet_nil ?_
  clear hq hF1 hF2 iα F α
  refine lex_new [.int .u64 0, .string ⟨#[]⟩, .bool false] 10 33 33 rfl rfl (of_decide_eq_true (by kernel_rfl)) (by kernel_rfl) rfl new_int ?_
  simp only [Act.put, List.setIfInBounds_toArray, List.set_cons_succ, List.set_cons_zero]
  refine lex_new [.int .u64 0, .string ⟨#[]⟩] 11 31 31 rfl rfl (of_decide_eq_true (by kernel_rfl)) (by kernel_rfl) rfl new_natc ?_
  simp only [Act.put, List.setIfInBounds_toArray, List.set_cons_succ, List.set_cons_zero]
  refine lex_put [.int .u64 ((zl u : Nat) : Int), .string (zh u), .bool (zs u)] [.int .u64 0, .string ⟨#[]⟩, .bool false] 10 33 (.tmp 38) rfl (by kernel_rfl) (by simp [toG, upd]) rfl (fun w k h => put_int _ _ _ _ _ _ w k h) ?_
  simp only [Act.put]
  refine lex_put [.int .u64 ((lo r : Nat) : Int), .string (hs r)] [.int .u64 0, .string ⟨#[]⟩] 11 31 (.tmp 39) rfl (by kernel_rfl) (by simp [toG, upd]) rfl (fun w k h => put_natc _ _ _ _ w k h) ?_
  simp only [Act.put]
  refine lexG_nil ?_
  intro κ x4 hS
  replace hL0 := hL0.ghs hS [(11, [.int .u64 ((lo r : Nat) : Int), .string (hs r)]), (10, [.int .u64 ((zl u : Nat) : Int), .string (zh u), .bool (zs u)])] (by simp) (by intro p hp; simp only [List.mem_cons, List.not_mem_nil, or_false] at hp; rcases hp with rfl | rfl <;> exact ⟨_, by simp only [toG, upd]; rfl⟩)
  simp only [List.map_cons, List.map_nil, List.cons_append, List.nil_append] at hL0
  simp only [over_toG, over_nil, Act.put, List.setIfInBounds_toArray, List.set_cons_succ, List.set_cons_zero]
  clear hS
  generalize κ 11 = k4_11 at *
  generalize κ 10 = k4_10 at *
  go_upto_region 4 with fail
  obtain ⟨α, iα, F, hF1, hF2⟩ := cls x4
  have hq0 := cls_box hF1 hL0 _ _ List.mem_cons_self
  simp only [cellsC, and_true, Nat.zero_add, Nat.reduceAdd] at hq0
  have hq1 := cls_box hF1 hL0 _ _ (List.mem_cons_of_mem _ List.mem_cons_self)
  simp only [cellsC, and_true, Nat.zero_add, Nat.reduceAdd] at hq1
  have hq2 := cls_box hF1 hL0 _ _ (List.mem_cons_of_mem _ (List.mem_cons_of_mem _ List.mem_cons_self))
  simp only [cellsC, and_true, Nat.zero_add, Nat.reduceAdd] at hq2
  have hq3 := cls_box hF1 hL0 _ _ (List.mem_cons_of_mem _ (List.mem_cons_of_mem _ (List.mem_cons_of_mem _ List.mem_cons_self)))
  simp only [cellsC, and_true, Nat.zero_add, Nat.reduceAdd] at hq3
  refine region_qs 7 (C := fun w' => ∃ x, w' = F x) (by kernel_rfl) (by kernel_rfl) (cls_drew hF2) ?_
  simp only [List.take_succ_cons, List.take_zero, List.drop_succ_cons, List.drop_zero, List.take_nil, List.drop_nil]
  repeat (go_big_quiet_step (first | fail | (go_at_call 79; with_reducible exact cls_call hF1 hF2 HU.out _) | (go_at_call 79; with_reducible exact cls_call hF1 hF2 HV.out _) | (go_at_call 40; with_reducible exact cls_call hF1 hF2 HL.out _)))
  refine wpQuiet_nil ?_
  rintro wq ⟨xq, rfl⟩
  replace hL0 := hL0.call (hF1 xq)
  clear  hq0 hq1 hq2 hq3 hF2
  generalize F xq = x5 at hL0 ⊢
  clear hF1 xq iα F α
  have hA := hL0.fc
  simp only [fcG, cellsF, neK, and_true, ne_eq, Nat.zero_add, Nat.reduceAdd] at hA
  have hP := hL0.put 5 (w.heap.size + 1 + 1) _ rfl [.int .u64 ((zl z : Nat) : Int), .string (zh z), .bool (zs z), .int .u64 ((lo f : Nat) : Int), .string (hs f)] rfl
  simp only [setAll, List.set_cons_zero, List.set_cons_succ] at hP
  generalize hput1 : (((((x5.setCell ⟨w.heap.size + 1 + 1, 0, none⟩ (.int .u64 ((zl z : Nat) : Int))).setCell ⟨w.heap.size + 1 + 1, 1, none⟩ (.string (zh z))).setCell ⟨w.heap.size + 1 + 1, 2, none⟩ (.bool (zs z))).setCell ⟨w.heap.size + 1 + 1, 3, none⟩ (.int .u64 ((lo f : Nat) : Int))).setCell ⟨w.heap.size + 1 + 1, 4, none⟩ (.string (hs f))) = x6 at hP
  have hB1 := hP.fc
  simp only [fcG, cellsF, neK, and_true, ne_eq, Nat.zero_add, Nat.reduceAdd] at hB1
  replace hL0 := hP
  go_wp2_with fail
  exact bodyPost_ret (v := .agg #[.int .u64 ((zl z : Nat) : Int), .string (zh z), .bool (zs z), .int .u64 ((lo f : Nat) : Int), .string (hs f)]) (by simp [results, Tryz.results90, go_sem, hB1]) rfl ⟨rfl, hL0.bl⟩

set_option maxHeartbeats 4000000 in
set_option maxRecDepth 100000 in
theorem fadd_w (m n z : Int) (d e f : Nat) (HC : ∀ w, Calls Tryz.prog 90 #[.agg #[.int .u64 ((zl m : Nat) : Int), .string (zh m), .bool (zs m), .int .u64 ((lo d : Nat) : Int), .string (hs d)], .agg #[.int .u64 ((zl n : Nat) : Int), .string (zh n), .bool (zs n), .int .u64 ((lo e : Nat) : Int), .string (hs e)], .func (.func 91) #[] #[]] w fun xe w' => xe = .returned (.agg #[.int .u64 ((zl z : Nat) : Int), .string (zh z), .bool (zs z), .int .u64 ((lo f : Nat) : Int), .string (hs f)]) ∧ Below w.heap.size w w') (w : World) :
    Calls Tryz.prog 30 #[.agg #[.int .u64 ((zl m : Nat) : Int), .string (zh m), .bool (zs m), .int .u64 ((lo d : Nat) : Int), .string (hs d)], .agg #[.int .u64 ((zl n : Nat) : Int), .string (zh n), .bool (zs n), .int .u64 ((lo e : Nat) : Int), .string (hs e)]] w fun xe w' => xe = .returned (.agg #[.int .u64 ((zl z : Nat) : Int), .string (zh z), .bool (zs z), .int .u64 ((lo f : Nat) : Int), .string (hs f)]) ∧ Below w.heap.size w w' := by
  have hL0 : GL w w [] := GL.start w
  replace HC := Lib.hid HC
  replace hL0 := (((hL0.new rfl [.int .u64 ((zl m : Nat) : Int), .string (zh m), .bool (zs m), .int .u64 ((lo d : Nat) : Int), .string (hs d)] 35).new (K := w.heap.size + 1) (szA _ _) [.int .u64 ((zl n : Nat) : Int), .string (zh n), .bool (zs n), .int .u64 ((lo e : Nat) : Int), .string (hs e)] 35).new (K := w.heap.size + 1 + 1) (by simp only [World.size_alloc]) [.int .u64 0, .string ⟨#[]⟩, .bool false, .int .u64 0, .string ⟨#[]⟩] 35)
  generalize hweq : (((w.alloc (.cells #[.int .u64 ((zl m : Nat) : Int), .string (zh m), .bool (zs m), .int .u64 ((lo d : Nat) : Int), .string (hs d)] 35)).alloc (.cells #[.int .u64 ((zl n : Nat) : Int), .string (zh n), .bool (zs n), .int .u64 ((lo e : Nat) : Int), .string (hs e)] 35)).alloc (.cells #[.int .u64 0, .string ⟨#[]⟩, .bool false, .int .u64 0, .string ⟨#[]⟩] 35)) = x1 at hL0
  go_enter Tryz.func30, Tryz.ntmps30
  have hN0 := cells_of _ 0 [] rfl (hL0.get _ _ (List.mem_cons_of_mem _ List.mem_cons_self))
  simp only [cellsF, and_true, Nat.zero_add, Nat.reduceAdd] at hN0
  have hN1 := cells_of _ 0 [] rfl (hL0.get _ _ (List.mem_cons_of_mem _ (List.mem_cons_of_mem _ List.mem_cons_self)))
  simp only [cellsF, and_true, Nat.zero_add, Nat.reduceAdd] at hN1
  go_wp2_with fail
  clear hN0 hN1
  with_reducible refine Calls.mono (HC.out _) ?_
  rintro e x2 ⟨rfl, hb⟩
  replace hL0 := hL0.call hb
  clear hb hweq
  have hA := hL0.fc
  simp only [fcG, cellsF, neK, and_true, ne_eq, Nat.zero_add, Nat.reduceAdd] at hA
  have hP := hL0.put 0 (w.heap.size + 1 + 1) _ rfl [.int .u64 ((zl z : Nat) : Int), .string (zh z), .bool (zs z), .int .u64 ((lo f : Nat) : Int), .string (hs f)] rfl
  simp only [setAll, List.set_cons_zero, List.set_cons_succ] at hP
  generalize hput1 : (((((x2.setCell ⟨w.heap.size + 1 + 1, 0, none⟩ (.int .u64 ((zl z : Nat) : Int))).setCell ⟨w.heap.size + 1 + 1, 1, none⟩ (.string (zh z))).setCell ⟨w.heap.size + 1 + 1, 2, none⟩ (.bool (zs z))).setCell ⟨w.heap.size + 1 + 1, 3, none⟩ (.int .u64 ((lo f : Nat) : Int))).setCell ⟨w.heap.size + 1 + 1, 4, none⟩ (.string (hs f))) = x3 at hP
  have hB1 := hP.fc
  simp only [fcG, cellsF, neK, and_true, ne_eq, Nat.zero_add, Nat.reduceAdd] at hB1
  replace hL0 := hP
  go_wp2_with fail
  exact bodyPost_ret (v := .agg #[.int .u64 ((zl z : Nat) : Int), .string (zh z), .bool (zs z), .int .u64 ((lo f : Nat) : Int), .string (hs f)]) (by simp [results, Tryz.results30, go_sem, hB1]) rfl ⟨rfl, hL0.bl⟩

set_option maxHeartbeats 4000000 in
set_option maxRecDepth 100000 in
theorem fcombine_sub (m n x y s u z : Int) (d e p0 q0 g p q r t v f : Nat) (HD : ∀ w, Calls Tryz.prog 75 #[.agg #[.int .u64 ((zl m : Nat) : Int), .string (zh m), .bool (zs m), .int .u64 ((lo d : Nat) : Int), .string (hs d)]] w fun xe w' => xe = .returned (.agg #[.int .u64 ((lo p0 : Nat) : Int), .string (hs p0)]) ∧ Below w.heap.size w w') (HE : ∀ w, Calls Tryz.prog 75 #[.agg #[.int .u64 ((zl n : Nat) : Int), .string (zh n), .bool (zs n), .int .u64 ((lo e : Nat) : Int), .string (hs e)]] w fun xe w' => xe = .returned (.agg #[.int .u64 ((lo q0 : Nat) : Int), .string (hs q0)]) ∧ Below w.heap.size w w') (HG : ∀ w, Calls Tryz.prog 76 #[.agg #[.int .u64 ((lo p0 : Nat) : Int), .string (hs p0)], .agg #[.int .u64 ((lo q0 : Nat) : Int), .string (hs q0)]] w fun xe w' => xe = .returned (.agg #[.int .u64 ((lo g : Nat) : Int), .string (hs g)]) ∧ Below w.heap.size w w') (HP : ∀ w, Calls Tryz.prog 142 #[.agg #[.int .u64 ((lo p0 : Nat) : Int), .string (hs p0)], .agg #[.int .u64 ((lo g : Nat) : Int), .string (hs g)]] w fun xe w' => xe = .returned (.agg #[.int .u64 ((lo p : Nat) : Int), .string (hs p)]) ∧ Below w.heap.size w w') (HQ : ∀ w, Calls Tryz.prog 142 #[.agg #[.int .u64 ((lo q0 : Nat) : Int), .string (hs q0)], .agg #[.int .u64 ((lo g : Nat) : Int), .string (hs g)]] w fun xe w' => xe = .returned (.agg #[.int .u64 ((lo q : Nat) : Int), .string (hs q)]) ∧ Below w.heap.size w w') (HS : ∀ w, Calls Tryz.prog 124 #[.agg #[.int .u64 ((zl m : Nat) : Int), .string (zh m), .bool (zs m)], .agg #[.int .u64 ((lo q : Nat) : Int), .string (hs q)]] w fun xe w' => xe = .returned (.agg #[.int .u64 ((zl x : Nat) : Int), .string (zh x), .bool (zs x)]) ∧ Below w.heap.size w w') (HT : ∀ w, Calls Tryz.prog 124 #[.agg #[.int .u64 ((zl n : Nat) : Int), .string (zh n), .bool (zs n)], .agg #[.int .u64 ((lo p : Nat) : Int), .string (hs p)]] w fun xe w' => xe = .returned (.agg #[.int .u64 ((zl y : Nat) : Int), .string (zh y), .bool (zs y)]) ∧ Below w.heap.size w w') (HB : ∀ w, Calls Tryz.prog 92 #[.agg #[.int .u64 ((zl x : Nat) : Int), .string (zh x), .bool (zs x)], .agg #[.int .u64 ((zl y : Nat) : Int), .string (zh y), .bool (zs y)]] w fun xe w' => xe = .returned (.agg #[.int .u64 ((zl s : Nat) : Int), .string (zh s), .bool (zs s)]) ∧ Below w.heap.size w w') (HC : ∀ w, Calls Tryz.prog 93 #[.agg #[.int .u64 ((zl s : Nat) : Int), .string (zh s), .bool (zs s)], .agg #[.int .u64 ((lo g : Nat) : Int), .string (hs g)]] w fun xe w' => xe = .returned (.tuple #[.agg #[.int .u64 ((zl u : Nat) : Int), .string (zh u), .bool (zs u)], .agg #[.int .u64 ((lo r : Nat) : Int), .string (hs r)]]) ∧ Below w.heap.size w w') (HU : ∀ w, Calls Tryz.prog 79 #[.agg #[.int .u64 ((lo p : Nat) : Int), .string (hs p)], .agg #[.int .u64 ((lo q : Nat) : Int), .string (hs q)]] w fun xe w' => xe = .returned (.agg #[.int .u64 ((lo t : Nat) : Int), .string (hs t)]) ∧ Below w.heap.size w w') (HV : ∀ w, Calls Tryz.prog 79 #[.agg #[.int .u64 ((lo t : Nat) : Int), .string (hs t)], .agg #[.int .u64 ((lo r : Nat) : Int), .string (hs r)]] w fun xe w' => xe = .returned (.agg #[.int .u64 ((lo v : Nat) : Int), .string (hs v)]) ∧ Below w.heap.size w w') (HL : ∀ w, Calls Tryz.prog 40 #[.agg #[.int .u64 ((zl u : Nat) : Int), .string (zh u), .bool (zs u)], .agg #[.int .u64 ((lo v : Nat) : Int), .string (hs v)]] w fun xe w' => xe = .returned (.agg #[.int .u64 ((zl z : Nat) : Int), .string (zh z), .bool (zs z), .int .u64 ((lo f : Nat) : Int), .string (hs f)]) ∧ Below w.heap.size w w') (w : World) :
    Calls Tryz.prog 90 #[.agg #[.int .u64 ((zl m : Nat) : Int), .string (zh m), .bool (zs m), .int .u64 ((lo d : Nat) : Int), .string (hs d)], .agg #[.int .u64 ((zl n : Nat) : Int), .string (zh n), .bool (zs n), .int .u64 ((lo e : Nat) : Int), .string (hs e)], .func (.func 92) #[] #[]] w fun xe w' => xe = .returned (.agg #[.int .u64 ((zl z : Nat) : Int), .string (zh z), .bool (zs z), .int .u64 ((lo f : Nat) : Int), .string (hs f)]) ∧ Below w.heap.size w w' := by
  have hL0 : GL w w [] := GL.start w
  replace HD := Lib.hid HD
  replace HE := Lib.hid HE
  replace HG := Lib.hid HG
  replace HP := Lib.hid HP
  replace HQ := Lib.hid HQ
  replace HS := Lib.hid HS
  replace HT := Lib.hid HT
  replace HB := Lib.hid HB
  replace HC := Lib.hid HC
  replace HU := Lib.hid HU
  replace HV := Lib.hid HV
  replace HL := Lib.hid HL
  replace hL0 := (((hL0.new rfl [.int .u64 ((zl m : Nat) : Int), .string (zh m), .bool (zs m), .int .u64 ((lo d : Nat) : Int), .string (hs d)] 35).new (K := w.heap.size + 1) (szA _ _) [.int .u64 ((zl n : Nat) : Int), .string (zh n), .bool (zs n), .int .u64 ((lo e : Nat) : Int), .string (hs e)] 35).new (K := w.heap.size + 1 + 1) (by simp only [World.size_alloc]) [.int .u64 0, .string ⟨#[]⟩, .bool false, .int .u64 0, .string ⟨#[]⟩] 35)
  generalize hweq : (((w.alloc (.cells #[.int .u64 ((zl m : Nat) : Int), .string (zh m), .bool (zs m), .int .u64 ((lo d : Nat) : Int), .string (hs d)] 35)).alloc (.cells #[.int .u64 ((zl n : Nat) : Int), .string (zh n), .bool (zs n), .int .u64 ((lo e : Nat) : Int), .string (hs e)] 35)).alloc (.cells #[.int .u64 0, .string ⟨#[]⟩, .bool false, .int .u64 0, .string ⟨#[]⟩] 35)) = x1 at hL0
  go_enter Tryz.func90, Tryz.ntmps90
  go_upto_region 1 with fail
  clear hweq
  refine region_gh (by kernel_rfl) (by kernel_rfl) ?_
  refine lex_seg (gl := []) 5 (by kernel_rfl) ?_
  intro α iα F hF1 hF2
  have hq := GL.seg hF1 hL0
  simp only [fcC, cellsC, and_true, Nat.zero_add, Nat.reduceAdd] at hq
  simp only [List.take_succ_cons, List.take_zero, List.drop_succ_cons, List.drop_zero, List.take_nil, List.drop_nil]
  repeat (go_big_quiet_step (first | fail | (go_at_call 75; with_reducible exact seg_call hF2 HD.out _) | (go_at_call 75; with_reducible exact seg_call hF2 HE.out _) | (go_at_call 76; with_reducible exact seg_call hF2 HG.out _)))
  refine wpQuiet_nil ?_
  clear hq hF1 hF2 iα F α
  refine lex_new [.int .u64 0, .string ⟨#[]⟩] 7 31 31 rfl rfl (of_decide_eq_true (by kernel_rfl)) (by kernel_rfl) rfl new_natc ?_
  simp only [Act.put, List.setIfInBounds_toArray, List.set_cons_succ, List.set_cons_zero]
  refine lex_put [.int .u64 ((lo g : Nat) : Int), .string (hs g)] [.int .u64 0, .string ⟨#[]⟩] 7 31 (.tmp 16) rfl (by kernel_rfl) (by simp [toG, upd]) rfl (fun w k h => put_natc _ _ _ _ w k h) ?_
  simp only [Act.put]
  refine lexG_nil ?_
  intro κ x2 hS
  replace hL0 := hL0.ghs hS [(7, [.int .u64 ((lo g : Nat) : Int), .string (hs g)])] (by simp) (by intro p hp; simp only [List.mem_cons, List.not_mem_nil, or_false] at hp; rcases hp with rfl <;> exact ⟨_, by simp only [toG, upd]; rfl⟩)
  simp only [List.map_cons, List.map_nil, List.cons_append, List.nil_append] at hL0
  simp only [over_toG, over_nil, Act.put, List.setIfInBounds_toArray, List.set_cons_succ, List.set_cons_zero]
  clear hS
  generalize κ 7 = k2_7 at *
  go_upto_region 2 with fail
  refine region_gh (by kernel_rfl) (by kernel_rfl) ?_
  refine lex_seg (gl := []) 8 (by kernel_rfl) ?_
  intro α iα F hF1 hF2
  have hq := GL.seg hF1 hL0
  simp only [fcC, cellsC, and_true, Nat.zero_add, Nat.reduceAdd] at hq
  simp only [List.take_succ_cons, List.take_zero, List.drop_succ_cons, List.drop_zero, List.take_nil, List.drop_nil]
  repeat (go_big_quiet_step (first | fail | (go_at_call 75; with_reducible exact seg_call hF2 HD.out _) | (go_at_call 142; with_reducible exact seg_call hF2 HP.out _) | (go_at_call 75; with_reducible exact seg_call hF2 HE.out _) | (go_at_call 142; with_reducible exact seg_call hF2 HQ.out _)))
  refine wpQuiet_nil ?_
  clear hq hF1 hF2 iα F α
  refine lex_new [.int .u64 0, .string ⟨#[]⟩] 8 31 31 rfl rfl (of_decide_eq_true (by kernel_rfl)) (by kernel_rfl) rfl new_natc ?_
  simp only [Act.put, List.setIfInBounds_toArray, List.set_cons_succ, List.set_cons_zero]
  refine lex_new [.int .u64 0, .string ⟨#[]⟩] 9 31 31 rfl rfl (of_decide_eq_true (by kernel_rfl)) (by kernel_rfl) rfl new_natc ?_
  simp only [Act.put, List.setIfInBounds_toArray, List.set_cons_succ, List.set_cons_zero]
  refine lex_put [.int .u64 ((lo p : Nat) : Int), .string (hs p)] [.int .u64 0, .string ⟨#[]⟩] 8 31 (.tmp 20) rfl (by kernel_rfl) (by simp [toG, upd]) rfl (fun w k h => put_natc _ _ _ _ w k h) ?_
  simp only [Act.put]
  refine lex_put [.int .u64 ((lo q : Nat) : Int), .string (hs q)] [.int .u64 0, .string ⟨#[]⟩] 9 31 (.tmp 24) rfl (by kernel_rfl) (by simp [toG, upd]) rfl (fun w k h => put_natc _ _ _ _ w k h) ?_
  simp only [Act.put]
  refine lexG_nil ?_
  intro κ x3 hS
  replace hL0 := hL0.ghs hS [(9, [.int .u64 ((lo q : Nat) : Int), .string (hs q)]), (8, [.int .u64 ((lo p : Nat) : Int), .string (hs p)])] (by simp) (by intro p hp; simp only [List.mem_cons, List.not_mem_nil, or_false] at hp; rcases hp with rfl | rfl <;> exact ⟨_, by simp only [toG, upd]; rfl⟩)
  simp only [List.map_cons, List.map_nil, List.cons_append, List.nil_append] at hL0
  simp only [over_toG, over_nil, Act.put, List.setIfInBounds_toArray, List.set_cons_succ, List.set_cons_zero]
  clear hS
  generalize κ 9 = k3_9 at *
  generalize κ 8 = k3_8 at *
  go_upto_region 3 with fail
  refine region_gh (by kernel_rfl) (by kernel_rfl) ?_
  refine lex_seg (gl := []) 15 (by kernel_rfl) ?_
  intro α iα F hF1 hF2
  have hq := GL.seg hF1 hL0
  simp only [fcC, cellsC, and_true, Nat.zero_add, Nat.reduceAdd] at hq
  simp only [List.take_succ_cons, List.take_zero, List.drop_succ_cons, List.drop_zero, List.take_nil, List.drop_nil]
  repeat (go_big_quiet_step (first | fail | (go_at_call 124; with_reducible exact seg_call hF2 HS.out _) | (go_at_call 124; with_reducible exact seg_call hF2 HT.out _) | (go_at_call 92; with_reducible exact seg_call hF2 HB.out _) | (go_at_call 93; with_reducible exact seg_call hF2 HC.out _)))
  refine wpQuiet_nil ?_
  clear hq hF1 hF2 iα F α
  refine lex_new [.int .u64 0, .string ⟨#[]⟩, .bool false] 10 33 33 rfl rfl (of_decide_eq_true (by kernel_rfl)) (by kernel_rfl) rfl new_int ?_
  simp only [Act.put, List.setIfInBounds_toArray, List.set_cons_succ, List.set_cons_zero]
  refine lex_new [.int .u64 0, .string ⟨#[]⟩] 11 31 31 rfl rfl (of_decide_eq_true (by kernel_rfl)) (by kernel_rfl) rfl new_natc ?_
  simp only [Act.put, List.setIfInBounds_toArray, List.set_cons_succ, List.set_cons_zero]
  refine lex_put [.int .u64 ((zl u : Nat) : Int), .string (zh u), .bool (zs u)] [.int .u64 0, .string ⟨#[]⟩, .bool false] 10 33 (.tmp 38) rfl (by kernel_rfl) (by simp [toG, upd]) rfl (fun w k h => put_int _ _ _ _ _ _ w k h) ?_
  simp only [Act.put]
  refine lex_put [.int .u64 ((lo r : Nat) : Int), .string (hs r)] [.int .u64 0, .string ⟨#[]⟩] 11 31 (.tmp 39) rfl (by kernel_rfl) (by simp [toG, upd]) rfl (fun w k h => put_natc _ _ _ _ w k h) ?_
  simp only [Act.put]
  refine lexG_nil ?_
  intro κ x4 hS
  replace hL0 := hL0.ghs hS [(11, [.int .u64 ((lo r : Nat) : Int), .string (hs r)]), (10, [.int .u64 ((zl u : Nat) : Int), .string (zh u), .bool (zs u)])] (by simp) (by intro p hp; simp only [List.mem_cons, List.not_mem_nil, or_false] at hp; rcases hp with rfl | rfl <;> exact ⟨_, by simp only [toG, upd]; rfl⟩)
  simp only [List.map_cons, List.map_nil, List.cons_append, List.nil_append] at hL0
  simp only [over_toG, over_nil, Act.put, List.setIfInBounds_toArray, List.set_cons_succ, List.set_cons_zero]
  clear hS
  generalize κ 11 = k4_11 at *
  generalize κ 10 = k4_10 at *
  go_upto_region 4 with fail
  obtain ⟨α, iα, F, hF1, hF2⟩ := cls x4
  have hq0 := cls_box hF1 hL0 _ _ List.mem_cons_self
  simp only [cellsC, and_true, Nat.zero_add, Nat.reduceAdd] at hq0
  have hq1 := cls_box hF1 hL0 _ _ (List.mem_cons_of_mem _ List.mem_cons_self)
  simp only [cellsC, and_true, Nat.zero_add, Nat.reduceAdd] at hq1
  have hq2 := cls_box hF1 hL0 _ _ (List.mem_cons_of_mem _ (List.mem_cons_of_mem _ List.mem_cons_self))
  simp only [cellsC, and_true, Nat.zero_add, Nat.reduceAdd] at hq2
  have hq3 := cls_box hF1 hL0 _ _ (List.mem_cons_of_mem _ (List.mem_cons_of_mem _ (List.mem_cons_of_mem _ List.mem_cons_self)))
  simp only [cellsC, and_true, Nat.zero_add, Nat.reduceAdd] at hq3
  refine region_qs 7 (C := fun w' => ∃ x, w' = F x) (by kernel_rfl) (by kernel_rfl) (cls_drew hF2) ?_
  simp only [List.take_succ_cons, List.take_zero, List.drop_succ_cons, List.drop_zero, List.take_nil, List.drop_nil]
  repeat (go_big_quiet_step (first | fail | (go_at_call 79; with_reducible exact cls_call hF1 hF2 HU.out _) | (go_at_call 79; with_reducible exact cls_call hF1 hF2 HV.out _) | (go_at_call 40; with_reducible exact cls_call hF1 hF2 HL.out _)))
  refine wpQuiet_nil ?_
  rintro wq ⟨xq, rfl⟩
  replace hL0 := hL0.call (hF1 xq)
  clear  hq0 hq1 hq2 hq3 hF2
  generalize F xq = x5 at hL0 ⊢
  clear hF1 xq iα F α
  have hA := hL0.fc
  simp only [fcG, cellsF, neK, and_true, ne_eq, Nat.zero_add, Nat.reduceAdd] at hA
  have hP := hL0.put 5 (w.heap.size + 1 + 1) _ rfl [.int .u64 ((zl z : Nat) : Int), .string (zh z), .bool (zs z), .int .u64 ((lo f : Nat) : Int), .string (hs f)] rfl
  simp only [setAll, List.set_cons_zero, List.set_cons_succ] at hP
  generalize hput1 : (((((x5.setCell ⟨w.heap.size + 1 + 1, 0, none⟩ (.int .u64 ((zl z : Nat) : Int))).setCell ⟨w.heap.size + 1 + 1, 1, none⟩ (.string (zh z))).setCell ⟨w.heap.size + 1 + 1, 2, none⟩ (.bool (zs z))).setCell ⟨w.heap.size + 1 + 1, 3, none⟩ (.int .u64 ((lo f : Nat) : Int))).setCell ⟨w.heap.size + 1 + 1, 4, none⟩ (.string (hs f))) = x6 at hP
  have hB1 := hP.fc
  simp only [fcG, cellsF, neK, and_true, ne_eq, Nat.zero_add, Nat.reduceAdd] at hB1
  replace hL0 := hP
  go_wp2_with fail
  exact bodyPost_ret (v := .agg #[.int .u64 ((zl z : Nat) : Int), .string (zh z), .bool (zs z), .int .u64 ((lo f : Nat) : Int), .string (hs f)]) (by simp [results, Tryz.results90, go_sem, hB1]) rfl ⟨rfl, hL0.bl⟩

set_option maxHeartbeats 4000000 in
set_option maxRecDepth 100000 in
theorem fsub_w (m n z : Int) (d e f : Nat) (HC : ∀ w, Calls Tryz.prog 90 #[.agg #[.int .u64 ((zl m : Nat) : Int), .string (zh m), .bool (zs m), .int .u64 ((lo d : Nat) : Int), .string (hs d)], .agg #[.int .u64 ((zl n : Nat) : Int), .string (zh n), .bool (zs n), .int .u64 ((lo e : Nat) : Int), .string (hs e)], .func (.func 92) #[] #[]] w fun xe w' => xe = .returned (.agg #[.int .u64 ((zl z : Nat) : Int), .string (zh z), .bool (zs z), .int .u64 ((lo f : Nat) : Int), .string (hs f)]) ∧ Below w.heap.size w w') (w : World) :
    Calls Tryz.prog 31 #[.agg #[.int .u64 ((zl m : Nat) : Int), .string (zh m), .bool (zs m), .int .u64 ((lo d : Nat) : Int), .string (hs d)], .agg #[.int .u64 ((zl n : Nat) : Int), .string (zh n), .bool (zs n), .int .u64 ((lo e : Nat) : Int), .string (hs e)]] w fun xe w' => xe = .returned (.agg #[.int .u64 ((zl z : Nat) : Int), .string (zh z), .bool (zs z), .int .u64 ((lo f : Nat) : Int), .string (hs f)]) ∧ Below w.heap.size w w' := by
  have hL0 : GL w w [] := GL.start w
  replace HC := Lib.hid HC
  replace hL0 := (((hL0.new rfl [.int .u64 ((zl m : Nat) : Int), .string (zh m), .bool (zs m), .int .u64 ((lo d : Nat) : Int), .string (hs d)] 35).new (K := w.heap.size + 1) (szA _ _) [.int .u64 ((zl n : Nat) : Int), .string (zh n), .bool (zs n), .int .u64 ((lo e : Nat) : Int), .string (hs e)] 35).new (K := w.heap.size + 1 + 1) (by simp only [World.size_alloc]) [.int .u64 0, .string ⟨#[]⟩, .bool false, .int .u64 0, .string ⟨#[]⟩] 35)
  generalize hweq : (((w.alloc (.cells #[.int .u64 ((zl m : Nat) : Int), .string (zh m), .bool (zs m), .int .u64 ((lo d : Nat) : Int), .string (hs d)] 35)).alloc (.cells #[.int .u64 ((zl n : Nat) : Int), .string (zh n), .bool (zs n), .int .u64 ((lo e : Nat) : Int), .string (hs e)] 35)).alloc (.cells #[.int .u64 0, .string ⟨#[]⟩, .bool false, .int .u64 0, .string ⟨#[]⟩] 35)) = x1 at hL0
  go_enter Tryz.func31, Tryz.ntmps31
  have hN0 := cells_of _ 0 [] rfl (hL0.get _ _ (List.mem_cons_of_mem _ List.mem_cons_self))
  simp only [cellsF, and_true, Nat.zero_add, Nat.reduceAdd] at hN0
  have hN1 := cells_of _ 0 [] rfl (hL0.get _ _ (List.mem_cons_of_mem _ (List.mem_cons_of_mem _ List.mem_cons_self)))
  simp only [cellsF, and_true, Nat.zero_add, Nat.reduceAdd] at hN1
  go_wp2_with fail
  clear hN0 hN1
  with_reducible refine Calls.mono (HC.out _) ?_
  rintro e x2 ⟨rfl, hb⟩
  replace hL0 := hL0.call hb
  clear hb hweq
  have hA := hL0.fc
  simp only [fcG, cellsF, neK, and_true, ne_eq, Nat.zero_add, Nat.reduceAdd] at hA
  have hP := hL0.put 0 (w.heap.size + 1 + 1) _ rfl [.int .u64 ((zl z : Nat) : Int), .string (zh z), .bool (zs z), .int .u64 ((lo f : Nat) : Int), .string (hs f)] rfl
  simp only [setAll, List.set_cons_zero, List.set_cons_succ] at hP
  generalize hput1 : (((((x2.setCell ⟨w.heap.size + 1 + 1, 0, none⟩ (.int .u64 ((zl z : Nat) : Int))).setCell ⟨w.heap.size + 1 + 1, 1, none⟩ (.string (zh z))).setCell ⟨w.heap.size + 1 + 1, 2, none⟩ (.bool (zs z))).setCell ⟨w.heap.size + 1 + 1, 3, none⟩ (.int .u64 ((lo f : Nat) : Int))).setCell ⟨w.heap.size + 1 + 1, 4, none⟩ (.string (hs f))) = x3 at hP
  have hB1 := hP.fc
  simp only [fcG, cellsF, neK, and_true, ne_eq, Nat.zero_add, Nat.reduceAdd] at hB1
  replace hL0 := hP
  go_wp2_with fail
  exact bodyPost_ret (v := .agg #[.int .u64 ((zl z : Nat) : Int), .string (zh z), .bool (zs z), .int .u64 ((lo f : Nat) : Int), .string (hs f)]) (by simp [results, Tryz.results31, go_sem, hB1]) rfl ⟨rfl, hL0.bl⟩

end Go.Proofs.YtecdnohhengfaabGreatDoor

/-
  Layer 3, walks: powers, texts.
-/
namespace Go.Proofs.YtecdnohhengfaabGreatDoor
open Go.RowKit
attribute [local irreducible] lo hs sm s64 c64 d64 b64 mh ml pd pc qd qc val hiB str cmpI srD lz nb isq decB zl zh zs

set_option maxHeartbeats 4000000 in
set_option maxRecDepth 100000 in
theorem ffrom_zero (n : Int) (HO : ∀ w, Calls Tryz.prog 14 #[.int .u64 0] w fun xe w' => xe = .returned (.agg #[.int .u64 ((lo 0 : Nat) : Int), .string (hs 0)]) ∧ Below w.heap.size w w') (w : World) :
    Calls Tryz.prog 37 #[.agg #[.int .u64 ((zl n : Nat) : Int), .string (zh n), .bool (zs n)], .agg #[.int .u64 ((lo 0 : Nat) : Int), .string (hs 0)]] w fun xe w' => xe = .returned (.tuple #[.agg #[.int .u64 0, .string ⟨#[]⟩, .bool false, .int .u64 0, .string ⟨#[]⟩], .int .i64 5]) ∧ Below w.heap.size w w' := by
  have hL0 : GL w w [] := GL.start w
  replace HO := Lib.hid HO
  replace hL0 := (((hL0.new rfl [.int .u64 ((zl n : Nat) : Int), .string (zh n), .bool (zs n)] 33).new (K := w.heap.size + 1) (szA _ _) [.int .u64 ((lo 0 : Nat) : Int), .string (hs 0)] 31).new (K := w.heap.size + 1 + 1) (by simp only [World.size_alloc]) [.int .u64 0, .string ⟨#[]⟩, .bool false, .int .u64 0, .string ⟨#[]⟩] 35)
  generalize hweq : (((w.alloc (.cells #[.int .u64 ((zl n : Nat) : Int), .string (zh n), .bool (zs n)] 33)).alloc (.cells #[.int .u64 ((lo 0 : Nat) : Int), .string (hs 0)] 31)).alloc (.cells #[.int .u64 0, .string ⟨#[]⟩, .bool false, .int .u64 0, .string ⟨#[]⟩] 35)) = x1 at hL0
  go_enter Tryz.func37, Tryz.ntmps37
  go_upto_region 1 with fail
  clear hweq
  obtain ⟨α, iα, F, hF1, hF2⟩ := cls x1
  have hq0 := cls_box hF1 hL0 _ _ (List.mem_cons_of_mem _ List.mem_cons_self)
  simp only [cellsC, and_true, Nat.zero_add, Nat.reduceAdd] at hq0
  refine region_qs 3 (C := fun w' => ∃ x, w' = F x) (by kernel_rfl) (by kernel_rfl) (cls_drew hF2) ?_
  simp only [List.take_succ_cons, List.take_zero, List.drop_succ_cons, List.drop_zero, List.take_nil, List.drop_nil]
  repeat (go_big_quiet_step (first | fail | (go_at_call 14; with_reducible exact cls_call hF1 hF2 HO.out _)))
  refine wpQuiet_nil ?_
  rintro wq ⟨xq, rfl⟩
  replace hL0 := hL0.call (hF1 xq)
  clear  hq0 hF2
  generalize F xq = x2 at hL0 ⊢
  clear hF1 xq iα F α
  have hA := hL0.fc
  simp only [fcG, cellsF, neK, and_true, ne_eq, Nat.zero_add, Nat.reduceAdd] at hA
  have hP := hL0.put 0 (w.heap.size + 1 + 1) _ rfl [.int .u64 0, .string ⟨#[]⟩, .bool false, .int .u64 0, .string ⟨#[]⟩] rfl
  simp only [setAll, List.set_cons_zero, List.set_cons_succ] at hP
  generalize hput1 : (((((x2.setCell ⟨w.heap.size + 1 + 1, 0, none⟩ (.int .u64 0)).setCell ⟨w.heap.size + 1 + 1, 1, none⟩ (.string ⟨#[]⟩)).setCell ⟨w.heap.size + 1 + 1, 2, none⟩ (.bool false)).setCell ⟨w.heap.size + 1 + 1, 3, none⟩ (.int .u64 0)).setCell ⟨w.heap.size + 1 + 1, 4, none⟩ (.string ⟨#[]⟩)) = x3 at hP
  have hB1 := hP.fc
  simp only [fcG, cellsF, neK, and_true, ne_eq, Nat.zero_add, Nat.reduceAdd] at hB1
  replace hL0 := hP
  go_wp2_with fail
  exact bodyPost_ret (v := .tuple #[.agg #[.int .u64 0, .string ⟨#[]⟩, .bool false, .int .u64 0, .string ⟨#[]⟩], .int .i64 5]) (by simp [results, Tryz.results37, go_sem, hB1]) rfl ⟨rfl, hL0.bl⟩

set_option maxHeartbeats 4000000 in
set_option maxRecDepth 100000 in
theorem ffrom_w (n u z : Int) (d v f : Nat) (HO : ∀ w, Calls Tryz.prog 14 #[.int .u64 0] w fun xe w' => xe = .returned (.agg #[.int .u64 ((lo 0 : Nat) : Int), .string (hs 0)]) ∧ Below w.heap.size w w') (HC : ∀ w, Calls Tryz.prog 93 #[.agg #[.int .u64 ((zl n : Nat) : Int), .string (zh n), .bool (zs n)], .agg #[.int .u64 ((lo d : Nat) : Int), .string (hs d)]] w fun xe w' => xe = .returned (.tuple #[.agg #[.int .u64 ((zl u : Nat) : Int), .string (zh u), .bool (zs u)], .agg #[.int .u64 ((lo v : Nat) : Int), .string (hs v)]]) ∧ Below w.heap.size w w') (HL : ∀ w, Calls Tryz.prog 40 #[.agg #[.int .u64 ((zl u : Nat) : Int), .string (zh u), .bool (zs u)], .agg #[.int .u64 ((lo v : Nat) : Int), .string (hs v)]] w fun xe w' => xe = .returned (.agg #[.int .u64 ((zl z : Nat) : Int), .string (zh z), .bool (zs z), .int .u64 ((lo f : Nat) : Int), .string (hs f)]) ∧ Below w.heap.size w w') (hd : d ≠ 0) (w : World) :
    Calls Tryz.prog 37 #[.agg #[.int .u64 ((zl n : Nat) : Int), .string (zh n), .bool (zs n)], .agg #[.int .u64 ((lo d : Nat) : Int), .string (hs d)]] w fun xe w' => xe = .returned (.tuple #[.agg #[.int .u64 ((zl z : Nat) : Int), .string (zh z), .bool (zs z), .int .u64 ((lo f : Nat) : Int), .string (hs f)], .int .i64 0]) ∧ Below w.heap.size w w' := by
  have hL0 : GL w w [] := GL.start w
  replace HO := Lib.hid HO
  replace HC := Lib.hid HC
  replace HL := Lib.hid HL
  have hz := ne_nat hd
  clear hd
  rcases hz with e0 | ⟨e0, e1⟩
  all_goals (
    replace hL0 := (((hL0.new rfl [.int .u64 ((zl n : Nat) : Int), .string (zh n), .bool (zs n)] 33).new (K := w.heap.size + 1) (szA _ _) [.int .u64 ((lo d : Nat) : Int), .string (hs d)] 31).new (K := w.heap.size + 1 + 1) (by simp only [World.size_alloc]) [.int .u64 0, .string ⟨#[]⟩, .bool false, .int .u64 0, .string ⟨#[]⟩] 35)
    generalize hweq : (((w.alloc (.cells #[.int .u64 ((zl n : Nat) : Int), .string (zh n), .bool (zs n)] 33)).alloc (.cells #[.int .u64 ((lo d : Nat) : Int), .string (hs d)] 31)).alloc (.cells #[.int .u64 0, .string ⟨#[]⟩, .bool false, .int .u64 0, .string ⟨#[]⟩] 35)) = x1 at hL0
    go_enter Tryz.func37, Tryz.ntmps37
    go_upto_region 1 with fail
    clear hweq
    obtain ⟨α, iα, F, hF1, hF2⟩ := cls x1
    have hq0 := cls_box hF1 hL0 _ _ (List.mem_cons_of_mem _ List.mem_cons_self)
    simp only [cellsC, and_true, Nat.zero_add, Nat.reduceAdd] at hq0
    refine region_qs 3 (C := fun w' => ∃ x, w' = F x) (by kernel_rfl) (by kernel_rfl) (cls_drew hF2) ?_
    simp only [List.take_succ_cons, List.take_zero, List.drop_succ_cons, List.drop_zero, List.take_nil, List.drop_nil]
    repeat (go_big_quiet_step (first | fail | (go_at_call 14; with_reducible exact cls_call hF1 hF2 HO.out _)))
    refine wpQuiet_nil ?_
    rintro wq ⟨xq, rfl⟩
    replace hL0 := hL0.call (hF1 xq)
    clear  hq0 hF2
    generalize F xq = x2 at hL0 ⊢
    clear hF1 xq iα F α
    have hN0 := cells_of _ 0 [] rfl (hL0.get _ _ (List.mem_cons_of_mem _ List.mem_cons_self))
    simp only [cellsF, and_true, Nat.zero_add, Nat.reduceAdd] at hN0
    have hN1 := cells_of _ 0 [] rfl (hL0.get _ _ (List.mem_cons_of_mem _ (List.mem_cons_of_mem _ List.mem_cons_self)))
    simp only [cellsF, and_true, Nat.zero_add, Nat.reduceAdd] at hN1
    go_wp2_with fail
    clear hN0 hN1
    with_reducible refine Calls.mono (HC.out _) ?_
    rintro e x3 ⟨rfl, hb⟩
    replace hL0 := hL0.call hb
    clear hb
    go_wp2_with fail
    with_reducible refine Calls.mono (HL.out _) ?_
    rintro e x4 ⟨rfl, hb⟩
    replace hL0 := hL0.call hb
    clear hb
    have hA := hL0.fc
    simp only [fcG, cellsF, neK, and_true, ne_eq, Nat.zero_add, Nat.reduceAdd] at hA
    have hP := hL0.put 0 (w.heap.size + 1 + 1) _ rfl [.int .u64 ((zl z : Nat) : Int), .string (zh z), .bool (zs z), .int .u64 ((lo f : Nat) : Int), .string (hs f)] rfl
    simp only [setAll, List.set_cons_zero, List.set_cons_succ] at hP
    generalize hput1 : (((((x4.setCell ⟨w.heap.size + 1 + 1, 0, none⟩ (.int .u64 ((zl z : Nat) : Int))).setCell ⟨w.heap.size + 1 + 1, 1, none⟩ (.string (zh z))).setCell ⟨w.heap.size + 1 + 1, 2, none⟩ (.bool (zs z))).setCell ⟨w.heap.size + 1 + 1, 3, none⟩ (.int .u64 ((lo f : Nat) : Int))).setCell ⟨w.heap.size + 1 + 1, 4, none⟩ (.string (hs f))) = x5 at hP
    have hB1 := hP.fc
    simp only [fcG, cellsF, neK, and_true, ne_eq, Nat.zero_add, Nat.reduceAdd] at hB1
    replace hL0 := hP
    go_wp2_with fail
    exact bodyPost_ret (v := .tuple #[.agg #[.int .u64 ((zl z : Nat) : Int), .string (zh z), .bool (zs z), .int .u64 ((lo f : Nat) : Int), .string (hs f)], .int .i64 0]) (by simp [results, Tryz.results37, go_sem, hB1]) rfl ⟨rfl, hL0.bl⟩)

set_option maxHeartbeats 4000000 in
set_option maxRecDepth 100000 in
theorem fpower_num (n : Int) (e a x : Nat) (k : Int) (HA : ∀ w, Calls Tryz.prog 12 #[.agg #[.int .u64 ((zl n : Nat) : Int), .string (zh n), .bool (zs n)]] w fun xe w' => xe = .returned (.agg #[.int .u64 ((lo a : Nat) : Int), .string (hs a)]) ∧ Below w.heap.size w w') (HP : ∀ w, Calls Tryz.prog 147 #[.agg #[.int .u64 ((lo a : Nat) : Int), .string (hs a)], .int .i64 k] w fun xe w' => xe = .returned (.tuple #[.agg #[.int .u64 ((lo x : Nat) : Int), .string (hs x)], .int .i64 3]) ∧ Below w.heap.size w w') (w : World) :
    Calls Tryz.prog 94 #[.agg #[.int .u64 ((zl n : Nat) : Int), .string (zh n), .bool (zs n), .int .u64 ((lo e : Nat) : Int), .string (hs e)], .int .i64 k] w fun xe w' => xe = .returned (.tuple #[.agg #[.int .u64 0, .string ⟨#[]⟩, .bool false, .int .u64 0, .string ⟨#[]⟩], .int .i64 3]) ∧ Below w.heap.size w w' := by
  have hL0 : GL w w [] := GL.start w
  replace HA := Lib.hid HA
  replace HP := Lib.hid HP
  replace hL0 := ((hL0.new rfl [.int .u64 ((zl n : Nat) : Int), .string (zh n), .bool (zs n), .int .u64 ((lo e : Nat) : Int), .string (hs e)] 35).new (K := w.heap.size + 1) (szA _ _) [.int .u64 0, .string ⟨#[]⟩, .bool false, .int .u64 0, .string ⟨#[]⟩] 35)
  generalize hweq : ((w.alloc (.cells #[.int .u64 ((zl n : Nat) : Int), .string (zh n), .bool (zs n), .int .u64 ((lo e : Nat) : Int), .string (hs e)] 35)).alloc (.cells #[.int .u64 0, .string ⟨#[]⟩, .bool false, .int .u64 0, .string ⟨#[]⟩] 35)) = x1 at hL0
  go_enter Tryz.func94, Tryz.ntmps94
  have hN0 := cells_of _ 0 [] rfl (hL0.get _ _ (List.mem_cons_of_mem _ List.mem_cons_self))
  simp only [cellsF, and_true, Nat.zero_add, Nat.reduceAdd] at hN0
  go_wp2_with fail
  clear hN0
  with_reducible refine Calls.mono (HA.out _) ?_
  rintro e x2 ⟨rfl, hb⟩
  replace hL0 := hL0.call hb
  clear hb hweq
  go_wp2_with fail
  with_reducible refine Calls.mono (HP.out _) ?_
  rintro e x3 ⟨rfl, hb⟩
  replace hL0 := hL0.call hb
  clear hb
  replace hL0 := (hL0.new rfl [.int .u64 ((lo x : Nat) : Int), .string (hs x)] 31)
  generalize hweq : (x3.alloc (.cells #[.int .u64 ((lo x : Nat) : Int), .string (hs x)] 31)) = x4 at hL0
  have hA := hL0.fc
  simp only [fcG, cellsF, neK, and_true, ne_eq, Nat.zero_add, Nat.reduceAdd] at hA
  have hP := hL0.put 1 (w.heap.size + 1) _ rfl [.int .u64 0, .string ⟨#[]⟩, .bool false, .int .u64 0, .string ⟨#[]⟩] rfl
  simp only [setAll, List.set_cons_zero, List.set_cons_succ] at hP
  generalize hput1 : (((((x4.setCell ⟨w.heap.size + 1, 0, none⟩ (.int .u64 0)).setCell ⟨w.heap.size + 1, 1, none⟩ (.string ⟨#[]⟩)).setCell ⟨w.heap.size + 1, 2, none⟩ (.bool false)).setCell ⟨w.heap.size + 1, 3, none⟩ (.int .u64 0)).setCell ⟨w.heap.size + 1, 4, none⟩ (.string ⟨#[]⟩)) = x5 at hP
  have hB1 := hP.fc
  simp only [fcG, cellsF, neK, and_true, ne_eq, Nat.zero_add, Nat.reduceAdd] at hB1
  replace hL0 := hP
  go_wp2_with fail
  exact bodyPost_ret (v := .tuple #[.agg #[.int .u64 0, .string ⟨#[]⟩, .bool false, .int .u64 0, .string ⟨#[]⟩], .int .i64 3]) (by simp [results, Tryz.results94, go_sem, hB1]) rfl ⟨rfl, hL0.bl⟩

set_option maxHeartbeats 4000000 in
set_option maxRecDepth 100000 in
theorem fpower_den (n : Int) (e a d x y : Nat) (k : Int) (HA : ∀ w, Calls Tryz.prog 12 #[.agg #[.int .u64 ((zl n : Nat) : Int), .string (zh n), .bool (zs n)]] w fun xe w' => xe = .returned (.agg #[.int .u64 ((lo a : Nat) : Int), .string (hs a)]) ∧ Below w.heap.size w w') (HP : ∀ w, Calls Tryz.prog 147 #[.agg #[.int .u64 ((lo a : Nat) : Int), .string (hs a)], .int .i64 k] w fun xe w' => xe = .returned (.tuple #[.agg #[.int .u64 ((lo x : Nat) : Int), .string (hs x)], .int .i64 0]) ∧ Below w.heap.size w w') (HD : ∀ w, Calls Tryz.prog 75 #[.agg #[.int .u64 ((zl n : Nat) : Int), .string (zh n), .bool (zs n), .int .u64 ((lo e : Nat) : Int), .string (hs e)]] w fun xe w' => xe = .returned (.agg #[.int .u64 ((lo d : Nat) : Int), .string (hs d)]) ∧ Below w.heap.size w w') (HQ : ∀ w, Calls Tryz.prog 147 #[.agg #[.int .u64 ((lo d : Nat) : Int), .string (hs d)], .int .i64 k] w fun xe w' => xe = .returned (.tuple #[.agg #[.int .u64 ((lo y : Nat) : Int), .string (hs y)], .int .i64 3]) ∧ Below w.heap.size w w') (w : World) :
    Calls Tryz.prog 94 #[.agg #[.int .u64 ((zl n : Nat) : Int), .string (zh n), .bool (zs n), .int .u64 ((lo e : Nat) : Int), .string (hs e)], .int .i64 k] w fun xe w' => xe = .returned (.tuple #[.agg #[.int .u64 0, .string ⟨#[]⟩, .bool false, .int .u64 0, .string ⟨#[]⟩], .int .i64 3]) ∧ Below w.heap.size w w' := by
  have hL0 : GL w w [] := GL.start w
  replace HA := Lib.hid HA
  replace HP := Lib.hid HP
  replace HD := Lib.hid HD
  replace HQ := Lib.hid HQ
  replace hL0 := ((hL0.new rfl [.int .u64 ((zl n : Nat) : Int), .string (zh n), .bool (zs n), .int .u64 ((lo e : Nat) : Int), .string (hs e)] 35).new (K := w.heap.size + 1) (szA _ _) [.int .u64 0, .string ⟨#[]⟩, .bool false, .int .u64 0, .string ⟨#[]⟩] 35)
  generalize hweq : ((w.alloc (.cells #[.int .u64 ((zl n : Nat) : Int), .string (zh n), .bool (zs n), .int .u64 ((lo e : Nat) : Int), .string (hs e)] 35)).alloc (.cells #[.int .u64 0, .string ⟨#[]⟩, .bool false, .int .u64 0, .string ⟨#[]⟩] 35)) = x1 at hL0
  go_enter Tryz.func94, Tryz.ntmps94
  have hN0 := cells_of _ 0 [] rfl (hL0.get _ _ (List.mem_cons_of_mem _ List.mem_cons_self))
  simp only [cellsF, and_true, Nat.zero_add, Nat.reduceAdd] at hN0
  go_wp2_with fail
  clear hN0
  with_reducible refine Calls.mono (HA.out _) ?_
  rintro e x2 ⟨rfl, hb⟩
  replace hL0 := hL0.call hb
  clear hb hweq
  go_wp2_with fail
  with_reducible refine Calls.mono (HP.out _) ?_
  rintro e x3 ⟨rfl, hb⟩
  replace hL0 := hL0.call hb
  clear hb
  replace hL0 := (hL0.new rfl [.int .u64 ((lo x : Nat) : Int), .string (hs x)] 31)
  generalize hweq : (x3.alloc (.cells #[.int .u64 ((lo x : Nat) : Int), .string (hs x)] 31)) = x4 at hL0
  have hN0 := cells_of _ 0 [] rfl (hL0.get _ _ (List.mem_cons_of_mem _ (List.mem_cons_of_mem _ List.mem_cons_self)))
  simp only [cellsF, and_true, Nat.zero_add, Nat.reduceAdd] at hN0
  go_wp2_with fail
  clear hN0
  with_reducible refine Calls.mono (HD.out _) ?_
  rintro e x5 ⟨rfl, hb⟩
  replace hL0 := hL0.call hb
  clear hb hweq
  go_wp2_with fail
  with_reducible refine Calls.mono (HQ.out _) ?_
  rintro e x6 ⟨rfl, hb⟩
  replace hL0 := hL0.call hb
  clear hb
  replace hL0 := (hL0.new rfl [.int .u64 ((lo y : Nat) : Int), .string (hs y)] 31)
  generalize hweq : (x6.alloc (.cells #[.int .u64 ((lo y : Nat) : Int), .string (hs y)] 31)) = x7 at hL0
  have hA := hL0.fc
  simp only [fcG, cellsF, neK, and_true, ne_eq, Nat.zero_add, Nat.reduceAdd] at hA
  have hP := hL0.put 2 (w.heap.size + 1) _ rfl [.int .u64 0, .string ⟨#[]⟩, .bool false, .int .u64 0, .string ⟨#[]⟩] rfl
  simp only [setAll, List.set_cons_zero, List.set_cons_succ] at hP
  generalize hput1 : (((((x7.setCell ⟨w.heap.size + 1, 0, none⟩ (.int .u64 0)).setCell ⟨w.heap.size + 1, 1, none⟩ (.string ⟨#[]⟩)).setCell ⟨w.heap.size + 1, 2, none⟩ (.bool false)).setCell ⟨w.heap.size + 1, 3, none⟩ (.int .u64 0)).setCell ⟨w.heap.size + 1, 4, none⟩ (.string ⟨#[]⟩)) = x8 at hP
  have hB1 := hP.fc
  simp only [fcG, cellsF, neK, and_true, ne_eq, Nat.zero_add, Nat.reduceAdd] at hB1
  replace hL0 := hP
  go_wp2_with fail
  exact bodyPost_ret (v := .tuple #[.agg #[.int .u64 0, .string ⟨#[]⟩, .bool false, .int .u64 0, .string ⟨#[]⟩], .int .i64 3]) (by simp [results, Tryz.results94, go_sem, hB1]) rfl ⟨rfl, hL0.bl⟩

set_option maxHeartbeats 4000000 in
set_option maxRecDepth 100000 in
theorem fpower_pos (n s z u : Int) (e a d x y f : Nat) (k : Int) (HA : ∀ w, Calls Tryz.prog 12 #[.agg #[.int .u64 ((zl n : Nat) : Int), .string (zh n), .bool (zs n)]] w fun xe w' => xe = .returned (.agg #[.int .u64 ((lo a : Nat) : Int), .string (hs a)]) ∧ Below w.heap.size w w') (HP : ∀ w, Calls Tryz.prog 147 #[.agg #[.int .u64 ((lo a : Nat) : Int), .string (hs a)], .int .i64 k] w fun xe w' => xe = .returned (.tuple #[.agg #[.int .u64 ((lo x : Nat) : Int), .string (hs x)], .int .i64 0]) ∧ Below w.heap.size w w') (HD : ∀ w, Calls Tryz.prog 75 #[.agg #[.int .u64 ((zl n : Nat) : Int), .string (zh n), .bool (zs n), .int .u64 ((lo e : Nat) : Int), .string (hs e)]] w fun xe w' => xe = .returned (.agg #[.int .u64 ((lo d : Nat) : Int), .string (hs d)]) ∧ Below w.heap.size w w') (HQ : ∀ w, Calls Tryz.prog 147 #[.agg #[.int .u64 ((lo d : Nat) : Int), .string (hs d)], .int .i64 k] w fun xe w' => xe = .returned (.tuple #[.agg #[.int .u64 ((lo y : Nat) : Int), .string (hs y)], .int .i64 0]) ∧ Below w.heap.size w w') (HS : ∀ w, Calls Tryz.prog 69 #[.agg #[.int .u64 ((zl n : Nat) : Int), .string (zh n), .bool (zs n), .int .u64 ((lo e : Nat) : Int), .string (hs e)]] w fun xe w' => xe = .returned (.int .i64 s) ∧ Below w.heap.size w w') (HF : ∀ w, Calls Tryz.prog 43 #[.bool false, .agg #[.int .u64 ((lo x : Nat) : Int), .string (hs x)]] w fun xe w' => xe = .returned (.agg #[.int .u64 ((zl z : Nat) : Int), .string (zh z), .bool (zs z)]) ∧ Below w.heap.size w w') (HL : ∀ w, Calls Tryz.prog 40 #[.agg #[.int .u64 ((zl z : Nat) : Int), .string (zh z), .bool (zs z)], .agg #[.int .u64 ((lo y : Nat) : Int), .string (hs y)]] w fun xe w' => xe = .returned (.agg #[.int .u64 ((zl u : Nat) : Int), .string (zh u), .bool (zs u), .int .u64 ((lo f : Nat) : Int), .string (hs f)]) ∧ Below w.heap.size w w') (hsg : decide (s < 0) = false) (w : World) :
    Calls Tryz.prog 94 #[.agg #[.int .u64 ((zl n : Nat) : Int), .string (zh n), .bool (zs n), .int .u64 ((lo e : Nat) : Int), .string (hs e)], .int .i64 k] w fun xe w' => xe = .returned (.tuple #[.agg #[.int .u64 ((zl u : Nat) : Int), .string (zh u), .bool (zs u), .int .u64 ((lo f : Nat) : Int), .string (hs f)], .int .i64 0]) ∧ Below w.heap.size w w' := by
  have hL0 : GL w w [] := GL.start w
  replace HA := Lib.hid HA
  replace HP := Lib.hid HP
  replace HD := Lib.hid HD
  replace HQ := Lib.hid HQ
  replace HS := Lib.hid HS
  replace HF := Lib.hid HF
  replace HL := Lib.hid HL
  replace hL0 := ((hL0.new rfl [.int .u64 ((zl n : Nat) : Int), .string (zh n), .bool (zs n), .int .u64 ((lo e : Nat) : Int), .string (hs e)] 35).new (K := w.heap.size + 1) (szA _ _) [.int .u64 0, .string ⟨#[]⟩, .bool false, .int .u64 0, .string ⟨#[]⟩] 35)
  generalize hweq : ((w.alloc (.cells #[.int .u64 ((zl n : Nat) : Int), .string (zh n), .bool (zs n), .int .u64 ((lo e : Nat) : Int), .string (hs e)] 35)).alloc (.cells #[.int .u64 0, .string ⟨#[]⟩, .bool false, .int .u64 0, .string ⟨#[]⟩] 35)) = x1 at hL0
  go_enter Tryz.func94, Tryz.ntmps94
  have hN0 := cells_of _ 0 [] rfl (hL0.get _ _ (List.mem_cons_of_mem _ List.mem_cons_self))
  simp only [cellsF, and_true, Nat.zero_add, Nat.reduceAdd] at hN0
  go_wp2_with fail
  clear hN0
  with_reducible refine Calls.mono (HA.out _) ?_
  rintro e x2 ⟨rfl, hb⟩
  replace hL0 := hL0.call hb
  clear hb hweq
  go_wp2_with fail
  with_reducible refine Calls.mono (HP.out _) ?_
  rintro e x3 ⟨rfl, hb⟩
  replace hL0 := hL0.call hb
  clear hb
  replace hL0 := (hL0.new rfl [.int .u64 ((lo x : Nat) : Int), .string (hs x)] 31)
  generalize hweq : (x3.alloc (.cells #[.int .u64 ((lo x : Nat) : Int), .string (hs x)] 31)) = x4 at hL0
  have hN0 := cells_of _ 0 [] rfl (hL0.get _ _ (List.mem_cons_of_mem _ (List.mem_cons_of_mem _ List.mem_cons_self)))
  simp only [cellsF, and_true, Nat.zero_add, Nat.reduceAdd] at hN0
  go_wp2_with fail
  clear hN0
  with_reducible refine Calls.mono (HD.out _) ?_
  rintro e x5 ⟨rfl, hb⟩
  replace hL0 := hL0.call hb
  clear hb hweq
  go_wp2_with fail
  with_reducible refine Calls.mono (HQ.out _) ?_
  rintro e x6 ⟨rfl, hb⟩
  replace hL0 := hL0.call hb
  clear hb
  replace hL0 := (hL0.new rfl [.int .u64 ((lo y : Nat) : Int), .string (hs y)] 31)
  generalize hweq : (x6.alloc (.cells #[.int .u64 ((lo y : Nat) : Int), .string (hs y)] 31)) = x7 at hL0
  go_upto_region 7 with fail
  clear hweq
  obtain ⟨α, iα, F, hF1, hF2⟩ := cls x7
  have hq0 := cls_box hF1 hL0 _ _ List.mem_cons_self
  simp only [cellsC, and_true, Nat.zero_add, Nat.reduceAdd] at hq0
  have hq1 := cls_box hF1 hL0 _ _ (List.mem_cons_of_mem _ List.mem_cons_self)
  simp only [cellsC, and_true, Nat.zero_add, Nat.reduceAdd] at hq1
  have hq2 := cls_box hF1 hL0 _ _ (List.mem_cons_of_mem _ (List.mem_cons_of_mem _ (List.mem_cons_of_mem _ List.mem_cons_self)))
  simp only [cellsC, and_true, Nat.zero_add, Nat.reduceAdd] at hq2
  refine region_qs 12 (C := fun w' => ∃ x, w' = F x) (by kernel_rfl) (by kernel_rfl) (cls_drew hF2) ?_
  simp only [List.take_succ_cons, List.take_zero, List.drop_succ_cons, List.drop_zero, List.take_nil, List.drop_nil]
  repeat (go_big_quiet_step (first | fail | (go_at_call 69; with_reducible exact cls_call hF1 hF2 HS.out _) | (go_at_call 43; with_reducible exact cls_call hF1 hF2 HF.out _) | (go_at_call 40; with_reducible exact cls_call hF1 hF2 HL.out _)))
  refine wpQuiet_nil ?_
  rintro wq ⟨xq, rfl⟩
  replace hL0 := hL0.call (hF1 xq)
  clear  hq0 hq1 hq2 hF2
  generalize F xq = x8 at hL0 ⊢
  clear hF1 xq iα F α
  have hA := hL0.fc
  simp only [fcG, cellsF, neK, and_true, ne_eq, Nat.zero_add, Nat.reduceAdd] at hA
  have hP := hL0.put 2 (w.heap.size + 1) _ rfl [.int .u64 ((zl u : Nat) : Int), .string (zh u), .bool (zs u), .int .u64 ((lo f : Nat) : Int), .string (hs f)] rfl
  simp only [setAll, List.set_cons_zero, List.set_cons_succ] at hP
  generalize hput1 : (((((x8.setCell ⟨w.heap.size + 1, 0, none⟩ (.int .u64 ((zl u : Nat) : Int))).setCell ⟨w.heap.size + 1, 1, none⟩ (.string (zh u))).setCell ⟨w.heap.size + 1, 2, none⟩ (.bool (zs u))).setCell ⟨w.heap.size + 1, 3, none⟩ (.int .u64 ((lo f : Nat) : Int))).setCell ⟨w.heap.size + 1, 4, none⟩ (.string (hs f))) = x9 at hP
  have hB1 := hP.fc
  simp only [fcG, cellsF, neK, and_true, ne_eq, Nat.zero_add, Nat.reduceAdd] at hB1
  replace hL0 := hP
  go_wp2_with fail
  exact bodyPost_ret (v := .tuple #[.agg #[.int .u64 ((zl u : Nat) : Int), .string (zh u), .bool (zs u), .int .u64 ((lo f : Nat) : Int), .string (hs f)], .int .i64 0]) (by simp [results, Tryz.results94, go_sem, hB1]) rfl ⟨rfl, hL0.bl⟩

set_option maxHeartbeats 4000000 in
set_option maxRecDepth 100000 in
theorem fpower_odd (n s z u : Int) (e a d x y f : Nat) (k : Int) (HA : ∀ w, Calls Tryz.prog 12 #[.agg #[.int .u64 ((zl n : Nat) : Int), .string (zh n), .bool (zs n)]] w fun xe w' => xe = .returned (.agg #[.int .u64 ((lo a : Nat) : Int), .string (hs a)]) ∧ Below w.heap.size w w') (HP : ∀ w, Calls Tryz.prog 147 #[.agg #[.int .u64 ((lo a : Nat) : Int), .string (hs a)], .int .i64 k] w fun xe w' => xe = .returned (.tuple #[.agg #[.int .u64 ((lo x : Nat) : Int), .string (hs x)], .int .i64 0]) ∧ Below w.heap.size w w') (HD : ∀ w, Calls Tryz.prog 75 #[.agg #[.int .u64 ((zl n : Nat) : Int), .string (zh n), .bool (zs n), .int .u64 ((lo e : Nat) : Int), .string (hs e)]] w fun xe w' => xe = .returned (.agg #[.int .u64 ((lo d : Nat) : Int), .string (hs d)]) ∧ Below w.heap.size w w') (HQ : ∀ w, Calls Tryz.prog 147 #[.agg #[.int .u64 ((lo d : Nat) : Int), .string (hs d)], .int .i64 k] w fun xe w' => xe = .returned (.tuple #[.agg #[.int .u64 ((lo y : Nat) : Int), .string (hs y)], .int .i64 0]) ∧ Below w.heap.size w w') (HS : ∀ w, Calls Tryz.prog 69 #[.agg #[.int .u64 ((zl n : Nat) : Int), .string (zh n), .bool (zs n), .int .u64 ((lo e : Nat) : Int), .string (hs e)]] w fun xe w' => xe = .returned (.int .i64 s) ∧ Below w.heap.size w w') (HF : ∀ w, Calls Tryz.prog 43 #[.bool true, .agg #[.int .u64 ((lo x : Nat) : Int), .string (hs x)]] w fun xe w' => xe = .returned (.agg #[.int .u64 ((zl z : Nat) : Int), .string (zh z), .bool (zs z)]) ∧ Below w.heap.size w w') (HL : ∀ w, Calls Tryz.prog 40 #[.agg #[.int .u64 ((zl z : Nat) : Int), .string (zh z), .bool (zs z)], .agg #[.int .u64 ((lo y : Nat) : Int), .string (hs y)]] w fun xe w' => xe = .returned (.agg #[.int .u64 ((zl u : Nat) : Int), .string (zh u), .bool (zs u), .int .u64 ((lo f : Nat) : Int), .string (hs f)]) ∧ Below w.heap.size w w') (hsg : decide (s < 0) = true) (hk : (k.tmod 2 == 1) = true) (w : World) :
    Calls Tryz.prog 94 #[.agg #[.int .u64 ((zl n : Nat) : Int), .string (zh n), .bool (zs n), .int .u64 ((lo e : Nat) : Int), .string (hs e)], .int .i64 k] w fun xe w' => xe = .returned (.tuple #[.agg #[.int .u64 ((zl u : Nat) : Int), .string (zh u), .bool (zs u), .int .u64 ((lo f : Nat) : Int), .string (hs f)], .int .i64 0]) ∧ Below w.heap.size w w' := by
  have hL0 : GL w w [] := GL.start w
  replace HA := Lib.hid HA
  replace HP := Lib.hid HP
  replace HD := Lib.hid HD
  replace HQ := Lib.hid HQ
  replace HS := Lib.hid HS
  replace HF := Lib.hid HF
  replace HL := Lib.hid HL
  replace hL0 := ((hL0.new rfl [.int .u64 ((zl n : Nat) : Int), .string (zh n), .bool (zs n), .int .u64 ((lo e : Nat) : Int), .string (hs e)] 35).new (K := w.heap.size + 1) (szA _ _) [.int .u64 0, .string ⟨#[]⟩, .bool false, .int .u64 0, .string ⟨#[]⟩] 35)
  generalize hweq : ((w.alloc (.cells #[.int .u64 ((zl n : Nat) : Int), .string (zh n), .bool (zs n), .int .u64 ((lo e : Nat) : Int), .string (hs e)] 35)).alloc (.cells #[.int .u64 0, .string ⟨#[]⟩, .bool false, .int .u64 0, .string ⟨#[]⟩] 35)) = x1 at hL0
  go_enter Tryz.func94, Tryz.ntmps94
  have hN0 := cells_of _ 0 [] rfl (hL0.get _ _ (List.mem_cons_of_mem _ List.mem_cons_self))
  simp only [cellsF, and_true, Nat.zero_add, Nat.reduceAdd] at hN0
  go_wp2_with fail
  clear hN0
  with_reducible refine Calls.mono (HA.out _) ?_
  rintro e x2 ⟨rfl, hb⟩
  replace hL0 := hL0.call hb
  clear hb hweq
  go_wp2_with fail
  with_reducible refine Calls.mono (HP.out _) ?_
  rintro e x3 ⟨rfl, hb⟩
  replace hL0 := hL0.call hb
  clear hb
  replace hL0 := (hL0.new rfl [.int .u64 ((lo x : Nat) : Int), .string (hs x)] 31)
  generalize hweq : (x3.alloc (.cells #[.int .u64 ((lo x : Nat) : Int), .string (hs x)] 31)) = x4 at hL0
  have hN0 := cells_of _ 0 [] rfl (hL0.get _ _ (List.mem_cons_of_mem _ (List.mem_cons_of_mem _ List.mem_cons_self)))
  simp only [cellsF, and_true, Nat.zero_add, Nat.reduceAdd] at hN0
  go_wp2_with fail
  clear hN0
  with_reducible refine Calls.mono (HD.out _) ?_
  rintro e x5 ⟨rfl, hb⟩
  replace hL0 := hL0.call hb
  clear hb hweq
  go_wp2_with fail
  with_reducible refine Calls.mono (HQ.out _) ?_
  rintro e x6 ⟨rfl, hb⟩
  replace hL0 := hL0.call hb
  clear hb
  replace hL0 := (hL0.new rfl [.int .u64 ((lo y : Nat) : Int), .string (hs y)] 31)
  generalize hweq : (x6.alloc (.cells #[.int .u64 ((lo y : Nat) : Int), .string (hs y)] 31)) = x7 at hL0
  go_upto_region 7 with fail
  clear hweq
  obtain ⟨α, iα, F, hF1, hF2⟩ := cls x7
  have hq0 := cls_box hF1 hL0 _ _ List.mem_cons_self
  simp only [cellsC, and_true, Nat.zero_add, Nat.reduceAdd] at hq0
  have hq1 := cls_box hF1 hL0 _ _ (List.mem_cons_of_mem _ List.mem_cons_self)
  simp only [cellsC, and_true, Nat.zero_add, Nat.reduceAdd] at hq1
  have hq2 := cls_box hF1 hL0 _ _ (List.mem_cons_of_mem _ (List.mem_cons_of_mem _ (List.mem_cons_of_mem _ List.mem_cons_self)))
  simp only [cellsC, and_true, Nat.zero_add, Nat.reduceAdd] at hq2
  refine region_qs 12 (C := fun w' => ∃ x, w' = F x) (by kernel_rfl) (by kernel_rfl) (cls_drew hF2) ?_
  simp only [List.take_succ_cons, List.take_zero, List.drop_succ_cons, List.drop_zero, List.take_nil, List.drop_nil]
  repeat (go_big_quiet_step (first | fail | (go_at_call 69; with_reducible exact cls_call hF1 hF2 HS.out _) | (go_at_call 43; with_reducible exact cls_call hF1 hF2 HF.out _) | (go_at_call 40; with_reducible exact cls_call hF1 hF2 HL.out _)))
  refine wpQuiet_nil ?_
  rintro wq ⟨xq, rfl⟩
  replace hL0 := hL0.call (hF1 xq)
  clear  hq0 hq1 hq2 hF2
  generalize F xq = x8 at hL0 ⊢
  clear hF1 xq iα F α
  have hA := hL0.fc
  simp only [fcG, cellsF, neK, and_true, ne_eq, Nat.zero_add, Nat.reduceAdd] at hA
  have hP := hL0.put 2 (w.heap.size + 1) _ rfl [.int .u64 ((zl u : Nat) : Int), .string (zh u), .bool (zs u), .int .u64 ((lo f : Nat) : Int), .string (hs f)] rfl
  simp only [setAll, List.set_cons_zero, List.set_cons_succ] at hP
  generalize hput1 : (((((x8.setCell ⟨w.heap.size + 1, 0, none⟩ (.int .u64 ((zl u : Nat) : Int))).setCell ⟨w.heap.size + 1, 1, none⟩ (.string (zh u))).setCell ⟨w.heap.size + 1, 2, none⟩ (.bool (zs u))).setCell ⟨w.heap.size + 1, 3, none⟩ (.int .u64 ((lo f : Nat) : Int))).setCell ⟨w.heap.size + 1, 4, none⟩ (.string (hs f))) = x9 at hP
  have hB1 := hP.fc
  simp only [fcG, cellsF, neK, and_true, ne_eq, Nat.zero_add, Nat.reduceAdd] at hB1
  replace hL0 := hP
  go_wp2_with fail
  exact bodyPost_ret (v := .tuple #[.agg #[.int .u64 ((zl u : Nat) : Int), .string (zh u), .bool (zs u), .int .u64 ((lo f : Nat) : Int), .string (hs f)], .int .i64 0]) (by simp [results, Tryz.results94, go_sem, hB1]) rfl ⟨rfl, hL0.bl⟩

set_option maxHeartbeats 4000000 in
set_option maxRecDepth 100000 in
theorem fpower_even (n s z u : Int) (e a d x y f : Nat) (k : Int) (HA : ∀ w, Calls Tryz.prog 12 #[.agg #[.int .u64 ((zl n : Nat) : Int), .string (zh n), .bool (zs n)]] w fun xe w' => xe = .returned (.agg #[.int .u64 ((lo a : Nat) : Int), .string (hs a)]) ∧ Below w.heap.size w w') (HP : ∀ w, Calls Tryz.prog 147 #[.agg #[.int .u64 ((lo a : Nat) : Int), .string (hs a)], .int .i64 k] w fun xe w' => xe = .returned (.tuple #[.agg #[.int .u64 ((lo x : Nat) : Int), .string (hs x)], .int .i64 0]) ∧ Below w.heap.size w w') (HD : ∀ w, Calls Tryz.prog 75 #[.agg #[.int .u64 ((zl n : Nat) : Int), .string (zh n), .bool (zs n), .int .u64 ((lo e : Nat) : Int), .string (hs e)]] w fun xe w' => xe = .returned (.agg #[.int .u64 ((lo d : Nat) : Int), .string (hs d)]) ∧ Below w.heap.size w w') (HQ : ∀ w, Calls Tryz.prog 147 #[.agg #[.int .u64 ((lo d : Nat) : Int), .string (hs d)], .int .i64 k] w fun xe w' => xe = .returned (.tuple #[.agg #[.int .u64 ((lo y : Nat) : Int), .string (hs y)], .int .i64 0]) ∧ Below w.heap.size w w') (HS : ∀ w, Calls Tryz.prog 69 #[.agg #[.int .u64 ((zl n : Nat) : Int), .string (zh n), .bool (zs n), .int .u64 ((lo e : Nat) : Int), .string (hs e)]] w fun xe w' => xe = .returned (.int .i64 s) ∧ Below w.heap.size w w') (HF : ∀ w, Calls Tryz.prog 43 #[.bool false, .agg #[.int .u64 ((lo x : Nat) : Int), .string (hs x)]] w fun xe w' => xe = .returned (.agg #[.int .u64 ((zl z : Nat) : Int), .string (zh z), .bool (zs z)]) ∧ Below w.heap.size w w') (HL : ∀ w, Calls Tryz.prog 40 #[.agg #[.int .u64 ((zl z : Nat) : Int), .string (zh z), .bool (zs z)], .agg #[.int .u64 ((lo y : Nat) : Int), .string (hs y)]] w fun xe w' => xe = .returned (.agg #[.int .u64 ((zl u : Nat) : Int), .string (zh u), .bool (zs u), .int .u64 ((lo f : Nat) : Int), .string (hs f)]) ∧ Below w.heap.size w w') (hsg : decide (s < 0) = true) (hk : (k.tmod 2 == 1) = false) (w : World) :
    Calls Tryz.prog 94 #[.agg #[.int .u64 ((zl n : Nat) : Int), .string (zh n), .bool (zs n), .int .u64 ((lo e : Nat) : Int), .string (hs e)], .int .i64 k] w fun xe w' => xe = .returned (.tuple #[.agg #[.int .u64 ((zl u : Nat) : Int), .string (zh u), .bool (zs u), .int .u64 ((lo f : Nat) : Int), .string (hs f)], .int .i64 0]) ∧ Below w.heap.size w w' := by
  have hL0 : GL w w [] := GL.start w
  replace HA := Lib.hid HA
  replace HP := Lib.hid HP
  replace HD := Lib.hid HD
  replace HQ := Lib.hid HQ
  replace HS := Lib.hid HS
  replace HF := Lib.hid HF
  replace HL := Lib.hid HL
  replace hL0 := ((hL0.new rfl [.int .u64 ((zl n : Nat) : Int), .string (zh n), .bool (zs n), .int .u64 ((lo e : Nat) : Int), .string (hs e)] 35).new (K := w.heap.size + 1) (szA _ _) [.int .u64 0, .string ⟨#[]⟩, .bool false, .int .u64 0, .string ⟨#[]⟩] 35)
  generalize hweq : ((w.alloc (.cells #[.int .u64 ((zl n : Nat) : Int), .string (zh n), .bool (zs n), .int .u64 ((lo e : Nat) : Int), .string (hs e)] 35)).alloc (.cells #[.int .u64 0, .string ⟨#[]⟩, .bool false, .int .u64 0, .string ⟨#[]⟩] 35)) = x1 at hL0
  go_enter Tryz.func94, Tryz.ntmps94
  have hN0 := cells_of _ 0 [] rfl (hL0.get _ _ (List.mem_cons_of_mem _ List.mem_cons_self))
  simp only [cellsF, and_true, Nat.zero_add, Nat.reduceAdd] at hN0
  go_wp2_with fail
  clear hN0
  with_reducible refine Calls.mono (HA.out _) ?_
  rintro e x2 ⟨rfl, hb⟩
  replace hL0 := hL0.call hb
  clear hb hweq
  go_wp2_with fail
  with_reducible refine Calls.mono (HP.out _) ?_
  rintro e x3 ⟨rfl, hb⟩
  replace hL0 := hL0.call hb
  clear hb
  replace hL0 := (hL0.new rfl [.int .u64 ((lo x : Nat) : Int), .string (hs x)] 31)
  generalize hweq : (x3.alloc (.cells #[.int .u64 ((lo x : Nat) : Int), .string (hs x)] 31)) = x4 at hL0
  have hN0 := cells_of _ 0 [] rfl (hL0.get _ _ (List.mem_cons_of_mem _ (List.mem_cons_of_mem _ List.mem_cons_self)))
  simp only [cellsF, and_true, Nat.zero_add, Nat.reduceAdd] at hN0
  go_wp2_with fail
  clear hN0
  with_reducible refine Calls.mono (HD.out _) ?_
  rintro e x5 ⟨rfl, hb⟩
  replace hL0 := hL0.call hb
  clear hb hweq
  go_wp2_with fail
  with_reducible refine Calls.mono (HQ.out _) ?_
  rintro e x6 ⟨rfl, hb⟩
  replace hL0 := hL0.call hb
  clear hb
  replace hL0 := (hL0.new rfl [.int .u64 ((lo y : Nat) : Int), .string (hs y)] 31)
  generalize hweq : (x6.alloc (.cells #[.int .u64 ((lo y : Nat) : Int), .string (hs y)] 31)) = x7 at hL0
  go_upto_region 7 with fail
  clear hweq
  obtain ⟨α, iα, F, hF1, hF2⟩ := cls x7
  have hq0 := cls_box hF1 hL0 _ _ List.mem_cons_self
  simp only [cellsC, and_true, Nat.zero_add, Nat.reduceAdd] at hq0
  have hq1 := cls_box hF1 hL0 _ _ (List.mem_cons_of_mem _ List.mem_cons_self)
  simp only [cellsC, and_true, Nat.zero_add, Nat.reduceAdd] at hq1
  have hq2 := cls_box hF1 hL0 _ _ (List.mem_cons_of_mem _ (List.mem_cons_of_mem _ (List.mem_cons_of_mem _ List.mem_cons_self)))
  simp only [cellsC, and_true, Nat.zero_add, Nat.reduceAdd] at hq2
  refine region_qs 12 (C := fun w' => ∃ x, w' = F x) (by kernel_rfl) (by kernel_rfl) (cls_drew hF2) ?_
  simp only [List.take_succ_cons, List.take_zero, List.drop_succ_cons, List.drop_zero, List.take_nil, List.drop_nil]
  repeat (go_big_quiet_step (first | fail | (go_at_call 69; with_reducible exact cls_call hF1 hF2 HS.out _) | (go_at_call 43; with_reducible exact cls_call hF1 hF2 HF.out _) | (go_at_call 40; with_reducible exact cls_call hF1 hF2 HL.out _)))
  refine wpQuiet_nil ?_
  rintro wq ⟨xq, rfl⟩
  replace hL0 := hL0.call (hF1 xq)
  clear  hq0 hq1 hq2 hF2
  generalize F xq = x8 at hL0 ⊢
  clear hF1 xq iα F α
  have hA := hL0.fc
  simp only [fcG, cellsF, neK, and_true, ne_eq, Nat.zero_add, Nat.reduceAdd] at hA
  have hP := hL0.put 2 (w.heap.size + 1) _ rfl [.int .u64 ((zl u : Nat) : Int), .string (zh u), .bool (zs u), .int .u64 ((lo f : Nat) : Int), .string (hs f)] rfl
  simp only [setAll, List.set_cons_zero, List.set_cons_succ] at hP
  generalize hput1 : (((((x8.setCell ⟨w.heap.size + 1, 0, none⟩ (.int .u64 ((zl u : Nat) : Int))).setCell ⟨w.heap.size + 1, 1, none⟩ (.string (zh u))).setCell ⟨w.heap.size + 1, 2, none⟩ (.bool (zs u))).setCell ⟨w.heap.size + 1, 3, none⟩ (.int .u64 ((lo f : Nat) : Int))).setCell ⟨w.heap.size + 1, 4, none⟩ (.string (hs f))) = x9 at hP
  have hB1 := hP.fc
  simp only [fcG, cellsF, neK, and_true, ne_eq, Nat.zero_add, Nat.reduceAdd] at hB1
  replace hL0 := hP
  go_wp2_with fail
  exact bodyPost_ret (v := .tuple #[.agg #[.int .u64 ((zl u : Nat) : Int), .string (zh u), .bool (zs u), .int .u64 ((lo f : Nat) : Int), .string (hs f)], .int .i64 0]) (by simp [results, Tryz.results94, go_sem, hB1]) rfl ⟨rfl, hL0.bl⟩

set_option maxHeartbeats 4000000 in
set_option maxRecDepth 100000 in
theorem fpow_low (n : Int) (e : Nat) (k : Int) (hk : decide (k < -4096) = true) (w : World) :
    Calls Tryz.prog 33 #[.agg #[.int .u64 ((zl n : Nat) : Int), .string (zh n), .bool (zs n), .int .u64 ((lo e : Nat) : Int), .string (hs e)], .int .i64 k] w fun xe w' => xe = .returned (.tuple #[.agg #[.int .u64 0, .string ⟨#[]⟩, .bool false, .int .u64 0, .string ⟨#[]⟩], .int .i64 1]) ∧ Below w.heap.size w w' := by
  have hL0 : GL w w [] := GL.start w
  replace hL0 := ((hL0.new rfl [.int .u64 ((zl n : Nat) : Int), .string (zh n), .bool (zs n), .int .u64 ((lo e : Nat) : Int), .string (hs e)] 35).new (K := w.heap.size + 1) (szA _ _) [.int .u64 0, .string ⟨#[]⟩, .bool false, .int .u64 0, .string ⟨#[]⟩] 35)
  generalize hweq : ((w.alloc (.cells #[.int .u64 ((zl n : Nat) : Int), .string (zh n), .bool (zs n), .int .u64 ((lo e : Nat) : Int), .string (hs e)] 35)).alloc (.cells #[.int .u64 0, .string ⟨#[]⟩, .bool false, .int .u64 0, .string ⟨#[]⟩] 35)) = x1 at hL0
  go_enter Tryz.func33, Tryz.ntmps33
  have hA := hL0.fc
  simp only [fcG, cellsF, neK, and_true, ne_eq, Nat.zero_add, Nat.reduceAdd] at hA
  have hP := hL0.put 0 (w.heap.size + 1) _ rfl [.int .u64 0, .string ⟨#[]⟩, .bool false, .int .u64 0, .string ⟨#[]⟩] rfl
  simp only [setAll, List.set_cons_zero, List.set_cons_succ] at hP
  generalize hput1 : (((((x1.setCell ⟨w.heap.size + 1, 0, none⟩ (.int .u64 0)).setCell ⟨w.heap.size + 1, 1, none⟩ (.string ⟨#[]⟩)).setCell ⟨w.heap.size + 1, 2, none⟩ (.bool false)).setCell ⟨w.heap.size + 1, 3, none⟩ (.int .u64 0)).setCell ⟨w.heap.size + 1, 4, none⟩ (.string ⟨#[]⟩)) = x2 at hP
  have hB1 := hP.fc
  simp only [fcG, cellsF, neK, and_true, ne_eq, Nat.zero_add, Nat.reduceAdd] at hB1
  replace hL0 := hP
  go_wp2_with fail
  exact bodyPost_ret (v := .tuple #[.agg #[.int .u64 0, .string ⟨#[]⟩, .bool false, .int .u64 0, .string ⟨#[]⟩], .int .i64 1]) (by simp [results, Tryz.results33, go_sem, hB1]) rfl ⟨rfl, hL0.bl⟩

set_option maxHeartbeats 4000000 in
set_option maxRecDepth 100000 in
theorem fpow_high (n : Int) (e : Nat) (k : Int) (hk : decide (k < -4096) = false) (hl : decide (4096 < k) = true) (w : World) :
    Calls Tryz.prog 33 #[.agg #[.int .u64 ((zl n : Nat) : Int), .string (zh n), .bool (zs n), .int .u64 ((lo e : Nat) : Int), .string (hs e)], .int .i64 k] w fun xe w' => xe = .returned (.tuple #[.agg #[.int .u64 0, .string ⟨#[]⟩, .bool false, .int .u64 0, .string ⟨#[]⟩], .int .i64 1]) ∧ Below w.heap.size w w' := by
  have hL0 : GL w w [] := GL.start w
  replace hL0 := ((hL0.new rfl [.int .u64 ((zl n : Nat) : Int), .string (zh n), .bool (zs n), .int .u64 ((lo e : Nat) : Int), .string (hs e)] 35).new (K := w.heap.size + 1) (szA _ _) [.int .u64 0, .string ⟨#[]⟩, .bool false, .int .u64 0, .string ⟨#[]⟩] 35)
  generalize hweq : ((w.alloc (.cells #[.int .u64 ((zl n : Nat) : Int), .string (zh n), .bool (zs n), .int .u64 ((lo e : Nat) : Int), .string (hs e)] 35)).alloc (.cells #[.int .u64 0, .string ⟨#[]⟩, .bool false, .int .u64 0, .string ⟨#[]⟩] 35)) = x1 at hL0
  go_enter Tryz.func33, Tryz.ntmps33
  have hA := hL0.fc
  simp only [fcG, cellsF, neK, and_true, ne_eq, Nat.zero_add, Nat.reduceAdd] at hA
  have hP := hL0.put 0 (w.heap.size + 1) _ rfl [.int .u64 0, .string ⟨#[]⟩, .bool false, .int .u64 0, .string ⟨#[]⟩] rfl
  simp only [setAll, List.set_cons_zero, List.set_cons_succ] at hP
  generalize hput1 : (((((x1.setCell ⟨w.heap.size + 1, 0, none⟩ (.int .u64 0)).setCell ⟨w.heap.size + 1, 1, none⟩ (.string ⟨#[]⟩)).setCell ⟨w.heap.size + 1, 2, none⟩ (.bool false)).setCell ⟨w.heap.size + 1, 3, none⟩ (.int .u64 0)).setCell ⟨w.heap.size + 1, 4, none⟩ (.string ⟨#[]⟩)) = x2 at hP
  have hB1 := hP.fc
  simp only [fcG, cellsF, neK, and_true, ne_eq, Nat.zero_add, Nat.reduceAdd] at hB1
  replace hL0 := hP
  go_wp2_with fail
  exact bodyPost_ret (v := .tuple #[.agg #[.int .u64 0, .string ⟨#[]⟩, .bool false, .int .u64 0, .string ⟨#[]⟩], .int .i64 1]) (by simp [results, Tryz.results33, go_sem, hB1]) rfl ⟨rfl, hL0.bl⟩

set_option maxHeartbeats 4000000 in
set_option maxRecDepth 100000 in
theorem fpow_pos (n m c : Int) (e f : Nat) (k : Int) (HP : ∀ w, Calls Tryz.prog 94 #[.agg #[.int .u64 ((zl n : Nat) : Int), .string (zh n), .bool (zs n), .int .u64 ((lo e : Nat) : Int), .string (hs e)], .int .i64 k] w fun xe w' => xe = .returned (.tuple #[.agg #[.int .u64 ((zl m : Nat) : Int), .string (zh m), .bool (zs m), .int .u64 ((lo f : Nat) : Int), .string (hs f)], .int .i64 c]) ∧ Below w.heap.size w w') (hk : decide (k < -4096) = false) (hl : decide (4096 < k) = false) (h0 : decide (0 ≤ k) = true) (w : World) :
    Calls Tryz.prog 33 #[.agg #[.int .u64 ((zl n : Nat) : Int), .string (zh n), .bool (zs n), .int .u64 ((lo e : Nat) : Int), .string (hs e)], .int .i64 k] w fun xe w' => xe = .returned (.tuple #[.agg #[.int .u64 ((zl m : Nat) : Int), .string (zh m), .bool (zs m), .int .u64 ((lo f : Nat) : Int), .string (hs f)], .int .i64 c]) ∧ Below w.heap.size w w' := by
  have hL0 : GL w w [] := GL.start w
  replace HP := Lib.hid HP
  replace hL0 := ((hL0.new rfl [.int .u64 ((zl n : Nat) : Int), .string (zh n), .bool (zs n), .int .u64 ((lo e : Nat) : Int), .string (hs e)] 35).new (K := w.heap.size + 1) (szA _ _) [.int .u64 0, .string ⟨#[]⟩, .bool false, .int .u64 0, .string ⟨#[]⟩] 35)
  generalize hweq : ((w.alloc (.cells #[.int .u64 ((zl n : Nat) : Int), .string (zh n), .bool (zs n), .int .u64 ((lo e : Nat) : Int), .string (hs e)] 35)).alloc (.cells #[.int .u64 0, .string ⟨#[]⟩, .bool false, .int .u64 0, .string ⟨#[]⟩] 35)) = x1 at hL0
  go_enter Tryz.func33, Tryz.ntmps33
  have hN0 := cells_of _ 0 [] rfl (hL0.get _ _ (List.mem_cons_of_mem _ List.mem_cons_self))
  simp only [cellsF, and_true, Nat.zero_add, Nat.reduceAdd] at hN0
  go_wp2_with fail
  clear hN0
  with_reducible refine Calls.mono (HP.out _) ?_
  rintro e x2 ⟨rfl, hb⟩
  replace hL0 := hL0.call hb
  clear hb hweq
  have hA := hL0.fc
  simp only [fcG, cellsF, neK, and_true, ne_eq, Nat.zero_add, Nat.reduceAdd] at hA
  have hP := hL0.put 0 (w.heap.size + 1) _ rfl [.int .u64 ((zl m : Nat) : Int), .string (zh m), .bool (zs m), .int .u64 ((lo f : Nat) : Int), .string (hs f)] rfl
  simp only [setAll, List.set_cons_zero, List.set_cons_succ] at hP
  generalize hput1 : (((((x2.setCell ⟨w.heap.size + 1, 0, none⟩ (.int .u64 ((zl m : Nat) : Int))).setCell ⟨w.heap.size + 1, 1, none⟩ (.string (zh m))).setCell ⟨w.heap.size + 1, 2, none⟩ (.bool (zs m))).setCell ⟨w.heap.size + 1, 3, none⟩ (.int .u64 ((lo f : Nat) : Int))).setCell ⟨w.heap.size + 1, 4, none⟩ (.string (hs f))) = x3 at hP
  have hB1 := hP.fc
  simp only [fcG, cellsF, neK, and_true, ne_eq, Nat.zero_add, Nat.reduceAdd] at hB1
  replace hL0 := hP
  go_wp2_with fail
  exact bodyPost_ret (v := .tuple #[.agg #[.int .u64 ((zl m : Nat) : Int), .string (zh m), .bool (zs m), .int .u64 ((lo f : Nat) : Int), .string (hs f)], .int .i64 c]) (by simp [results, Tryz.results33, go_sem, hB1]) rfl ⟨rfl, hL0.bl⟩

set_option maxHeartbeats 4000000 in
set_option maxRecDepth 100000 in
theorem fpow_zero (k : Int) (HI : ∀ w, Calls Tryz.prog 28 #[.int .i64 0] w fun xe w' => xe = .returned (.agg #[.int .u64 ((zl 0 : Nat) : Int), .string (zh 0), .bool (zs 0), .int .u64 ((lo 0 : Nat) : Int), .string (hs 0)]) ∧ Below w.heap.size w w') (hk : decide (k < -4096) = false) (hl : decide (4096 < k) = false) (h0 : decide (0 ≤ k) = false) (w : World) :
    Calls Tryz.prog 33 #[.agg #[.int .u64 ((zl 0 : Nat) : Int), .string (zh 0), .bool (zs 0), .int .u64 ((lo 0 : Nat) : Int), .string (hs 0)], .int .i64 k] w fun xe w' => xe = .returned (.tuple #[.agg #[.int .u64 0, .string ⟨#[]⟩, .bool false, .int .u64 0, .string ⟨#[]⟩], .int .i64 5]) ∧ Below w.heap.size w w' := by
  have hL0 : GL w w [] := GL.start w
  replace HI := Lib.hid HI
  replace hL0 := ((hL0.new rfl [.int .u64 ((zl 0 : Nat) : Int), .string (zh 0), .bool (zs 0), .int .u64 ((lo 0 : Nat) : Int), .string (hs 0)] 35).new (K := w.heap.size + 1) (szA _ _) [.int .u64 0, .string ⟨#[]⟩, .bool false, .int .u64 0, .string ⟨#[]⟩] 35)
  generalize hweq : ((w.alloc (.cells #[.int .u64 ((zl 0 : Nat) : Int), .string (zh 0), .bool (zs 0), .int .u64 ((lo 0 : Nat) : Int), .string (hs 0)] 35)).alloc (.cells #[.int .u64 0, .string ⟨#[]⟩, .bool false, .int .u64 0, .string ⟨#[]⟩] 35)) = x1 at hL0
  go_enter Tryz.func33, Tryz.ntmps33
  go_upto_region 5 with fail
  clear hweq
  obtain ⟨α, iα, F, hF1, hF2⟩ := cls x1
  have hq0 := cls_box hF1 hL0 _ _ (List.mem_cons_of_mem _ List.mem_cons_self)
  simp only [cellsC, and_true, Nat.zero_add, Nat.reduceAdd] at hq0
  refine region_qs 3 (C := fun w' => ∃ x, w' = F x) (by kernel_rfl) (by kernel_rfl) (cls_drew hF2) ?_
  simp only [List.take_succ_cons, List.take_zero, List.drop_succ_cons, List.drop_zero, List.take_nil, List.drop_nil]
  repeat (go_big_quiet_step (first | fail | (go_at_call 28; with_reducible exact cls_call hF1 hF2 HI.out _)))
  refine wpQuiet_nil ?_
  rintro wq ⟨xq, rfl⟩
  replace hL0 := hL0.call (hF1 xq)
  clear  hq0 hF2
  generalize F xq = x2 at hL0 ⊢
  clear hF1 xq iα F α
  have hA := hL0.fc
  simp only [fcG, cellsF, neK, and_true, ne_eq, Nat.zero_add, Nat.reduceAdd] at hA
  have hP := hL0.put 0 (w.heap.size + 1) _ rfl [.int .u64 0, .string ⟨#[]⟩, .bool false, .int .u64 0, .string ⟨#[]⟩] rfl
  simp only [setAll, List.set_cons_zero, List.set_cons_succ] at hP
  generalize hput1 : (((((x2.setCell ⟨w.heap.size + 1, 0, none⟩ (.int .u64 0)).setCell ⟨w.heap.size + 1, 1, none⟩ (.string ⟨#[]⟩)).setCell ⟨w.heap.size + 1, 2, none⟩ (.bool false)).setCell ⟨w.heap.size + 1, 3, none⟩ (.int .u64 0)).setCell ⟨w.heap.size + 1, 4, none⟩ (.string ⟨#[]⟩)) = x3 at hP
  have hB1 := hP.fc
  simp only [fcG, cellsF, neK, and_true, ne_eq, Nat.zero_add, Nat.reduceAdd] at hB1
  replace hL0 := hP
  go_wp2_with fail
  exact bodyPost_ret (v := .tuple #[.agg #[.int .u64 0, .string ⟨#[]⟩, .bool false, .int .u64 0, .string ⟨#[]⟩], .int .i64 5]) (by simp [results, Tryz.results33, go_sem, hB1]) rfl ⟨rfl, hL0.bl⟩

set_option maxHeartbeats 4000000 in
set_option maxRecDepth 100000 in
theorem fpow_neg (n x m c : Int) (e g f : Nat) (k l : Int) (HI : ∀ w, Calls Tryz.prog 28 #[.int .i64 0] w fun xe w' => xe = .returned (.agg #[.int .u64 ((zl 0 : Nat) : Int), .string (zh 0), .bool (zs 0), .int .u64 ((lo 0 : Nat) : Int), .string (hs 0)]) ∧ Below w.heap.size w w') (HV : ∀ w, Calls Tryz.prog 89 #[.agg #[.int .u64 ((zl n : Nat) : Int), .string (zh n), .bool (zs n), .int .u64 ((lo e : Nat) : Int), .string (hs e)]] w fun xe w' => xe = .returned (.agg #[.int .u64 ((zl x : Nat) : Int), .string (zh x), .bool (zs x), .int .u64 ((lo g : Nat) : Int), .string (hs g)]) ∧ Below w.heap.size w w') (HP : ∀ w, Calls Tryz.prog 94 #[.agg #[.int .u64 ((zl x : Nat) : Int), .string (zh x), .bool (zs x), .int .u64 ((lo g : Nat) : Int), .string (hs g)], .int .i64 l] w fun xe w' => xe = .returned (.tuple #[.agg #[.int .u64 ((zl m : Nat) : Int), .string (zh m), .bool (zs m), .int .u64 ((lo f : Nat) : Int), .string (hs f)], .int .i64 c]) ∧ Below w.heap.size w w') (hk : decide (k < -4096) = false) (hl : decide (4096 < k) = false) (h0 : decide (0 ≤ k) = false) (hw : IntKind.i64.wrap (-k) = l) (hn : n ≠ 0) (w : World) :
    Calls Tryz.prog 33 #[.agg #[.int .u64 ((zl n : Nat) : Int), .string (zh n), .bool (zs n), .int .u64 ((lo e : Nat) : Int), .string (hs e)], .int .i64 k] w fun xe w' => xe = .returned (.tuple #[.agg #[.int .u64 ((zl m : Nat) : Int), .string (zh m), .bool (zs m), .int .u64 ((lo f : Nat) : Int), .string (hs f)], .int .i64 c]) ∧ Below w.heap.size w w' := by
  have hL0 : GL w w [] := GL.start w
  replace HI := Lib.hid HI
  replace HV := Lib.hid HV
  replace HP := Lib.hid HP
  have hz := ne_int hn
  clear hn
  rcases hz with e0 | ⟨e0, e1⟩ | ⟨e0, e1, e2⟩
  all_goals (
    replace hL0 := ((hL0.new rfl [.int .u64 ((zl n : Nat) : Int), .string (zh n), .bool (zs n), .int .u64 ((lo e : Nat) : Int), .string (hs e)] 35).new (K := w.heap.size + 1) (szA _ _) [.int .u64 0, .string ⟨#[]⟩, .bool false, .int .u64 0, .string ⟨#[]⟩] 35)
    generalize hweq : ((w.alloc (.cells #[.int .u64 ((zl n : Nat) : Int), .string (zh n), .bool (zs n), .int .u64 ((lo e : Nat) : Int), .string (hs e)] 35)).alloc (.cells #[.int .u64 0, .string ⟨#[]⟩, .bool false, .int .u64 0, .string ⟨#[]⟩] 35)) = x1 at hL0
    go_enter Tryz.func33, Tryz.ntmps33
    go_upto_region 5 with fail
    clear hweq
    obtain ⟨α, iα, F, hF1, hF2⟩ := cls x1
    have hq0 := cls_box hF1 hL0 _ _ (List.mem_cons_of_mem _ List.mem_cons_self)
    simp only [cellsC, and_true, Nat.zero_add, Nat.reduceAdd] at hq0
    refine region_qs 3 (C := fun w' => ∃ x, w' = F x) (by kernel_rfl) (by kernel_rfl) (cls_drew hF2) ?_
    simp only [List.take_succ_cons, List.take_zero, List.drop_succ_cons, List.drop_zero, List.take_nil, List.drop_nil]
    repeat (go_big_quiet_step (first | fail | (go_at_call 28; with_reducible exact cls_call hF1 hF2 HI.out _)))
    refine wpQuiet_nil ?_
    rintro wq ⟨xq, rfl⟩
    replace hL0 := hL0.call (hF1 xq)
    clear  hq0 hF2
    generalize F xq = x2 at hL0 ⊢
    clear hF1 xq iα F α
    have hN0 := cells_of _ 0 [] rfl (hL0.get _ _ (List.mem_cons_of_mem _ List.mem_cons_self))
    simp only [cellsF, and_true, Nat.zero_add, Nat.reduceAdd] at hN0
    go_wp2_with fail
    clear hN0
    with_reducible refine Calls.mono (HV.out _) ?_
    rintro e x3 ⟨rfl, hb⟩
    replace hL0 := hL0.call hb
    clear hb
    go_wp2_with fail
    with_reducible refine Calls.mono (HP.out _) ?_
    rintro e x4 ⟨rfl, hb⟩
    replace hL0 := hL0.call hb
    clear hb
    have hA := hL0.fc
    simp only [fcG, cellsF, neK, and_true, ne_eq, Nat.zero_add, Nat.reduceAdd] at hA
    have hP := hL0.put 0 (w.heap.size + 1) _ rfl [.int .u64 ((zl m : Nat) : Int), .string (zh m), .bool (zs m), .int .u64 ((lo f : Nat) : Int), .string (hs f)] rfl
    simp only [setAll, List.set_cons_zero, List.set_cons_succ] at hP
    generalize hput1 : (((((x4.setCell ⟨w.heap.size + 1, 0, none⟩ (.int .u64 ((zl m : Nat) : Int))).setCell ⟨w.heap.size + 1, 1, none⟩ (.string (zh m))).setCell ⟨w.heap.size + 1, 2, none⟩ (.bool (zs m))).setCell ⟨w.heap.size + 1, 3, none⟩ (.int .u64 ((lo f : Nat) : Int))).setCell ⟨w.heap.size + 1, 4, none⟩ (.string (hs f))) = x5 at hP
    have hB1 := hP.fc
    simp only [fcG, cellsF, neK, and_true, ne_eq, Nat.zero_add, Nat.reduceAdd] at hB1
    replace hL0 := hP
    go_wp2_with fail
    exact bodyPost_ret (v := .tuple #[.agg #[.int .u64 ((zl m : Nat) : Int), .string (zh m), .bool (zs m), .int .u64 ((lo f : Nat) : Int), .string (hs f)], .int .i64 c]) (by simp [results, Tryz.results33, go_sem, hB1]) rfl ⟨rfl, hL0.bl⟩)

set_option maxHeartbeats 4000000 in
set_option maxRecDepth 100000 in
theorem ftext_whole (n : Int) (s : ByteArray) (HW : ∀ w, Calls Tryz.prog 42 #[.agg #[.int .u64 ((zl n : Nat) : Int), .string (zh n), .bool (zs n), .int .u64 ((lo 0 : Nat) : Int), .string (hs 0)]] w fun xe w' => xe = .returned (.bool true) ∧ Below w.heap.size w w') (HT : ∀ w, Tab w → Calls Tryz.prog 15 #[.agg #[.int .u64 ((zl n : Nat) : Int), .string (zh n), .bool (zs n)]] w fun xe w' => xe = .returned (.string s) ∧ Below w.heap.size w w') (w : World) (htab : Tab w) :
    Calls Tryz.prog 9 #[.agg #[.int .u64 ((zl n : Nat) : Int), .string (zh n), .bool (zs n), .int .u64 ((lo 0 : Nat) : Int), .string (hs 0)]] w fun xe w' => xe = .returned (.string s) ∧ Below w.heap.size w w' := by
  have hL0 : GL w w [] := GL.start w
  replace HW := Lib.hid HW
  replace HT := Lib.hid HT
  replace hL0 := (hL0.new rfl [.int .u64 ((zl n : Nat) : Int), .string (zh n), .bool (zs n), .int .u64 ((lo 0 : Nat) : Int), .string (hs 0)] 35)
  generalize hweq : (w.alloc (.cells #[.int .u64 ((zl n : Nat) : Int), .string (zh n), .bool (zs n), .int .u64 ((lo 0 : Nat) : Int), .string (hs 0)] 35)) = x1 at hL0
  go_enter Tryz.func9, Tryz.ntmps9
  have hN0 := cells_of _ 0 [] rfl (hL0.get _ _ List.mem_cons_self)
  simp only [cellsF, and_true, Nat.zero_add, Nat.reduceAdd] at hN0
  go_wp2_with fail
  clear hN0
  with_reducible refine Calls.mono (HW.out _) ?_
  rintro e x2 ⟨rfl, hb⟩
  replace hL0 := hL0.call hb
  clear hb hweq
  have hN0 := cells_of _ 0 [] rfl (hL0.get _ _ List.mem_cons_self)
  simp only [cellsF, and_true, Nat.zero_add, Nat.reduceAdd] at hN0
  go_wp2_with fail
  clear hN0
  with_reducible refine Calls.mono (HT.out _ (htab.below hL0.bl)) ?_
  rintro e x3 ⟨rfl, hb⟩
  replace hL0 := hL0.call hb
  clear hb
  go_wp2_with fail
  exact bodyPost_ret (v := .string s) (by simp [results, Tryz.results9, go_sem]) rfl ⟨rfl, hL0.bl⟩

set_option maxHeartbeats 4000000 in
set_option maxRecDepth 100000 in
theorem ftext_part (n : Int) (e : Nat) (s t : ByteArray) (HW : ∀ w, Calls Tryz.prog 42 #[.agg #[.int .u64 ((zl n : Nat) : Int), .string (zh n), .bool (zs n), .int .u64 ((lo e : Nat) : Int), .string (hs e)]] w fun xe w' => xe = .returned (.bool false) ∧ Below w.heap.size w w') (HT : ∀ w, Tab w → Calls Tryz.prog 15 #[.agg #[.int .u64 ((zl n : Nat) : Int), .string (zh n), .bool (zs n)]] w fun xe w' => xe = .returned (.string s) ∧ Below w.heap.size w w') (HU : ∀ w, Tab w → Calls Tryz.prog 16 #[.agg #[.int .u64 ((lo e : Nat) : Int), .string (hs e)]] w fun xe w' => xe = .returned (.string t) ∧ Below w.heap.size w w') (h1 : ((s.size : Nat) : Int) ≤ 20000000) (h2 : ((t.size : Nat) : Int) ≤ 20000000) (w : World) (htab : Tab w) :
    Calls Tryz.prog 9 #[.agg #[.int .u64 ((zl n : Nat) : Int), .string (zh n), .bool (zs n), .int .u64 ((lo e : Nat) : Int), .string (hs e)]] w fun xe w' => xe = .returned (.string ((s ++ ByteArray.mk #[47]) ++ t)) ∧ Below w.heap.size w w' := by
  have hL0 : GL w w [] := GL.start w
  replace HW := Lib.hid HW
  replace HT := Lib.hid HT
  replace HU := Lib.hid HU
  replace hL0 := (hL0.new rfl [.int .u64 ((zl n : Nat) : Int), .string (zh n), .bool (zs n), .int .u64 ((lo e : Nat) : Int), .string (hs e)] 35)
  generalize hweq : (w.alloc (.cells #[.int .u64 ((zl n : Nat) : Int), .string (zh n), .bool (zs n), .int .u64 ((lo e : Nat) : Int), .string (hs e)] 35)) = x1 at hL0
  go_enter Tryz.func9, Tryz.ntmps9
  have hN0 := cells_of _ 0 [] rfl (hL0.get _ _ List.mem_cons_self)
  simp only [cellsF, and_true, Nat.zero_add, Nat.reduceAdd] at hN0
  go_wp2_with fail
  clear hN0
  with_reducible refine Calls.mono (HW.out _) ?_
  rintro e x2 ⟨rfl, hb⟩
  replace hL0 := hL0.call hb
  clear hb hweq
  go_upto_region 3 with fail
  have ht := htab.below hL0.bl
  obtain ⟨α, iα, F, hF1, hF2⟩ := cls x2
  have hq0 := cls_box hF1 hL0 _ _ List.mem_cons_self
  simp only [cellsC, and_true, Nat.zero_add, Nat.reduceAdd] at hq0
  refine region_qs 9 (C := fun w' => ∃ x, w' = F x) (by kernel_rfl) (by kernel_rfl) (cls_drew hF2) ?_
  simp only [List.take_succ_cons, List.take_zero, List.drop_succ_cons, List.drop_zero, List.take_nil, List.drop_nil]
  repeat (go_big_quiet_step (first | fail | (go_at_call 15; with_reducible exact cls_callT hF1 hF2 ht HT.out _) | (go_at_call 16; with_reducible exact cls_callT hF1 hF2 ht HU.out _)))
  refine wpQuiet_nil ?_
  rintro wq ⟨xq, rfl⟩
  replace hL0 := hL0.call (hF1 xq)
  clear  hq0 hF2
  generalize F xq = x3 at hL0 ⊢
  clear hF1 xq iα F α
  clear ht
  go_wp2_with fail
  exact bodyPost_ret (v := .string ((s ++ ByteArray.mk #[47]) ++ t)) (by simp [results, Tryz.results9, go_sem]) rfl ⟨rfl, hL0.bl⟩

end Go.Proofs.YtecdnohhengfaabGreatDoor

/-
  Layer 3: the contracts of the parts, in Lean's Rat.
-/
namespace Go.Proofs.YtecdnohhengfaabGreatDoor
open Go.RowKit
attribute [local irreducible] lo hs sm s64 c64 d64 b64 mh ml pd pc qd qc val hiB str cmpI srD lz nb isq decB zl zh zs

theorem fe_den (q : Rat) : q.den = if fe q = 0 then 1 else fe q := by
  unfold fe
  have := q.den_nz
  split <;> simp_all
theorem frV_z (n : Int) : frV n 0 = .agg #[.int .u64 ((zl n : Nat) : Int), .string (zh n), .bool (zs n), .int .u64 0, .string ⟨#[]⟩] := by unfold frV; rw [lo_small Bs_pos, hs_small Bs_pos]; rfl
theorem fracV_int (z : Int) : fracV (z : Rat) = frV z 0 := rfl
theorem fracV_of {q : Rat} {n : Int} {d : Nat} (hn : q.num = n) (hd : q.den = d) : fracV q = frV n (if d = 1 then 0 else d) := by subst hn hd; rfl
theorem one_o (w : World) : Calls Tryz.prog 14 #[.int .u64 1] w fun e w' => e = .returned (natV 1) ∧ Below w.heap.size w w' := of_val 1 1 rfl (by unfold Bs; omega) w
theorem zero_o (w : World) : Calls Tryz.prog 14 #[.int .u64 0] w fun e w' => e = .returned (natV 0) ∧ Below w.heap.size w w' := of_val 0 0 rfl (by unfold Bs; omega) w
theorem dec_sgn (z : Int) : decide (sgn z < 0) = decide (z < 0) := by
  have : sgn z < 0 ↔ z < 0 := by unfold sgn; split <;> (try split) <;> omega
  simp only [this]

theorem whole_raw (n : Int) (e : Nat) (w : World) : Calls Tryz.prog 42 #[frV n e] w fun x w' => x = .returned (.bool (decide (e = 0))) ∧ Below w.heap.size w w' := by
  by_cases h : e = 0
  · subst h; rw [decide_eq_true rfl]; exact whole_yes n w
  · rw [decide_eq_false h]; exact whole_no n e h w
theorem den_raw (n : Int) (e : Nat) (w : World) : Calls Tryz.prog 75 #[frV n e] w fun x w' => x = .returned (natV (if e = 0 then 1 else e)) ∧ Below w.heap.size w w' := by
  by_cases h : e = 0
  · subst h; rw [if_pos rfl]; exact den_one_w n (whole_yes n) one_o w
  · rw [if_neg h]; exact den_part_w n e (whole_no n e h) w
theorem wholeF (q : Rat) (w : World) : Calls Tryz.prog 42 #[fracV q] w fun x w' => x = .returned (.bool (decide (q.den = 1))) ∧ Below w.heap.size w w' := by
  have h := whole_raw q.num (fe q) w
  have e : (fe q = 0) = (q.den = 1) := by
    unfold fe
    have := q.den_nz
    split <;> simp_all
  rw [decide_eq_decide.2 (Iff.of_eq e)] at h
  exact h
theorem denF (q : Rat) (w : World) : Calls Tryz.prog 75 #[fracV q] w fun x w' => x = .returned (natV q.den) ∧ Below w.heap.size w w' := by
  have h := den_raw q.num (fe q) w
  rw [← fe_den] at h
  exact h
theorem numF (q : Rat) (w : World) : Calls Tryz.prog 74 #[fracV q] w fun x w' => x = .returned (intV q.num) ∧ Below w.heap.size w w' := num_w q.num (fe q) w
theorem lowest_raw (n : Int) (d : Nat) (w : World) : Calls Tryz.prog 40 #[intV n, natV d] w fun x w' => x = .returned (frV n (if d = 1 then 0 else d)) ∧ Below w.heap.size w w' := by
  by_cases h : d = 1
  · subst h; rw [if_pos rfl, frV_z]; exact lowest_one n one_o w
  · rw [if_neg h]; exact lowest_part n d one_o h w
theorem lowestF {q : Rat} {n : Int} {d : Nat} (hn : q.num = n) (hd : q.den = d) (w : World) : Calls Tryz.prog 40 #[intV n, natV d] w fun x w' => x = .returned (fracV q) ∧ Below w.heap.size w w' := by
  rw [fracV_of hn hd]; exact lowest_raw n d w
theorem pon_raw (n g : Nat) (hg : g ≠ 0) (hn : (digs n).length ≤ 100000000) (w : World) : Calls Tryz.prog 142 #[natV n, natV g] w fun x w' => x = .returned (natV (n / g)) ∧ Below w.heap.size w w' := by
  by_cases h : g = 1
  · subst h; rw [Nat.div_one]; exact pon_one n one_o w
  · exact pon_div n g (n / g) (n % g) one_o (fun w => div_pos n g (by omega) (by omega) w) h w
theorem tdiv_sgn (z : Int) (g : Nat) : z.tdiv (g : Int) = if decide (z < 0) then -((z.natAbs / g : Nat) : Int) else ((z.natAbs / g : Nat) : Int) := by
  by_cases h : z < 0
  · obtain ⟨n, rfl⟩ : ∃ n : Nat, z = -(n : Int) := ⟨z.natAbs, by omega⟩
    rw [decide_eq_true h, if_pos rfl, Int.natAbs_neg, Int.natAbs_natCast, Int.neg_tdiv, ← Int.ofNat_tdiv]
  · obtain ⟨n, rfl⟩ : ∃ n : Nat, z = (n : Int) := ⟨z.natAbs, by omega⟩
    rw [decide_eq_false h, Int.natAbs_natCast, ← Int.ofNat_tdiv]; rfl
theorem part_raw (z : Int) (g : Nat) (hg : g ≠ 0) (hz : dI z ≤ 100000000) (w : World) : Calls Tryz.prog 146 #[intV z, natV g] w fun x w' => x = .returned (intV (z.tdiv g)) ∧ Below w.heap.size w w' := by
  have hF := fun w => fromI (decide (z < 0)) (z.natAbs / g) (z.tdiv g) (tdiv_sgn z g) w
  have hs := dec_sgn z
  by_cases h : z < 0
  · rw [decide_eq_true h] at hF hs
    exact part_true z (sgn z) _ _ g _ (signI z) (absI z) (pon_raw _ g hg hz) hF hs w
  · rw [decide_eq_false h] at hF hs
    exact part_false z (sgn z) _ _ g _ (signI z) (absI z) (pon_raw _ g hg hz) hF hs w
theorem cancel_raw (z : Int) (d : Nat) (hd : d ≠ 0) (hz : dI z ≤ 100000000) (hl : (digs d).length ≤ 100000000) (w : World) :
    Calls Tryz.prog 93 #[intV z, natV d] w fun x w' => x = .returned (.tuple #[intV (z.tdiv (Nat.gcd z.natAbs d : Nat)), natV (d / Nat.gcd z.natAbs d)]) ∧ Below w.heap.size w w' := by
  have hg : Nat.gcd z.natAbs d ≠ 0 := fun e => hd (Nat.gcd_eq_zero_iff.1 e).2
  exact cancel_w z _ _ d _ _ (absI z) (fun w => gcd_any z.natAbs d (Nat.le_trans hz (by omega)) (by omega) w) (part_raw z _ hg hz) (pon_raw d _ hg hl) w
theorem times_raw (z : Int) (d : Nat) (hz : dI z ≤ 100000000) (hd : (digs d).length ≤ 100000000) (w : World) : Calls Tryz.prog 124 #[intV z, natV d] w fun x w' => x = .returned (intV (z * (d : Int))) ∧ Below w.heap.size w w' := by
  by_cases h : d = 1
  · subst h; rw [show z * ((1 : Nat) : Int) = z by omega]; exact times_one z one_o w
  · exact times_mul z (d : Int) _ d one_o (fun w => fromI false d (d : Int) rfl w) (fun w => mulI z (d : Int) (by omega) (by rw [dI_nat]; omega) w) h w
theorem intF (k : Int) (h1 : -9223372036854775808 ≤ k) (h2 : k < 9223372036854775808) (w : World) : Calls Tryz.prog 28 #[.int .i64 k] w fun x w' => x = .returned (fracV (k : Rat)) ∧ Below w.heap.size w w' := by
  rw [fracV_int, frV_z]; exact int_w k k (fun w => ofI k h1 h2 w) w
theorem from0F (n : Int) (w : World) : Calls Tryz.prog 37 #[intV n, natV 0] w fun x w' => x = .returned (.tuple #[fracV 0, .int .i64 5]) ∧ Below w.heap.size w w' := by
  rw [show fracV 0 = frV 0 0 from rfl, frV_z, (z0).1, (z0).2.1, (z0).2.2]; exact ffrom_zero n zero_o w
theorem fromF (z : Int) (d : Nat) (hd : d ≠ 0) (hz : dI z ≤ 100000000) (hl : (digs d).length ≤ 100000000) (w : World) : Calls Tryz.prog 37 #[intV z, natV d] w fun x w' => x = .returned (.tuple #[fracV (mkRat z d), .int .i64 0]) ∧ Below w.heap.size w w' := by
  obtain ⟨h1, h2⟩ := canc (z := z) hd
  exact ffrom_w z _ _ d _ _ zero_o (cancel_raw z d hd hz hl) (fun w => lowestF h1 h2 w) hd w
end Go.Proofs.YtecdnohhengfaabGreatDoor

/-
  Layer 3: the contracts of the operations, in Lean's Rat.
-/
namespace Go.Proofs.YtecdnohhengfaabGreatDoor
open Go.RowKit
attribute [local irreducible] lo hs sm s64 c64 d64 b64 mh ml pd pc qd qc val hiB str cmpI srD lz nb isq decB zl zh zs

theorem fracV_neg (q : Rat) : fracV (-q) = frV (-q.num) (fe q) := rfl
theorem negF (q : Rat) (w : World) : Calls Tryz.prog 65 #[fracV q] w fun x w' => x = .returned (fracV (-q)) ∧ Below w.heap.size w w' := fneg_w q.num (-q.num) (fe q) (fun w => negI q.num w) w
/-- The absolute value. -/
def absQ (q : Rat) : Rat := if q < 0 then -q else q
theorem num_neg_iff (q : Rat) : q.num < 0 ↔ q < 0 := by rw [← Rat.not_le, ← Rat.num_nonneg]; omega
theorem absQ_num (q : Rat) : (absQ q).num = (q.num.natAbs : Int) ∧ fe (absQ q) = fe q := by
  unfold absQ
  have := num_neg_iff q
  split
  · rename_i h
    have h1 := this.2 h
    exact ⟨by rw [Rat.neg_num]; omega, rfl⟩
  · rename_i h
    have h1 := mt this.1 h
    exact ⟨by omega, rfl⟩
theorem absF (q : Rat) (w : World) : Calls Tryz.prog 67 #[fracV q] w fun x w' => x = .returned (fracV (absQ q)) ∧ Below w.heap.size w w' := by
  rw [show fracV (absQ q) = frV (absQ q).num (fe (absQ q)) from rfl, (absQ_num q).1, (absQ_num q).2]
  exact fabs_w q.num (q.num.natAbs : Int) _ (fe q) (fun w => absI q.num w) (fun w => fromI false _ _ rfl w) w
theorem signF (q : Rat) (w : World) : Calls Tryz.prog 69 #[fracV q] w fun x w' => x = .returned (.int .i64 (sgnQ q)) ∧ Below w.heap.size w w' := by
  rw [sgnQ_num]; exact fsign_w q.num (sgn q.num) (fe q) (fun w => signI q.num w) w
theorem floorF (q : Rat) (k : Nat) (hq : Sz q k) (hk : k ≤ 100000000) (w : World) : Calls Tryz.prog 34 #[fracV q] w fun x w' => x = .returned (intV q.floor) ∧ Below w.heap.size w w' := by
  rw [rfloor]
  exact floor_w q.num (q.den : Int) _ (q.num % (q.den : Int)) (fe q) q.den (denF q) (fun w => fromI false q.den _ rfl w) (fun w => divI q.num (q.den : Int) (by have := q.den_nz; omega) (Nat.le_trans hq.1 (by omega)) (by rw [dI_nat]; exact Nat.le_trans hq.2 (by omega)) w) w
theorem ceilF (q : Rat) (k : Nat) (hq : Sz q k) (hk : k ≤ 100000000) (w : World) : Calls Tryz.prog 35 #[fracV q] w fun x w' => x = .returned (intV (rceil q)) ∧ Below w.heap.size w w' :=
  ceil_w q.num (-q.num) (-q).floor _ (fe q) (negF q) (floorF (-q) k hq.neg hk) (fun w => negI _ w) w
theorem cmpF (p q : Rat) (k : Nat) (hp : Sz p k) (hq : Sz q k) (hk : k ≤ 100000000) (w : World) : Calls Tryz.prog 70 #[fracV p, fracV q] w fun x w' => x = .returned (.int .i64 (cmpQ p q)) ∧ Below w.heap.size w w' := by
  rw [cmpQ_parts]
  exact fcmp_w p.num q.num _ _ _ (fe p) (fe q) p.den q.den (denF p) (denF q) (times_raw p.num q.den (Nat.le_trans hp.1 hk) (Nat.le_trans hq.2 hk)) (times_raw q.num p.den (Nat.le_trans hq.1 hk) (Nat.le_trans hp.2 hk)) (fun w => cmpII _ _ w) w
theorem squareF (q : Rat) (k : Nat) (hq : Sz q k) (hk : k ≤ 100000000) (w : World) : Calls Tryz.prog 73 #[fracV q] w fun x w' => x = .returned (fracV (q * q)) ∧ Below w.heap.size w w' := by
  obtain ⟨h1, h2⟩ := rsq_parts q
  exact fsquare_w q.num _ _ (fe q) q.den _ _ (fun w => mulI q.num q.num (Nat.le_trans hq.1 (by omega)) (Nat.le_trans hq.1 (by omega)) w) (denF q) (fun w => mul_any q.den q.den (Nat.le_trans hq.2 (by omega)) (Nat.le_trans hq.2 (by omega)) w) (fun w => lowestF h1 h2 w) w
theorem invF (q : Rat) (h0 : q ≠ 0) (w : World) : Calls Tryz.prog 89 #[fracV q] w fun x w' => x = .returned (fracV q⁻¹) ∧ Below w.heap.size w w' := by
  obtain ⟨h1, h2⟩ := rinv_parts h0
  have hs : decide (sgnQ q < 0) = decide (q.num < 0) := by
    have : sgnQ q < 0 ↔ q.num < 0 := by rw [sgnQ_num]; split <;> (try split) <;> omega
    simp only [this]
  have hF := fun w => fromI (decide (q.num < 0)) q.den (if q.num < 0 then -(q.den : Int) else (q.den : Int)) (by by_cases h : q.num < 0 <;> simp [h]) w
  by_cases h : q.num < 0
  · rw [decide_eq_true h] at hs hF
    exact finv_true q.num _ _ _ (fe q) q.den _ _ (signF q) (denF q) hF (fun w => absI q.num w) (fun w => lowestF h1 h2 w) hs w
  · rw [decide_eq_false h] at hs hF
    exact finv_false q.num _ _ _ (fe q) q.den _ _ (signF q) (denF q) hF (fun w => absI q.num w) (fun w => lowestF h1 h2 w) hs w
theorem tdiv_dI {z : Int} {g k : Nat} (h : dI z ≤ k) : dI (z.tdiv (g : Int)) ≤ k := by
  refine Nat.le_trans (dI_mono ?_) h
  rw [Int.natAbs_tdiv]; exact Nat.div_le_self _ _
theorem ndiv_digs {n g k : Nat} (h : (digs n).length ≤ k) : (digs (n / g)).length ≤ k := Nat.le_trans (digs_mono (Nat.div_le_self _ _)) h
theorem mulF (p q : Rat) (k : Nat) (hp : Sz p k) (hq : Sz q k) (hk : k ≤ 100000000) (w : World) : Calls Tryz.prog 32 #[fracV p, fracV q] w fun x w' => x = .returned (fracV (p * q)) ∧ Below w.heap.size w w' := by
  obtain ⟨h1, h2⟩ := rmul_parts p q
  rw [Nat.mul_comm] at h2
  exact fmul_w p.num q.num _ _ _ _ (fe p) (fe q) p.den q.den _ _ _ _ (denF p) (denF q) (cancel_raw p.num q.den q.den_nz (Nat.le_trans hp.1 hk) (Nat.le_trans hq.2 hk)) (cancel_raw q.num p.den p.den_nz (Nat.le_trans hq.1 hk) (Nat.le_trans hp.2 hk))
    (fun w => mulI _ _ (Nat.le_trans (tdiv_dI hp.1) (by omega)) (Nat.le_trans (tdiv_dI hq.1) (by omega)) w) (fun w => mul_any _ _ (Nat.le_trans (ndiv_digs hp.2) (by omega)) (Nat.le_trans (ndiv_digs hq.2) (by omega)) w) (fun w => lowestF h1 h2 w) w
theorem zero_i (w : World) : Calls Tryz.prog 28 #[.int .i64 0] w fun x w' => x = .returned (frV 0 0) ∧ Below w.heap.size w w' := intF 0 (by decide) (by decide) w
theorem frV_00 : frV 0 0 = .agg #[.int .u64 0, .string ⟨#[]⟩, .bool false, .int .u64 0, .string ⟨#[]⟩] := by
  rw [frV_z, (z0).1, (z0).2.1, (z0).2.2]; rfl
theorem num_ne {q : Rat} (h : q ≠ 0) : q.num ≠ 0 := fun e => h (Rat.num_eq_zero.1 e)
theorem div0F (p : Rat) (w : World) : Calls Tryz.prog 27 #[fracV p, fracV 0] w fun x w' => x = .returned (.tuple #[fracV 0, .int .i64 5]) ∧ Below w.heap.size w w' := by
  have h := fdiv_zero p.num (fe p) zero_i w
  rw [← frV_00] at h
  exact h
theorem divF (p q : Rat) (k : Nat) (hp : Sz p k) (hq : Sz q k) (hk : k ≤ 100000000) (h0 : q ≠ 0) (w : World) : Calls Tryz.prog 27 #[fracV p, fracV q] w fun x w' => x = .returned (.tuple #[fracV (p / q), .int .i64 0]) ∧ Below w.heap.size w w' := by
  rw [Rat.div_def]
  exact fdiv_w p.num q.num _ _ (fe p) (fe q) _ _ zero_i (invF q h0) (mulF p q⁻¹ k hp (hq.inv h0) hk) (num_ne h0) w
theorem addF (p q : Rat) (k : Nat) (hp : Sz p k) (hq : Sz q k) (hk : k ≤ 10000000) (w : World) : Calls Tryz.prog 30 #[fracV p, fracV q] w fun x w' => x = .returned (fracV (p + q)) ∧ Below w.heap.size w w' := by
  obtain ⟨h1, h2⟩ := radd_parts p q
  have hg : Nat.gcd p.den q.den ≠ 0 := fun e => p.den_nz (Nat.gcd_eq_zero_iff.1 e).1
  have l1 : (digs (p.den / Nat.gcd p.den q.den)).length ≤ k := ndiv_digs hp.2
  have l2 : (digs (q.den / Nat.gcd p.den q.den)).length ≤ k := ndiv_digs hq.2
  have l3 : (digs (Nat.gcd p.den q.den)).length ≤ k := Nat.le_trans (digs_mono (Nat.gcd_le_left _ p.den_pos)) hp.2
  have lx : dI (p.num * ((q.den / Nat.gcd p.den q.den : Nat) : Int)) ≤ k + k := dI_mul hp.1 (by rw [dI_nat]; exact l2)
  have ly : dI (q.num * ((p.den / Nat.gcd p.den q.den : Nat) : Int)) ≤ k + k := dI_mul hq.1 (by rw [dI_nat]; exact l1)
  have ls := dI_add lx ly
  refine fadd_w p.num q.num _ (fe p) (fe q) _ ?_ w
  exact fcombine_add p.num q.num _ _ _ _ _ (fe p) (fe q) p.den q.den _ _ _ _ _ _ _ (denF p) (denF q) (fun w => gcd_any _ _ (Nat.le_trans hp.2 (by omega)) (Nat.le_trans hq.2 (by omega)) w)
    (pon_raw _ _ hg (Nat.le_trans hp.2 (by omega))) (pon_raw _ _ hg (Nat.le_trans hq.2 (by omega))) (times_raw _ _ (Nat.le_trans hp.1 (by omega)) (by omega)) (times_raw _ _ (Nat.le_trans hq.1 (by omega)) (by omega))
    (fun w => addI _ _ (by omega) (by omega) w) (cancel_raw _ _ hg (by omega) (by omega)) (fun w => mul_any _ _ (by omega) (by omega) w)
    (fun w => mul_any _ _ (Nat.le_trans (digs_mul_le l1 l2) (by omega)) (Nat.le_trans (ndiv_digs l3) (by omega)) w) (fun w => lowestF h1 h2 w)
theorem subF (p q : Rat) (k : Nat) (hp : Sz p k) (hq : Sz q k) (hk : k ≤ 10000000) (w : World) : Calls Tryz.prog 31 #[fracV p, fracV q] w fun x w' => x = .returned (fracV (p - q)) ∧ Below w.heap.size w w' := by
  have hp' := radd_parts p (-q)
  rw [← Rat.sub_eq_add_neg, Rat.neg_num, Rat.neg_den, Int.neg_mul, ← Int.sub_eq_add_neg] at hp'
  obtain ⟨h1, h2⟩ := hp'
  have hg : Nat.gcd p.den q.den ≠ 0 := fun e => p.den_nz (Nat.gcd_eq_zero_iff.1 e).1
  have l1 : (digs (p.den / Nat.gcd p.den q.den)).length ≤ k := ndiv_digs hp.2
  have l2 : (digs (q.den / Nat.gcd p.den q.den)).length ≤ k := ndiv_digs hq.2
  have l3 : (digs (Nat.gcd p.den q.den)).length ≤ k := Nat.le_trans (digs_mono (Nat.gcd_le_left _ p.den_pos)) hp.2
  have lx : dI (p.num * ((q.den / Nat.gcd p.den q.den : Nat) : Int)) ≤ k + k := dI_mul hp.1 (by rw [dI_nat]; exact l2)
  have ly : dI (q.num * ((p.den / Nat.gcd p.den q.den : Nat) : Int)) ≤ k + k := dI_mul hq.1 (by rw [dI_nat]; exact l1)
  have ls := dI_sub lx ly
  refine fsub_w p.num q.num _ (fe p) (fe q) _ ?_ w
  exact fcombine_sub p.num q.num _ _ _ _ _ (fe p) (fe q) p.den q.den _ _ _ _ _ _ _ (denF p) (denF q) (fun w => gcd_any _ _ (Nat.le_trans hp.2 (by omega)) (Nat.le_trans hq.2 (by omega)) w)
    (pon_raw _ _ hg (Nat.le_trans hp.2 (by omega))) (pon_raw _ _ hg (Nat.le_trans hq.2 (by omega))) (times_raw _ _ (Nat.le_trans hp.1 (by omega)) (by omega)) (times_raw _ _ (Nat.le_trans hq.1 (by omega)) (by omega))
    (fun w => subI _ _ (by omega) (by omega) w) (cancel_raw _ _ hg (by omega) (by omega)) (fun w => mul_any _ _ (by omega) (by omega) w)
    (fun w => mul_any _ _ (Nat.le_trans (digs_mul_le l1 l2) (by omega)) (Nat.le_trans (ndiv_digs l3) (by omega)) w) (fun w => lowestF h1 h2 w)
theorem of_val_q (n d : Int) (h0 : d ≠ 0) : mkRat (if d < 0 then -n else n) d.natAbs = (n : Rat) / (d : Rat) := by
  rw [Rat.mkRat_eq_div]
  by_cases h : d < 0
  · rw [if_pos h]
    have e : ((d.natAbs : Nat) : Rat) = -(d : Rat) := by
      rw [show ((d.natAbs : Nat) : Rat) = (((d.natAbs : Nat) : Int) : Rat) from (Rat.intCast_natCast _).symm, show ((d.natAbs : Nat) : Int) = -d by omega, Rat.intCast_neg]
    rw [e, Rat.intCast_neg]
    have hd : (d : Rat) ≠ 0 := by simpa using h0
    grind
  · rw [if_neg h, show ((d.natAbs : Nat) : Rat) = (((d.natAbs : Nat) : Int) : Rat) from (Rat.intCast_natCast _).symm, show ((d.natAbs : Nat) : Int) = d by omega]
theorem i64_dI {z : Int} (h1 : -9223372036854775808 ≤ z) (h2 : z < 9223372036854775808) : dI z ≤ 1 := digs_length_iff.2 (by unfold Bs; omega)
theorem ofF (n d : Int) (a1 : -9223372036854775808 ≤ n) (a2 : n < 9223372036854775808) (b1 : -9223372036854775808 ≤ d) (b2 : d < 9223372036854775808) (h0 : d ≠ 0) (w : World) :
    Calls Tryz.prog 26 #[.int .i64 n, .int .i64 d] w fun x w' => x = .returned (.tuple #[fracV ((n : Rat) / (d : Rat)), .int .i64 0]) ∧ Below w.heap.size w w' := by
  rw [← of_val_q n d h0]
  have hs := dec_sgn d
  have ln := i64_dI a1 a2
  have ld : (digs d.natAbs).length ≤ 1 := i64_dI b1 b2
  by_cases h : d < 0
  · rw [decide_eq_true h] at hs
    rw [if_pos h]
    exact fof_true n d (sgn d) (-n) _ n d _ _ 0 (fun w => ofI n a1 a2 w) (fun w => ofI d b1 b2 w) (signI d) (fun w => negI n w) (absI d) (fromF (-n) d.natAbs (by omega) (by rw [dI_neg]; omega) (by omega)) hs w
  · rw [decide_eq_false h] at hs
    rw [if_neg h]
    exact fof_false n d (sgn d) n _ n d _ _ 0 (fun w => ofI n a1 a2 w) (fun w => ofI d b1 b2 w) (signI d) (absI d) (fromF n d.natAbs (by omega) (by omega) (by omega)) hs w
theorem of0F (n : Int) (a1 : -9223372036854775808 ≤ n) (a2 : n < 9223372036854775808) (w : World) :
    Calls Tryz.prog 26 #[.int .i64 n, .int .i64 0] w fun x w' => x = .returned (.tuple #[fracV 0, .int .i64 5]) ∧ Below w.heap.size w w' :=
  fof_false n 0 (sgn 0) n 0 n 0 0 0 5 (fun w => ofI n a1 a2 w) (fun w => ofI 0 (by decide) (by decide) w) (signI 0) (absI 0) (from0F n) (by decide) w
end Go.Proofs.YtecdnohhengfaabGreatDoor

/-
  Layer 3, walks: Parse; the law package's own functions.
-/
namespace Go.Proofs.YtecdnohhengfaabGreatDoor
open Go.RowKit
attribute [local irreducible] lo hs sm s64 c64 d64 b64 mh ml pd pc qd qc val hiB str cmpI srD lz nb isq decB zl zh zs

set_option maxHeartbeats 4000000 in
set_option maxRecDepth 100000 in
theorem fparse_int (s p q : ByteArray) (z : Int) (f : Bool) (c : Int) (KT : World → Prop) (hKT : Keeps KT) (HC : ∀ w, KT w → Calls Tryz.prog 38 #[.string s, .string (ByteArray.mk #[47])] w fun xe w' => xe = .returned (.tuple #[.string p, .string q, .bool f]) ∧ Below w.heap.size w w') (HI : ∀ w, Calls Tryz.prog 39 #[.string p] w fun xe w' => xe = .returned (.tuple #[.agg #[.int .u64 ((zl z : Nat) : Int), .string (zh z), .bool (zs z)], .int .i64 c]) ∧ Below w.heap.size w w') (hc : (c == 0) = false) (w : World) (kKT : KT w) :
    Calls Tryz.prog 8 #[.string s] w fun xe w' => xe = .returned (.tuple #[.agg #[.int .u64 0, .string ⟨#[]⟩, .bool false, .int .u64 0, .string ⟨#[]⟩], .int .i64 c]) ∧ Below w.heap.size w w' := by
  have hL0 : GL w w [] := GL.start w
  replace hKT := Lib.hid hKT
  replace HC := Lib.hid HC
  replace HI := Lib.hid HI
  have hc2 : (c != 0) = true := by rw [bne, hc]; rfl
  replace hL0 := (hL0.new rfl [.int .u64 0, .string ⟨#[]⟩, .bool false, .int .u64 0, .string ⟨#[]⟩] 35)
  generalize hweq : (w.alloc (.cells #[.int .u64 0, .string ⟨#[]⟩, .bool false, .int .u64 0, .string ⟨#[]⟩] 35)) = x1 at hL0
  go_enter Tryz.func8, Tryz.ntmps8
  go_wp2_with fail
  with_reducible refine Calls.mono (HC.out _ (hKT.out.at hL0.bl kKT)) ?_
  rintro e x2 ⟨rfl, hb⟩
  replace hL0 := hL0.call hb
  clear hb hweq
  go_wp2_with fail
  with_reducible refine Calls.mono (HI.out _) ?_
  rintro e x3 ⟨rfl, hb⟩
  replace hL0 := hL0.call hb
  clear hb
  replace hL0 := (hL0.new rfl [.int .u64 ((zl z : Nat) : Int), .string (zh z), .bool (zs z)] 33)
  generalize hweq : (x3.alloc (.cells #[.int .u64 ((zl z : Nat) : Int), .string (zh z), .bool (zs z)] 33)) = x4 at hL0
  have hA := hL0.fc
  simp only [fcG, cellsF, neK, and_true, ne_eq, Nat.zero_add, Nat.reduceAdd] at hA
  have hP := hL0.put 1 (w.heap.size) _ rfl [.int .u64 0, .string ⟨#[]⟩, .bool false, .int .u64 0, .string ⟨#[]⟩] rfl
  simp only [setAll, List.set_cons_zero, List.set_cons_succ] at hP
  generalize hput1 : (((((x4.setCell ⟨w.heap.size, 0, none⟩ (.int .u64 0)).setCell ⟨w.heap.size, 1, none⟩ (.string ⟨#[]⟩)).setCell ⟨w.heap.size, 2, none⟩ (.bool false)).setCell ⟨w.heap.size, 3, none⟩ (.int .u64 0)).setCell ⟨w.heap.size, 4, none⟩ (.string ⟨#[]⟩)) = x5 at hP
  have hB1 := hP.fc
  simp only [fcG, cellsF, neK, and_true, ne_eq, Nat.zero_add, Nat.reduceAdd] at hB1
  replace hL0 := hP
  go_wp2_with fail
  exact bodyPost_ret (v := .tuple #[.agg #[.int .u64 0, .string ⟨#[]⟩, .bool false, .int .u64 0, .string ⟨#[]⟩], .int .i64 c]) (by simp [results, Tryz.results8, go_sem, hB1]) rfl ⟨rfl, hL0.bl⟩

set_option maxHeartbeats 4000000 in
set_option maxRecDepth 100000 in
theorem fparse_whole (s p q : ByteArray) (z n : Int) (e : Nat) (KT : World → Prop) (hKT : Keeps KT) (HC : ∀ w, KT w → Calls Tryz.prog 38 #[.string s, .string (ByteArray.mk #[47])] w fun xe w' => xe = .returned (.tuple #[.string p, .string q, .bool false]) ∧ Below w.heap.size w w') (HI : ∀ w, Calls Tryz.prog 39 #[.string p] w fun xe w' => xe = .returned (.tuple #[.agg #[.int .u64 ((zl z : Nat) : Int), .string (zh z), .bool (zs z)], .int .i64 0]) ∧ Below w.heap.size w w') (HO : ∀ w, Calls Tryz.prog 14 #[.int .u64 1] w fun xe w' => xe = .returned (.agg #[.int .u64 ((lo 1 : Nat) : Int), .string (hs 1)]) ∧ Below w.heap.size w w') (HL : ∀ w, Calls Tryz.prog 40 #[.agg #[.int .u64 ((zl z : Nat) : Int), .string (zh z), .bool (zs z)], .agg #[.int .u64 ((lo 1 : Nat) : Int), .string (hs 1)]] w fun xe w' => xe = .returned (.agg #[.int .u64 ((zl n : Nat) : Int), .string (zh n), .bool (zs n), .int .u64 ((lo e : Nat) : Int), .string (hs e)]) ∧ Below w.heap.size w w') (w : World) (kKT : KT w) :
    Calls Tryz.prog 8 #[.string s] w fun xe w' => xe = .returned (.tuple #[.agg #[.int .u64 ((zl n : Nat) : Int), .string (zh n), .bool (zs n), .int .u64 ((lo e : Nat) : Int), .string (hs e)], .int .i64 0]) ∧ Below w.heap.size w w' := by
  have hL0 : GL w w [] := GL.start w
  replace hKT := Lib.hid hKT
  replace HC := Lib.hid HC
  replace HI := Lib.hid HI
  replace HO := Lib.hid HO
  replace HL := Lib.hid HL
  replace hL0 := (hL0.new rfl [.int .u64 0, .string ⟨#[]⟩, .bool false, .int .u64 0, .string ⟨#[]⟩] 35)
  generalize hweq : (w.alloc (.cells #[.int .u64 0, .string ⟨#[]⟩, .bool false, .int .u64 0, .string ⟨#[]⟩] 35)) = x1 at hL0
  go_enter Tryz.func8, Tryz.ntmps8
  go_wp2_with fail
  with_reducible refine Calls.mono (HC.out _ (hKT.out.at hL0.bl kKT)) ?_
  rintro e x2 ⟨rfl, hb⟩
  replace hL0 := hL0.call hb
  clear hb hweq
  go_wp2_with fail
  with_reducible refine Calls.mono (HI.out _) ?_
  rintro e x3 ⟨rfl, hb⟩
  replace hL0 := hL0.call hb
  clear hb
  replace hL0 := (hL0.new rfl [.int .u64 ((zl z : Nat) : Int), .string (zh z), .bool (zs z)] 33)
  generalize hweq : (x3.alloc (.cells #[.int .u64 ((zl z : Nat) : Int), .string (zh z), .bool (zs z)] 33)) = x4 at hL0
  go_upto_region 6 with fail
  clear hweq
  obtain ⟨α, iα, F, hF1, hF2⟩ := cls x4
  have hq0 := cls_box hF1 hL0 _ _ List.mem_cons_self
  simp only [cellsC, and_true, Nat.zero_add, Nat.reduceAdd] at hq0
  refine region_qs 3 (C := fun w' => ∃ x, w' = F x) (by kernel_rfl) (by kernel_rfl) (cls_drew hF2) ?_
  simp only [List.take_succ_cons, List.take_zero, List.drop_succ_cons, List.drop_zero, List.take_nil, List.drop_nil]
  repeat (go_big_quiet_step (first | fail | (go_at_call 14; with_reducible exact cls_call hF1 hF2 HO.out _) | (go_at_call 40; with_reducible exact cls_call hF1 hF2 HL.out _)))
  refine wpQuiet_nil ?_
  rintro wq ⟨xq, rfl⟩
  replace hL0 := hL0.call (hF1 xq)
  clear  hq0 hF2
  generalize F xq = x5 at hL0 ⊢
  clear hF1 xq iα F α
  have hA := hL0.fc
  simp only [fcG, cellsF, neK, and_true, ne_eq, Nat.zero_add, Nat.reduceAdd] at hA
  have hP := hL0.put 1 (w.heap.size) _ rfl [.int .u64 ((zl n : Nat) : Int), .string (zh n), .bool (zs n), .int .u64 ((lo e : Nat) : Int), .string (hs e)] rfl
  simp only [setAll, List.set_cons_zero, List.set_cons_succ] at hP
  generalize hput1 : (((((x5.setCell ⟨w.heap.size, 0, none⟩ (.int .u64 ((zl n : Nat) : Int))).setCell ⟨w.heap.size, 1, none⟩ (.string (zh n))).setCell ⟨w.heap.size, 2, none⟩ (.bool (zs n))).setCell ⟨w.heap.size, 3, none⟩ (.int .u64 ((lo e : Nat) : Int))).setCell ⟨w.heap.size, 4, none⟩ (.string (hs e))) = x6 at hP
  have hB1 := hP.fc
  simp only [fcG, cellsF, neK, and_true, ne_eq, Nat.zero_add, Nat.reduceAdd] at hB1
  replace hL0 := hP
  go_wp2_with fail
  exact bodyPost_ret (v := .tuple #[.agg #[.int .u64 ((zl n : Nat) : Int), .string (zh n), .bool (zs n), .int .u64 ((lo e : Nat) : Int), .string (hs e)], .int .i64 0]) (by simp [results, Tryz.results8, go_sem, hB1]) rfl ⟨rfl, hL0.bl⟩

set_option maxHeartbeats 4000000 in
set_option maxRecDepth 100000 in
theorem fparse_nat (s p q : ByteArray) (z : Int) (d : Nat) (c : Int) (KT : World → Prop) (hKT : Keeps KT) (HC : ∀ w, KT w → Calls Tryz.prog 38 #[.string s, .string (ByteArray.mk #[47])] w fun xe w' => xe = .returned (.tuple #[.string p, .string q, .bool true]) ∧ Below w.heap.size w w') (HI : ∀ w, Calls Tryz.prog 39 #[.string p] w fun xe w' => xe = .returned (.tuple #[.agg #[.int .u64 ((zl z : Nat) : Int), .string (zh z), .bool (zs z)], .int .i64 0]) ∧ Below w.heap.size w w') (HN : ∀ w, Calls Tryz.prog 41 #[.string q] w fun xe w' => xe = .returned (.tuple #[.agg #[.int .u64 ((lo d : Nat) : Int), .string (hs d)], .int .i64 c]) ∧ Below w.heap.size w w') (hc : (c == 0) = false) (w : World) (kKT : KT w) :
    Calls Tryz.prog 8 #[.string s] w fun xe w' => xe = .returned (.tuple #[.agg #[.int .u64 0, .string ⟨#[]⟩, .bool false, .int .u64 0, .string ⟨#[]⟩], .int .i64 c]) ∧ Below w.heap.size w w' := by
  have hL0 : GL w w [] := GL.start w
  replace hKT := Lib.hid hKT
  replace HC := Lib.hid HC
  replace HI := Lib.hid HI
  replace HN := Lib.hid HN
  have hc2 : (c != 0) = true := by rw [bne, hc]; rfl
  replace hL0 := (hL0.new rfl [.int .u64 0, .string ⟨#[]⟩, .bool false, .int .u64 0, .string ⟨#[]⟩] 35)
  generalize hweq : (w.alloc (.cells #[.int .u64 0, .string ⟨#[]⟩, .bool false, .int .u64 0, .string ⟨#[]⟩] 35)) = x1 at hL0
  go_enter Tryz.func8, Tryz.ntmps8
  go_wp2_with fail
  with_reducible refine Calls.mono (HC.out _ (hKT.out.at hL0.bl kKT)) ?_
  rintro e x2 ⟨rfl, hb⟩
  replace hL0 := hL0.call hb
  clear hb hweq
  go_wp2_with fail
  with_reducible refine Calls.mono (HI.out _) ?_
  rintro e x3 ⟨rfl, hb⟩
  replace hL0 := hL0.call hb
  clear hb
  replace hL0 := (hL0.new rfl [.int .u64 ((zl z : Nat) : Int), .string (zh z), .bool (zs z)] 33)
  generalize hweq : (x3.alloc (.cells #[.int .u64 ((zl z : Nat) : Int), .string (zh z), .bool (zs z)] 33)) = x4 at hL0
  go_wp2_with fail
  with_reducible refine Calls.mono (HN.out _) ?_
  rintro e x5 ⟨rfl, hb⟩
  replace hL0 := hL0.call hb
  clear hb hweq
  replace hL0 := (hL0.new rfl [.int .u64 ((lo d : Nat) : Int), .string (hs d)] 31)
  generalize hweq : (x5.alloc (.cells #[.int .u64 ((lo d : Nat) : Int), .string (hs d)] 31)) = x6 at hL0
  have hA := hL0.fc
  simp only [fcG, cellsF, neK, and_true, ne_eq, Nat.zero_add, Nat.reduceAdd] at hA
  have hP := hL0.put 2 (w.heap.size) _ rfl [.int .u64 0, .string ⟨#[]⟩, .bool false, .int .u64 0, .string ⟨#[]⟩] rfl
  simp only [setAll, List.set_cons_zero, List.set_cons_succ] at hP
  generalize hput1 : (((((x6.setCell ⟨w.heap.size, 0, none⟩ (.int .u64 0)).setCell ⟨w.heap.size, 1, none⟩ (.string ⟨#[]⟩)).setCell ⟨w.heap.size, 2, none⟩ (.bool false)).setCell ⟨w.heap.size, 3, none⟩ (.int .u64 0)).setCell ⟨w.heap.size, 4, none⟩ (.string ⟨#[]⟩)) = x7 at hP
  have hB1 := hP.fc
  simp only [fcG, cellsF, neK, and_true, ne_eq, Nat.zero_add, Nat.reduceAdd] at hB1
  replace hL0 := hP
  go_wp2_with fail
  exact bodyPost_ret (v := .tuple #[.agg #[.int .u64 0, .string ⟨#[]⟩, .bool false, .int .u64 0, .string ⟨#[]⟩], .int .i64 c]) (by simp [results, Tryz.results8, go_sem, hB1]) rfl ⟨rfl, hL0.bl⟩

set_option maxHeartbeats 4000000 in
set_option maxRecDepth 100000 in
theorem fparse_part (s p q : ByteArray) (z n : Int) (d e : Nat) (c : Int) (KT : World → Prop) (hKT : Keeps KT) (HC : ∀ w, KT w → Calls Tryz.prog 38 #[.string s, .string (ByteArray.mk #[47])] w fun xe w' => xe = .returned (.tuple #[.string p, .string q, .bool true]) ∧ Below w.heap.size w w') (HI : ∀ w, Calls Tryz.prog 39 #[.string p] w fun xe w' => xe = .returned (.tuple #[.agg #[.int .u64 ((zl z : Nat) : Int), .string (zh z), .bool (zs z)], .int .i64 0]) ∧ Below w.heap.size w w') (HN : ∀ w, Calls Tryz.prog 41 #[.string q] w fun xe w' => xe = .returned (.tuple #[.agg #[.int .u64 ((lo d : Nat) : Int), .string (hs d)], .int .i64 0]) ∧ Below w.heap.size w w') (HF : ∀ w, Calls Tryz.prog 37 #[.agg #[.int .u64 ((zl z : Nat) : Int), .string (zh z), .bool (zs z)], .agg #[.int .u64 ((lo d : Nat) : Int), .string (hs d)]] w fun xe w' => xe = .returned (.tuple #[.agg #[.int .u64 ((zl n : Nat) : Int), .string (zh n), .bool (zs n), .int .u64 ((lo e : Nat) : Int), .string (hs e)], .int .i64 c]) ∧ Below w.heap.size w w') (w : World) (kKT : KT w) :
    Calls Tryz.prog 8 #[.string s] w fun xe w' => xe = .returned (.tuple #[.agg #[.int .u64 ((zl n : Nat) : Int), .string (zh n), .bool (zs n), .int .u64 ((lo e : Nat) : Int), .string (hs e)], .int .i64 c]) ∧ Below w.heap.size w w' := by
  have hL0 : GL w w [] := GL.start w
  replace hKT := Lib.hid hKT
  replace HC := Lib.hid HC
  replace HI := Lib.hid HI
  replace HN := Lib.hid HN
  replace HF := Lib.hid HF
  replace hL0 := (hL0.new rfl [.int .u64 0, .string ⟨#[]⟩, .bool false, .int .u64 0, .string ⟨#[]⟩] 35)
  generalize hweq : (w.alloc (.cells #[.int .u64 0, .string ⟨#[]⟩, .bool false, .int .u64 0, .string ⟨#[]⟩] 35)) = x1 at hL0
  go_enter Tryz.func8, Tryz.ntmps8
  go_wp2_with fail
  with_reducible refine Calls.mono (HC.out _ (hKT.out.at hL0.bl kKT)) ?_
  rintro e x2 ⟨rfl, hb⟩
  replace hL0 := hL0.call hb
  clear hb hweq
  go_wp2_with fail
  with_reducible refine Calls.mono (HI.out _) ?_
  rintro e x3 ⟨rfl, hb⟩
  replace hL0 := hL0.call hb
  clear hb
  replace hL0 := (hL0.new rfl [.int .u64 ((zl z : Nat) : Int), .string (zh z), .bool (zs z)] 33)
  generalize hweq : (x3.alloc (.cells #[.int .u64 ((zl z : Nat) : Int), .string (zh z), .bool (zs z)] 33)) = x4 at hL0
  go_wp2_with fail
  with_reducible refine Calls.mono (HN.out _) ?_
  rintro e x5 ⟨rfl, hb⟩
  replace hL0 := hL0.call hb
  clear hb hweq
  replace hL0 := (hL0.new rfl [.int .u64 ((lo d : Nat) : Int), .string (hs d)] 31)
  generalize hweq : (x5.alloc (.cells #[.int .u64 ((lo d : Nat) : Int), .string (hs d)] 31)) = x6 at hL0
  have hN0 := cells_of _ 0 [] rfl (hL0.get _ _ List.mem_cons_self)
  simp only [cellsF, and_true, Nat.zero_add, Nat.reduceAdd] at hN0
  have hN1 := cells_of _ 0 [] rfl (hL0.get _ _ (List.mem_cons_of_mem _ List.mem_cons_self))
  simp only [cellsF, and_true, Nat.zero_add, Nat.reduceAdd] at hN1
  go_wp2_with fail
  clear hN0 hN1
  with_reducible refine Calls.mono (HF.out _) ?_
  rintro e x7 ⟨rfl, hb⟩
  replace hL0 := hL0.call hb
  clear hb hweq
  have hA := hL0.fc
  simp only [fcG, cellsF, neK, and_true, ne_eq, Nat.zero_add, Nat.reduceAdd] at hA
  have hP := hL0.put 2 (w.heap.size) _ rfl [.int .u64 ((zl n : Nat) : Int), .string (zh n), .bool (zs n), .int .u64 ((lo e : Nat) : Int), .string (hs e)] rfl
  simp only [setAll, List.set_cons_zero, List.set_cons_succ] at hP
  generalize hput1 : (((((x7.setCell ⟨w.heap.size, 0, none⟩ (.int .u64 ((zl n : Nat) : Int))).setCell ⟨w.heap.size, 1, none⟩ (.string (zh n))).setCell ⟨w.heap.size, 2, none⟩ (.bool (zs n))).setCell ⟨w.heap.size, 3, none⟩ (.int .u64 ((lo e : Nat) : Int))).setCell ⟨w.heap.size, 4, none⟩ (.string (hs e))) = x8 at hP
  have hB1 := hP.fc
  simp only [fcG, cellsF, neK, and_true, ne_eq, Nat.zero_add, Nat.reduceAdd] at hB1
  replace hL0 := hP
  go_wp2_with fail
  exact bodyPost_ret (v := .tuple #[.agg #[.int .u64 ((zl n : Nat) : Int), .string (zh n), .bool (zs n), .int .u64 ((lo e : Nat) : Int), .string (hs e)], .int .i64 c]) (by simp [results, Tryz.results8, go_sem, hB1]) rfl ⟨rfl, hL0.bl⟩

set_option maxHeartbeats 4000000 in
set_option maxRecDepth 100000 in
theorem gden_w (s : Bool) (a b : Option Addr) (n c m d : Nat) (w : World) :
    Calls Tryz.prog 13 #[.agg #[.bool s, .slice a n c, .slice b m d]] w fun xe w' => xe = .returned (.agg #[.bool false, .slice b m d]) ∧ Below w.heap.size w w' := by
  have hL0 : GL w w [] := GL.start w
  replace hL0 := ((hL0.new rfl [.bool s, .slice a n c, .slice b m d] 26).new (K := w.heap.size + 1) (szA _ _) [.bool false, .slice b m d] 24)
  generalize hweq : ((w.alloc (.cells #[.bool s, .slice a n c, .slice b m d] 26)).alloc (.cells #[.bool false, .slice b m d] 24)) = x1 at hL0
  go_enter Tryz.func13, Tryz.ntmps13
  have hN0 := cells_of _ 0 [] rfl (hL0.get _ _ List.mem_cons_self)
  simp only [cellsF, and_true, Nat.zero_add, Nat.reduceAdd] at hN0
  have hN1 := cells_of _ 0 [] rfl (hL0.get _ _ (List.mem_cons_of_mem _ List.mem_cons_self))
  simp only [cellsF, and_true, Nat.zero_add, Nat.reduceAdd] at hN1
  go_wp2_with fail
  exact bodyPost_ret (v := .agg #[.bool false, .slice b m d]) (by simp [results, Tryz.results13, go_sem, hN0 ,hN1]) rfl ⟨rfl, hL0.bl⟩

set_option maxHeartbeats 4000000 in
set_option maxRecDepth 100000 in
theorem gof_w (s : Bool) (a b : Option Addr) (n c m d : Nat) (y z x : Int) (p q e : Nat) (K : World → Prop) (hK : Keeps K) (HZ : ∀ w, K w → Calls Tryz.prog 10 #[.agg #[.bool s, .slice a n c]] w fun xe w' => xe = .returned (.agg #[.int .u64 ((zl z : Nat) : Int), .string (zh z), .bool (zs z)]) ∧ Below w.heap.size w w') (HD : ∀ w, Calls Tryz.prog 13 #[.agg #[.bool s, .slice a n c, .slice b m d]] w fun xe w' => xe = .returned (.agg #[.bool false, .slice b m d]) ∧ Below w.heap.size w w') (L : World → Prop) (hL : Keeps L) (HY : ∀ w, L w → Calls Tryz.prog 10 #[.agg #[.bool false, .slice b m d]] w fun xe w' => xe = .returned (.agg #[.int .u64 ((zl y : Nat) : Int), .string (zh y), .bool (zs y)]) ∧ Below w.heap.size w w') (HA : ∀ w, Calls Tryz.prog 12 #[.agg #[.int .u64 ((zl y : Nat) : Int), .string (zh y), .bool (zs y)]] w fun xe w' => xe = .returned (.agg #[.int .u64 ((lo p : Nat) : Int), .string (hs p)]) ∧ Below w.heap.size w w') (HO : ∀ w, Calls Tryz.prog 14 #[.int .u64 1] w fun xe w' => xe = .returned (.agg #[.int .u64 ((lo 1 : Nat) : Int), .string (hs 1)]) ∧ Below w.heap.size w w') (HP : ∀ w, Calls Tryz.prog 11 #[.agg #[.int .u64 ((lo p : Nat) : Int), .string (hs p)], .agg #[.int .u64 ((lo 1 : Nat) : Int), .string (hs 1)]] w fun xe w' => xe = .returned (.agg #[.int .u64 ((lo q : Nat) : Int), .string (hs q)]) ∧ Below w.heap.size w w') (HF : ∀ w, Calls Tryz.prog 37 #[.agg #[.int .u64 ((zl z : Nat) : Int), .string (zh z), .bool (zs z)], .agg #[.int .u64 ((lo q : Nat) : Int), .string (hs q)]] w fun xe w' => xe = .returned (.tuple #[.agg #[.int .u64 ((zl x : Nat) : Int), .string (zh x), .bool (zs x), .int .u64 ((lo e : Nat) : Int), .string (hs e)], .int .i64 0]) ∧ Below w.heap.size w w') (w : World) (kK : K w) (kL : L w) :
    Calls Tryz.prog 7 #[.agg #[.bool s, .slice a n c, .slice b m d]] w fun xe w' => xe = .returned (.agg #[.int .u64 ((zl x : Nat) : Int), .string (zh x), .bool (zs x), .int .u64 ((lo e : Nat) : Int), .string (hs e)]) ∧ Below w.heap.size w w' := by
  have hL0 : GL w w [] := GL.start w
  replace hK := Lib.hid hK
  replace HZ := Lib.hid HZ
  replace HD := Lib.hid HD
  replace hL := Lib.hid hL
  replace HY := Lib.hid HY
  replace HA := Lib.hid HA
  replace HO := Lib.hid HO
  replace HP := Lib.hid HP
  replace HF := Lib.hid HF
  replace hL0 := ((hL0.new rfl [.bool s, .slice a n c, .slice b m d] 26).new (K := w.heap.size + 1) (szA _ _) [.int .u64 0, .string ⟨#[]⟩, .bool false, .int .u64 0, .string ⟨#[]⟩] 35)
  generalize hweq : ((w.alloc (.cells #[.bool s, .slice a n c, .slice b m d] 26)).alloc (.cells #[.int .u64 0, .string ⟨#[]⟩, .bool false, .int .u64 0, .string ⟨#[]⟩] 35)) = x1 at hL0
  go_enter Tryz.func7, Tryz.ntmps7
  go_upto_region 1 with fail
  have kK1 := hK.out.at hL0.bl kK
  have kL1 := hL.out.at hL0.bl kL
  clear hweq
  refine region_gh (by kernel_rfl) (by kernel_rfl) ?_
  refine lex_seg (gl := []) 13 (by kernel_rfl) ?_
  intro α iα F hF1 hF2
  have hq := GL.seg hF1 hL0
  simp only [fcC, cellsC, and_true, Nat.zero_add, Nat.reduceAdd] at hq
  simp only [List.take_succ_cons, List.take_zero, List.drop_succ_cons, List.drop_zero, List.take_nil, List.drop_nil]
  repeat (go_big_quiet_step (first | fail | (go_at_call 10; with_reducible exact seg_callK hK.out hF1 hF2 kK1 HZ.out _) | (go_at_call 13; with_reducible exact seg_call hF2 HD.out _) | (go_at_call 10; with_reducible exact seg_callK hL.out hF1 hF2 kL1 HY.out _) | (go_at_call 12; with_reducible exact seg_call hF2 HA.out _) | (go_at_call 14; with_reducible exact seg_call hF2 HO.out _) | (go_at_call 11; with_reducible exact seg_call hF2 HP.out _) | (go_at_call 37; with_reducible exact seg_call hF2 HF.out _)))
  refine wpQuiet_nil ?_
  clear hq hF1 hF2 iα F α
  refine lex_new [.int .u64 0, .string ⟨#[]⟩, .bool false, .int .u64 0, .string ⟨#[]⟩] 3 35 35 rfl rfl (of_decide_eq_true (by kernel_rfl)) (by kernel_rfl) rfl new_frac ?_
  simp only [Act.put, List.setIfInBounds_toArray, List.set_cons_succ, List.set_cons_zero]
  refine lex_put [.int .u64 ((zl x : Nat) : Int), .string (zh x), .bool (zs x), .int .u64 ((lo e : Nat) : Int), .string (hs e)] [.int .u64 0, .string ⟨#[]⟩, .bool false, .int .u64 0, .string ⟨#[]⟩] 3 35 (.tmp 16) rfl (by kernel_rfl) (by simp [toG, upd]) rfl (fun w k h => put_frac _ _ _ _ _ _ _ _ _ _ w k h) ?_
  simp only [Act.put]
  refine lex_seg (gl := [(3, [.int .u64 ((zl x : Nat) : Int), .string (zh x), .bool (zs x), .int .u64 ((lo e : Nat) : Int), .string (hs e)], true), (3, [.int .u64 0, .string ⟨#[]⟩, .bool false, .int .u64 0, .string ⟨#[]⟩], false)]) 1 (by kernel_rfl) ?_
  intro α iα F hF1 hF2
  have hq := GL.seg hF1 hL0
  simp only [fcC, cellsC, and_true, Nat.zero_add, Nat.reduceAdd] at hq
  simp only [List.take_succ_cons, List.take_zero, List.drop_succ_cons, List.drop_zero, List.take_nil, List.drop_nil]
  repeat (go_big_quiet_step (first | fail | (go_at_call 10; with_reducible exact seg_callK hK.out hF1 hF2 kK1 HZ.out _) | (go_at_call 13; with_reducible exact seg_call hF2 HD.out _) | (go_at_call 10; with_reducible exact seg_callK hL.out hF1 hF2 kL1 HY.out _) | (go_at_call 12; with_reducible exact seg_call hF2 HA.out _) | (go_at_call 14; with_reducible exact seg_call hF2 HO.out _) | (go_at_call 11; with_reducible exact seg_call hF2 HP.out _) | (go_at_call 37; with_reducible exact seg_call hF2 HF.out _)))
  refine wpQuiet_nil ?_
  clear hq hF1 hF2 iα F α
  refine lexG_nil ?_
  intro κ x2 hS
  replace hL0 := hL0.ghs hS [(3, [.int .u64 ((zl x : Nat) : Int), .string (zh x), .bool (zs x), .int .u64 ((lo e : Nat) : Int), .string (hs e)])] (by simp) (by intro p hp; simp only [List.mem_cons, List.not_mem_nil, or_false] at hp; rcases hp with rfl <;> exact ⟨_, by simp only [toG, upd]; rfl⟩)
  simp only [List.map_cons, List.map_nil, List.cons_append, List.nil_append] at hL0
  simp only [over_toG, over_nil, Act.put, List.setIfInBounds_toArray, List.set_cons_succ, List.set_cons_zero]
  clear hS
  generalize κ 3 = k2_3 at *
  clear kK1 kL1
  have hA := hL0.fc
  simp only [fcG, cellsF, neK, and_true, ne_eq, Nat.zero_add, Nat.reduceAdd] at hA
  have hP := hL0.put 1 (w.heap.size + 1) _ rfl [.int .u64 ((zl x : Nat) : Int), .string (zh x), .bool (zs x), .int .u64 ((lo e : Nat) : Int), .string (hs e)] rfl
  simp only [setAll, List.set_cons_zero, List.set_cons_succ] at hP
  generalize hput1 : (((((x2.setCell ⟨w.heap.size + 1, 0, none⟩ (.int .u64 ((zl x : Nat) : Int))).setCell ⟨w.heap.size + 1, 1, none⟩ (.string (zh x))).setCell ⟨w.heap.size + 1, 2, none⟩ (.bool (zs x))).setCell ⟨w.heap.size + 1, 3, none⟩ (.int .u64 ((lo e : Nat) : Int))).setCell ⟨w.heap.size + 1, 4, none⟩ (.string (hs e))) = x3 at hP
  have hB1 := hP.fc
  simp only [fcG, cellsF, neK, and_true, ne_eq, Nat.zero_add, Nat.reduceAdd] at hB1
  replace hL0 := hP
  go_wp2_with fail
  exact bodyPost_ret (v := .agg #[.int .u64 ((zl x : Nat) : Int), .string (zh x), .bool (zs x), .int .u64 ((lo e : Nat) : Int), .string (hs e)]) (by simp [results, Tryz.results7, go_sem, hB1]) rfl ⟨rfl, hL0.bl⟩

set_option maxHeartbeats 4000000 in
set_option maxRecDepth 100000 in
theorem lof_w (i j c x : Int) (e : Nat) (HF : ∀ w, Calls Tryz.prog 26 #[.int .i64 i, .int .i64 j] w fun xe w' => xe = .returned (.tuple #[.agg #[.int .u64 ((zl x : Nat) : Int), .string (zh x), .bool (zs x), .int .u64 ((lo e : Nat) : Int), .string (hs e)], .int .i64 c]) ∧ Below w.heap.size w w') (w : World) :
    Calls Tryz.prog 25 #[.int .i64 i, .int .i64 j] w fun xe w' => xe = .returned (.agg #[.int .u64 ((zl x : Nat) : Int), .string (zh x), .bool (zs x), .int .u64 ((lo e : Nat) : Int), .string (hs e)]) ∧ Below w.heap.size w w' := by
  have hL0 : GL w w [] := GL.start w
  replace HF := Lib.hid HF
  replace hL0 := (hL0.new rfl [.int .u64 0, .string ⟨#[]⟩, .bool false, .int .u64 0, .string ⟨#[]⟩] 35)
  generalize hweq : (w.alloc (.cells #[.int .u64 0, .string ⟨#[]⟩, .bool false, .int .u64 0, .string ⟨#[]⟩] 35)) = x1 at hL0
  go_enter Tryz.func25, Tryz.ntmps25
  go_wp2_with fail
  with_reducible refine Calls.mono (HF.out _) ?_
  rintro e x2 ⟨rfl, hb⟩
  replace hL0 := hL0.call hb
  clear hb hweq
  replace hL0 := (hL0.new rfl [.int .u64 ((zl x : Nat) : Int), .string (zh x), .bool (zs x), .int .u64 ((lo e : Nat) : Int), .string (hs e)] 35)
  generalize hweq : (x2.alloc (.cells #[.int .u64 ((zl x : Nat) : Int), .string (zh x), .bool (zs x), .int .u64 ((lo e : Nat) : Int), .string (hs e)] 35)) = x3 at hL0
  have hA := hL0.fc
  simp only [fcG, cellsF, neK, and_true, ne_eq, Nat.zero_add, Nat.reduceAdd] at hA
  have hP := hL0.put 1 (w.heap.size) _ rfl [.int .u64 ((zl x : Nat) : Int), .string (zh x), .bool (zs x), .int .u64 ((lo e : Nat) : Int), .string (hs e)] rfl
  simp only [setAll, List.set_cons_zero, List.set_cons_succ] at hP
  generalize hput1 : (((((x3.setCell ⟨w.heap.size, 0, none⟩ (.int .u64 ((zl x : Nat) : Int))).setCell ⟨w.heap.size, 1, none⟩ (.string (zh x))).setCell ⟨w.heap.size, 2, none⟩ (.bool (zs x))).setCell ⟨w.heap.size, 3, none⟩ (.int .u64 ((lo e : Nat) : Int))).setCell ⟨w.heap.size, 4, none⟩ (.string (hs e))) = x4 at hP
  have hB1 := hP.fc
  simp only [fcG, cellsF, neK, and_true, ne_eq, Nat.zero_add, Nat.reduceAdd] at hB1
  replace hL0 := hP
  go_wp2_with fail
  exact bodyPost_ret (v := .agg #[.int .u64 ((zl x : Nat) : Int), .string (zh x), .bool (zs x), .int .u64 ((lo e : Nat) : Int), .string (hs e)]) (by simp [results, Tryz.results25, go_sem, hB1]) rfl ⟨rfl, hL0.bl⟩

set_option maxHeartbeats 4000000 in
set_option maxRecDepth 100000 in
theorem ltext_true (x : Int) (e : Nat) (s : ByteArray) (HT : ∀ w, Tab w → Calls Tryz.prog 9 #[.agg #[.int .u64 ((zl x : Nat) : Int), .string (zh x), .bool (zs x), .int .u64 ((lo e : Nat) : Int), .string (hs e)]] w fun xe w' => xe = .returned (.string s) ∧ Below w.heap.size w w') (w : World) (htab : Tab w) :
    Calls Tryz.prog 29 #[.agg #[.int .u64 ((zl x : Nat) : Int), .string (zh x), .bool (zs x), .int .u64 ((lo e : Nat) : Int), .string (hs e)], .string s] w fun xe w' => xe = .returned (.bool true) ∧ Below w.heap.size w w' := by
  have hL0 : GL w w [] := GL.start w
  replace HT := Lib.hid HT
  replace hL0 := (hL0.new rfl [.int .u64 ((zl x : Nat) : Int), .string (zh x), .bool (zs x), .int .u64 ((lo e : Nat) : Int), .string (hs e)] 35)
  generalize hweq : (w.alloc (.cells #[.int .u64 ((zl x : Nat) : Int), .string (zh x), .bool (zs x), .int .u64 ((lo e : Nat) : Int), .string (hs e)] 35)) = x1 at hL0
  go_enter Tryz.func29, Tryz.ntmps29
  have hN0 := cells_of _ 0 [] rfl (hL0.get _ _ List.mem_cons_self)
  simp only [cellsF, and_true, Nat.zero_add, Nat.reduceAdd] at hN0
  go_wp2_with fail
  clear hN0
  with_reducible refine Calls.mono (HT.out _ (htab.below hL0.bl)) ?_
  rintro e x2 ⟨rfl, hb⟩
  replace hL0 := hL0.call hb
  clear hb hweq
  go_wp2_with fail
  exact bodyPost_ret (v := .bool true) (by simp [results, Tryz.results29, go_sem]) rfl ⟨rfl, hL0.bl⟩

end Go.Proofs.YtecdnohhengfaabGreatDoor

/-
  Layer 3, walks: the choice among fractions.
-/
namespace Go.Proofs.YtecdnohhengfaabGreatDoor
open Go.RowKit
attribute [local irreducible] lo hs sm s64 c64 d64 b64 mh ml pd pc qd qc val hiB str cmpI srD lz nb isq decB zl zh zs fe

/-- A slice's fractions. -/
structure FS (w : World) (g : Nat) (qs : List Rat) : Prop where
  cell : ∀ i (h : i < qs.length), w.cell? ⟨g, i * 5, none⟩ = some (.int .u64 ((zl qs[i].num : Nat) : Int)) ∧ w.cell? ⟨g, i * 5 + 1, none⟩ = some (.string (zh qs[i].num)) ∧ w.cell? ⟨g, i * 5 + 2, none⟩ = some (.bool (zs qs[i].num)) ∧
    w.cell? ⟨g, i * 5 + 3, none⟩ = some (.int .u64 ((lo (fe qs[i]) : Nat) : Int)) ∧ w.cell? ⟨g, i * 5 + 4, none⟩ = some (.string (hs (fe qs[i])))
  lt : g < w.heap.size
theorem FS.below {w w' : World} {g : Nat} {qs : List Rat} (h : FS w g qs) (hb : Below w.heap.size w w') : FS w' g qs := by
  have hs := hb.size
  have hl := h.lt
  refine ⟨fun i hi => ?_, by omega⟩
  obtain ⟨h0, h1, h2, h3, h4⟩ := h.cell i hi
  exact ⟨(hb.cell (p := ⟨g, i * 5, none⟩) hl).trans h0, (hb.cell (p := ⟨g, i * 5 + 1, none⟩) hl).trans h1, (hb.cell (p := ⟨g, i * 5 + 2, none⟩) hl).trans h2, (hb.cell (p := ⟨g, i * 5 + 3, none⟩) hl).trans h3, (hb.cell (p := ⟨g, i * 5 + 4, none⟩) hl).trans h4⟩
def SlQ (w : World) (v : Value) (qs : List Rat) : Prop := (∃ ao c, v = .slice ao 0 c ∧ qs = []) ∨ ∃ g c, v = .slice (some ⟨g, 0, none⟩) qs.length c ∧ FS w g qs
theorem SlQ.below {w w' : World} {v : Value} {qs : List Rat} (h : SlQ w v qs) (hb : Below w.heap.size w w') : SlQ w' v qs := by
  rcases h with h | ⟨g, c, h1, h2⟩
  · exact .inl h
  · exact .inr ⟨g, c, h1, h2.below hb⟩
theorem SlQ.keeps (v : Value) (qs : List Rat) : Keeps (fun w => SlQ w v qs) := fun _ _ hb h => h.below hb
/-- The choice of the first that no other is better than. -/
def amg (r : Rat → Rat → Bool) : List Rat → Rat
  | [] => 0
  | q :: l => l.foldl (fun b a => if r a b then a else b) q
theorem amg_snoc (r : Rat → Rat → Bool) (l : List Rat) (a : Rat) (h : l ≠ []) : amg r (l ++ [a]) = if r a (amg r l) then a else amg r l := by
  cases l with
  | nil => exact absurd rfl h
  | cons q l => simp only [amg, List.cons_append, List.foldl_append, List.foldl_cons, List.foldl_nil]; rfl
theorem amg_mem (r : Rat → Rat → Bool) : ∀ (l : List Rat), l ≠ [] → amg r l ∈ l := by
  intro l
  refine snoc_ind (p := fun l => l ≠ [] → amg r l ∈ l) l (fun h => absurd rfl h) fun m a ih _ => ?_
  by_cases hm : m = []
  · subst hm; simp [amg]
  · rw [amg_snoc r m a hm]
    split
    · simp
    · exact List.mem_append_left _ (ih hm)
theorem fe_zero : fe 0 = 0 := fe_one rfl
def gtQ (p q : Rat) : Bool := decide (q < p)
def ltQ (p q : Rat) : Bool := decide (p < q)
theorem cmpQ_gt (p q : Rat) : decide (0 < cmpQ p q) = gtQ p q := by
  unfold cmpQ gtQ
  by_cases h : p < q
  · rw [if_pos h, decide_eq_false (p := q < p) (by grind)]; rfl
  · rw [if_neg h]
    by_cases h' : p = q
    · rw [if_pos h', decide_eq_false (p := q < p) (by grind)]; rfl
    · rw [if_neg h', decide_eq_true (p := q < p) (by grind)]; rfl
theorem cmpQ_lt (p q : Rat) : decide (cmpQ p q < 0) = ltQ p q := by
  unfold cmpQ ltQ
  by_cases h : p < q
  · rw [if_pos h, decide_eq_true h]; rfl
  · rw [if_neg h, decide_eq_false h]
    split <;> rfl

set_option maxHeartbeats 4000000 in
set_option maxRecDepth 100000 in
theorem gtr_true (m n c : Int) (d e : Nat) (HC : ∀ w, Calls Tryz.prog 70 #[.agg #[.int .u64 ((zl m : Nat) : Int), .string (zh m), .bool (zs m), .int .u64 ((lo d : Nat) : Int), .string (hs d)], .agg #[.int .u64 ((zl n : Nat) : Int), .string (zh n), .bool (zs n), .int .u64 ((lo e : Nat) : Int), .string (hs e)]] w fun xe w' => xe = .returned (.int .i64 c) ∧ Below w.heap.size w w') (hc : decide (0 < c) = true) (w : World) :
    Calls Tryz.prog 96 #[.agg #[.int .u64 ((zl m : Nat) : Int), .string (zh m), .bool (zs m), .int .u64 ((lo d : Nat) : Int), .string (hs d)], .agg #[.int .u64 ((zl n : Nat) : Int), .string (zh n), .bool (zs n), .int .u64 ((lo e : Nat) : Int), .string (hs e)]] w fun xe w' => xe = .returned (.bool true) ∧ Below w.heap.size w w' := by
  have hL0 : GL w w [] := GL.start w
  replace HC := Lib.hid HC
  replace hL0 := ((hL0.new rfl [.int .u64 ((zl m : Nat) : Int), .string (zh m), .bool (zs m), .int .u64 ((lo d : Nat) : Int), .string (hs d)] 35).new (K := w.heap.size + 1) (szA _ _) [.int .u64 ((zl n : Nat) : Int), .string (zh n), .bool (zs n), .int .u64 ((lo e : Nat) : Int), .string (hs e)] 35)
  generalize hweq : ((w.alloc (.cells #[.int .u64 ((zl m : Nat) : Int), .string (zh m), .bool (zs m), .int .u64 ((lo d : Nat) : Int), .string (hs d)] 35)).alloc (.cells #[.int .u64 ((zl n : Nat) : Int), .string (zh n), .bool (zs n), .int .u64 ((lo e : Nat) : Int), .string (hs e)] 35)) = x1 at hL0
  go_enter Tryz.func96, Tryz.ntmps96
  have hN0 := cells_of _ 0 [] rfl (hL0.get _ _ List.mem_cons_self)
  simp only [cellsF, and_true, Nat.zero_add, Nat.reduceAdd] at hN0
  have hN1 := cells_of _ 0 [] rfl (hL0.get _ _ (List.mem_cons_of_mem _ List.mem_cons_self))
  simp only [cellsF, and_true, Nat.zero_add, Nat.reduceAdd] at hN1
  go_wp2_with fail
  clear hN0 hN1
  with_reducible refine Calls.mono (HC.out _) ?_
  rintro e x2 ⟨rfl, hb⟩
  replace hL0 := hL0.call hb
  clear hb hweq
  go_wp2_with fail
  exact bodyPost_ret (v := .bool true) (by simp [results, Tryz.results96, go_sem]) rfl ⟨rfl, hL0.bl⟩

set_option maxHeartbeats 4000000 in
set_option maxRecDepth 100000 in
theorem gtr_false (m n c : Int) (d e : Nat) (HC : ∀ w, Calls Tryz.prog 70 #[.agg #[.int .u64 ((zl m : Nat) : Int), .string (zh m), .bool (zs m), .int .u64 ((lo d : Nat) : Int), .string (hs d)], .agg #[.int .u64 ((zl n : Nat) : Int), .string (zh n), .bool (zs n), .int .u64 ((lo e : Nat) : Int), .string (hs e)]] w fun xe w' => xe = .returned (.int .i64 c) ∧ Below w.heap.size w w') (hc : decide (0 < c) = false) (w : World) :
    Calls Tryz.prog 96 #[.agg #[.int .u64 ((zl m : Nat) : Int), .string (zh m), .bool (zs m), .int .u64 ((lo d : Nat) : Int), .string (hs d)], .agg #[.int .u64 ((zl n : Nat) : Int), .string (zh n), .bool (zs n), .int .u64 ((lo e : Nat) : Int), .string (hs e)]] w fun xe w' => xe = .returned (.bool false) ∧ Below w.heap.size w w' := by
  have hL0 : GL w w [] := GL.start w
  replace HC := Lib.hid HC
  replace hL0 := ((hL0.new rfl [.int .u64 ((zl m : Nat) : Int), .string (zh m), .bool (zs m), .int .u64 ((lo d : Nat) : Int), .string (hs d)] 35).new (K := w.heap.size + 1) (szA _ _) [.int .u64 ((zl n : Nat) : Int), .string (zh n), .bool (zs n), .int .u64 ((lo e : Nat) : Int), .string (hs e)] 35)
  generalize hweq : ((w.alloc (.cells #[.int .u64 ((zl m : Nat) : Int), .string (zh m), .bool (zs m), .int .u64 ((lo d : Nat) : Int), .string (hs d)] 35)).alloc (.cells #[.int .u64 ((zl n : Nat) : Int), .string (zh n), .bool (zs n), .int .u64 ((lo e : Nat) : Int), .string (hs e)] 35)) = x1 at hL0
  go_enter Tryz.func96, Tryz.ntmps96
  have hN0 := cells_of _ 0 [] rfl (hL0.get _ _ List.mem_cons_self)
  simp only [cellsF, and_true, Nat.zero_add, Nat.reduceAdd] at hN0
  have hN1 := cells_of _ 0 [] rfl (hL0.get _ _ (List.mem_cons_of_mem _ List.mem_cons_self))
  simp only [cellsF, and_true, Nat.zero_add, Nat.reduceAdd] at hN1
  go_wp2_with fail
  clear hN0 hN1
  with_reducible refine Calls.mono (HC.out _) ?_
  rintro e x2 ⟨rfl, hb⟩
  replace hL0 := hL0.call hb
  clear hb hweq
  go_wp2_with fail
  exact bodyPost_ret (v := .bool false) (by simp [results, Tryz.results96, go_sem]) rfl ⟨rfl, hL0.bl⟩

set_option maxHeartbeats 4000000 in
set_option maxRecDepth 100000 in
theorem lss_true (m n c : Int) (d e : Nat) (HC : ∀ w, Calls Tryz.prog 70 #[.agg #[.int .u64 ((zl m : Nat) : Int), .string (zh m), .bool (zs m), .int .u64 ((lo d : Nat) : Int), .string (hs d)], .agg #[.int .u64 ((zl n : Nat) : Int), .string (zh n), .bool (zs n), .int .u64 ((lo e : Nat) : Int), .string (hs e)]] w fun xe w' => xe = .returned (.int .i64 c) ∧ Below w.heap.size w w') (hc : decide (c < 0) = true) (w : World) :
    Calls Tryz.prog 137 #[.agg #[.int .u64 ((zl m : Nat) : Int), .string (zh m), .bool (zs m), .int .u64 ((lo d : Nat) : Int), .string (hs d)], .agg #[.int .u64 ((zl n : Nat) : Int), .string (zh n), .bool (zs n), .int .u64 ((lo e : Nat) : Int), .string (hs e)]] w fun xe w' => xe = .returned (.bool true) ∧ Below w.heap.size w w' := by
  have hL0 : GL w w [] := GL.start w
  replace HC := Lib.hid HC
  replace hL0 := ((hL0.new rfl [.int .u64 ((zl m : Nat) : Int), .string (zh m), .bool (zs m), .int .u64 ((lo d : Nat) : Int), .string (hs d)] 35).new (K := w.heap.size + 1) (szA _ _) [.int .u64 ((zl n : Nat) : Int), .string (zh n), .bool (zs n), .int .u64 ((lo e : Nat) : Int), .string (hs e)] 35)
  generalize hweq : ((w.alloc (.cells #[.int .u64 ((zl m : Nat) : Int), .string (zh m), .bool (zs m), .int .u64 ((lo d : Nat) : Int), .string (hs d)] 35)).alloc (.cells #[.int .u64 ((zl n : Nat) : Int), .string (zh n), .bool (zs n), .int .u64 ((lo e : Nat) : Int), .string (hs e)] 35)) = x1 at hL0
  go_enter Tryz.func137, Tryz.ntmps137
  have hN0 := cells_of _ 0 [] rfl (hL0.get _ _ List.mem_cons_self)
  simp only [cellsF, and_true, Nat.zero_add, Nat.reduceAdd] at hN0
  have hN1 := cells_of _ 0 [] rfl (hL0.get _ _ (List.mem_cons_of_mem _ List.mem_cons_self))
  simp only [cellsF, and_true, Nat.zero_add, Nat.reduceAdd] at hN1
  go_wp2_with fail
  clear hN0 hN1
  with_reducible refine Calls.mono (HC.out _) ?_
  rintro e x2 ⟨rfl, hb⟩
  replace hL0 := hL0.call hb
  clear hb hweq
  go_wp2_with fail
  exact bodyPost_ret (v := .bool true) (by simp [results, Tryz.results137, go_sem]) rfl ⟨rfl, hL0.bl⟩

set_option maxHeartbeats 4000000 in
set_option maxRecDepth 100000 in
theorem lss_false (m n c : Int) (d e : Nat) (HC : ∀ w, Calls Tryz.prog 70 #[.agg #[.int .u64 ((zl m : Nat) : Int), .string (zh m), .bool (zs m), .int .u64 ((lo d : Nat) : Int), .string (hs d)], .agg #[.int .u64 ((zl n : Nat) : Int), .string (zh n), .bool (zs n), .int .u64 ((lo e : Nat) : Int), .string (hs e)]] w fun xe w' => xe = .returned (.int .i64 c) ∧ Below w.heap.size w w') (hc : decide (c < 0) = false) (w : World) :
    Calls Tryz.prog 137 #[.agg #[.int .u64 ((zl m : Nat) : Int), .string (zh m), .bool (zs m), .int .u64 ((lo d : Nat) : Int), .string (hs d)], .agg #[.int .u64 ((zl n : Nat) : Int), .string (zh n), .bool (zs n), .int .u64 ((lo e : Nat) : Int), .string (hs e)]] w fun xe w' => xe = .returned (.bool false) ∧ Below w.heap.size w w' := by
  have hL0 : GL w w [] := GL.start w
  replace HC := Lib.hid HC
  replace hL0 := ((hL0.new rfl [.int .u64 ((zl m : Nat) : Int), .string (zh m), .bool (zs m), .int .u64 ((lo d : Nat) : Int), .string (hs d)] 35).new (K := w.heap.size + 1) (szA _ _) [.int .u64 ((zl n : Nat) : Int), .string (zh n), .bool (zs n), .int .u64 ((lo e : Nat) : Int), .string (hs e)] 35)
  generalize hweq : ((w.alloc (.cells #[.int .u64 ((zl m : Nat) : Int), .string (zh m), .bool (zs m), .int .u64 ((lo d : Nat) : Int), .string (hs d)] 35)).alloc (.cells #[.int .u64 ((zl n : Nat) : Int), .string (zh n), .bool (zs n), .int .u64 ((lo e : Nat) : Int), .string (hs e)] 35)) = x1 at hL0
  go_enter Tryz.func137, Tryz.ntmps137
  have hN0 := cells_of _ 0 [] rfl (hL0.get _ _ List.mem_cons_self)
  simp only [cellsF, and_true, Nat.zero_add, Nat.reduceAdd] at hN0
  have hN1 := cells_of _ 0 [] rfl (hL0.get _ _ (List.mem_cons_of_mem _ List.mem_cons_self))
  simp only [cellsF, and_true, Nat.zero_add, Nat.reduceAdd] at hN1
  go_wp2_with fail
  clear hN0 hN1
  with_reducible refine Calls.mono (HC.out _) ?_
  rintro e x2 ⟨rfl, hb⟩
  replace hL0 := hL0.call hb
  clear hb hweq
  go_wp2_with fail
  exact bodyPost_ret (v := .bool false) (by simp [results, Tryz.results137, go_sem]) rfl ⟨rfl, hL0.bl⟩

set_option maxHeartbeats 4000000 in
set_option maxRecDepth 100000 in
theorem among_max (ao : Option Addr) (n c : Nat) (qs : List Rat) (HB : ∀ p q, p ∈ qs → q ∈ qs → ∀ w, Calls Tryz.prog 96 #[fracV p, fracV q] w fun xe w' => xe = .returned (.bool (gtQ p q)) ∧ Below w.heap.size w w') (w : World) (hq : SlQ w (.slice ao n c) qs) (hn : (0 < n → ∃ g, ao = some ⟨g, 0, none⟩ ∧ FS w g qs) ∧ qs.length = n ∧ n ≤ 1000000) :
    Calls Tryz.prog 97 #[.agg #[.func (.func 96) #[] #[]], .slice ao n c] w fun xe w' => xe = .returned (fracV (amg gtQ qs)) ∧ Below w.heap.size w w' := by
  have hL0 : GL w w [] := GL.start w
  have HB := Lib.hid HB
  have hle := hn.2
  have hcell := Lib.hid hn.1
  clear hn
  replace hL0 := (((hL0.new rfl [.func (.func 96) #[] #[]] 142).new (K := w.heap.size + 1) (szA _ _) [.int .u64 0, .string ⟨#[]⟩, .bool false, .int .u64 0, .string ⟨#[]⟩] 35).new (K := w.heap.size + 1 + 1) (by simp only [World.size_alloc]) [.int .u64 0, .string ⟨#[]⟩, .bool false, .int .u64 0, .string ⟨#[]⟩] 35)
  generalize hweq : (((w.alloc (.cells #[.func (.func 96) #[] #[]] 142)).alloc (.cells #[.int .u64 0, .string ⟨#[]⟩, .bool false, .int .u64 0, .string ⟨#[]⟩] 35)).alloc (.cells #[.int .u64 0, .string ⟨#[]⟩, .bool false, .int .u64 0, .string ⟨#[]⟩] 35)) = x1 at hL0
  have hsl := Lib.hid (SlQ.below hq hL0.bl)
  clear hq
  go_enter Tryz.func97, Tryz.ntmps97
  have hA := hL0.fc
  simp only [fcG, cellsF, neK, and_true, ne_eq, Nat.zero_add, Nat.reduceAdd] at hA
  go_wp2_with fail
  clear hA
  go_loopw [10] (fun z wr => ∃ i : Nat, i ≤ n ∧ z = .int .i64 (i : Int) ∧ ∃ q : Rat, q = amg gtQ (qs.take i) ∧ GL w wr [(w.heap.size + 1 + 1, [.int .u64 ((zl q.num : Nat) : Int), .string (zh q.num), .bool (zs q.num), .int .u64 ((lo (fe q) : Nat) : Int), .string (hs (fe q))]), (w.heap.size + 1, [.int .u64 0, .string ⟨#[]⟩, .bool false, .int .u64 0, .string ⟨#[]⟩]), (w.heap.size, [.func (.func 96) #[] #[]])]) (fun z _ => n - (intOf z).toNat)
  case atStart => exact ⟨0, Nat.zero_le _, rfl, 0, rfl, by rw [fe_zero, (show (0 : Rat).num = 0 from rfl), (z0).1, (z0).2.1, (z0).2.2, lo_small Bs_pos, hs_small Bs_pos]; exact hL0⟩
  case round =>
    clear hL0 hweq
    obtain ⟨i, hi, rfl, q, hq, hL0⟩ := hrel
    rcases Nat.lt_or_ge i n with hin | hin
    · obtain ⟨g, rfl, hfs⟩ := hcell.out (by omega)
      have hf := (hfs.below hL0.bl).cell i (by omega)
      have k2 : decide ((i : Int) < (n : Int)) = true := decide_eq_true (by omega)
      have k1 : (i : Int) < (n : Int) := by omega
      have hlen : qs.length = n := by omega
      obtain ⟨a, ha⟩ : ∃ a, a = qs[i]'(by omega) := ⟨_, rfl⟩
      rw [← ha] at hf
      have hmem : a ∈ qs := by rw [ha]; exact List.getElem_mem _
      have htk : qs.take (i + 1) = qs.take i ++ [a] := by rw [List.take_succ_eq_append_getElem (by omega), ha]
      clear ha
      obtain ⟨f0, f1, f2, f3, f4⟩ := hf
      by_cases hi0 : i = 0
      · subst hi0
        have ek : (((0 : Nat) : Int) == 0) = true := rfl
        have kn : 0 < n := by omega
        have kd : decide (0 < n) = true := decide_eq_true kn
        simp only [Nat.zero_mul, Nat.zero_add] at f0 f1 f2 f3 f4
        replace htk := Lib.hid htk
        replace hq := Lib.hid hq
        replace hlen := Lib.hid hlen
        clear k1 hin hi
        replace hL0 := (hL0.new rfl [.int .u64 ((zl a.num : Nat) : Int), .string (zh a.num), .bool (zs a.num), .int .u64 ((lo (fe a) : Nat) : Int), .string (hs (fe a))] 35)
        generalize hweq : (wr.alloc (.cells #[.int .u64 ((zl a.num : Nat) : Int), .string (zh a.num), .bool (zs a.num), .int .u64 ((lo (fe a) : Nat) : Int), .string (hs (fe a))] 35)) = x2 at hL0
        have hA := hL0.fc
        simp only [fcG, cellsF, neK, and_true, ne_eq, Nat.zero_add, Nat.reduceAdd] at hA
        have hP := hL0.put 1 (w.heap.size + 1 + 1) _ rfl [.int .u64 ((zl a.num : Nat) : Int), .string (zh a.num), .bool (zs a.num), .int .u64 ((lo (fe a) : Nat) : Int), .string (hs (fe a))] rfl
        simp only [setAll, List.set_cons_zero, List.set_cons_succ] at hP
        generalize hput1 : (((((x2.setCell ⟨w.heap.size + 1 + 1, 0, none⟩ (.int .u64 ((zl a.num : Nat) : Int))).setCell ⟨w.heap.size + 1 + 1, 1, none⟩ (.string (zh a.num))).setCell ⟨w.heap.size + 1 + 1, 2, none⟩ (.bool (zs a.num))).setCell ⟨w.heap.size + 1 + 1, 3, none⟩ (.int .u64 ((lo (fe a) : Nat) : Int))).setCell ⟨w.heap.size + 1 + 1, 4, none⟩ (.string (hs (fe a)))) = x3 at hP
        have hB1 := hP.fc
        simp only [fcG, cellsF, neK, and_true, ne_eq, Nat.zero_add, Nat.reduceAdd] at hB1
        replace hL0 := hP
        go_wp2_with fail
        go_roundw
        case rel => exact ⟨0 + 1, by omega, by first | rfl | go_num, a, by rw [htk.out]; rfl, hL0.weak (List.Sublist.cons _ (List.Sublist.refl _))⟩
        case measure => simp [intOf]; omega
      · have ek : ((i : Int) == 0) = false := beq_eq_false_iff_ne.2 (by omega)
        have hne : qs.take i ≠ [] := fun e => by have := congrArg List.length e; rw [List.length_take, List.length_nil] at this; omega
        have hsn := Lib.hid (amg_snoc gtQ (qs.take i) a hne)
        clear hne
        have hqm : q = 0 ∨ q ∈ qs := .inr (by rw [hq]; exact List.mem_of_mem_take (amg_mem gtQ (qs.take i) (fun e => by have := congrArg List.length e; rw [List.length_take, List.length_nil] at this; omega)))
        have hqm2 : q ∈ qs := by rw [hq]; exact List.mem_of_mem_take (amg_mem gtQ (qs.take i) (fun e => by have := congrArg List.length e; rw [List.length_take, List.length_nil] at this; omega))
        clear hqm
        have HB1 := Lib.hid (HB.out a q hmem hqm2)
        clear hmem hqm2
        replace htk := Lib.hid htk
        replace hq := Lib.hid hq
        replace hlen := Lib.hid hlen
        obtain ⟨d, hd⟩ : ∃ d, d = gtQ a q := ⟨_, rfl⟩
        rw [← hd] at HB1
        replace hd := Lib.hid hd
        have k3 := Lib.hid hi
        have k4 := Lib.hid hin
        replace hL0 := (hL0.new rfl [.int .u64 ((zl a.num : Nat) : Int), .string (zh a.num), .bool (zs a.num), .int .u64 ((lo (fe a) : Nat) : Int), .string (hs (fe a))] 35)
        generalize hweq : (wr.alloc (.cells #[.int .u64 ((zl a.num : Nat) : Int), .string (zh a.num), .bool (zs a.num), .int .u64 ((lo (fe a) : Nat) : Int), .string (hs (fe a))] 35)) = x4 at hL0
        have hA := hL0.fc
        simp only [fcG, cellsF, neK, and_true, ne_eq, Nat.zero_add, Nat.reduceAdd] at hA
        go_wp2_with fail
        clear hA
        with_reducible refine Calls.mono (HB1.out _) ?_
        rintro e x5 ⟨rfl, hb⟩
        replace hL0 := hL0.call hb
        clear hb hweq
        cases d with
        | true =>
          have hA := hL0.fc
          simp only [fcG, cellsF, neK, and_true, ne_eq, Nat.zero_add, Nat.reduceAdd] at hA
          have hP := hL0.put 1 (w.heap.size + 1 + 1) _ rfl [.int .u64 ((zl a.num : Nat) : Int), .string (zh a.num), .bool (zs a.num), .int .u64 ((lo (fe a) : Nat) : Int), .string (hs (fe a))] rfl
          simp only [setAll, List.set_cons_zero, List.set_cons_succ] at hP
          generalize hput2 : (((((x5.setCell ⟨w.heap.size + 1 + 1, 0, none⟩ (.int .u64 ((zl a.num : Nat) : Int))).setCell ⟨w.heap.size + 1 + 1, 1, none⟩ (.string (zh a.num))).setCell ⟨w.heap.size + 1 + 1, 2, none⟩ (.bool (zs a.num))).setCell ⟨w.heap.size + 1 + 1, 3, none⟩ (.int .u64 ((lo (fe a) : Nat) : Int))).setCell ⟨w.heap.size + 1 + 1, 4, none⟩ (.string (hs (fe a)))) = x6 at hP
          have hB2 := hP.fc
          simp only [fcG, cellsF, neK, and_true, ne_eq, Nat.zero_add, Nat.reduceAdd] at hB2
          replace hL0 := hP
          go_wp2_with fail
          go_roundw
          case rel => exact ⟨i + 1, by omega, by first | rfl | go_num, a, by rw [htk.out, hsn.out, ← hq.out, if_pos hd.out.symm], hL0.weak (List.Sublist.cons _ (List.Sublist.refl _))⟩
          case measure => simp [intOf]; omega
        | false =>
          have hA := hL0.fc
          simp only [fcG, cellsF, neK, and_true, ne_eq, Nat.zero_add, Nat.reduceAdd] at hA
          go_wp2_with fail
          go_roundw
          case rel => exact ⟨i + 1, by omega, by first | rfl | go_num, q, by rw [htk.out, hsn.out, ← hq.out, if_neg (by rw [← hd.out]; exact Bool.false_ne_true)], hL0.weak (List.Sublist.cons _ (List.Sublist.refl _))⟩
          case measure => simp [intOf]; omega
    · obtain rfl : i = n := by omega
      have k2 : decide ((i : Int) < (i : Int)) = false := decide_eq_false (by omega)
      have hqq : q = amg gtQ qs := by rw [hq, List.take_of_length_le (by omega)]
      clear hq
      replace hqq := Lib.hid hqq
      replace hle := Lib.hid hle
      have hA := hL0.fc
      simp only [fcG, cellsF, neK, and_true, ne_eq, Nat.zero_add, Nat.reduceAdd] at hA
      have hP := hL0.put 1 (w.heap.size + 1) _ rfl [.int .u64 ((zl q.num : Nat) : Int), .string (zh q.num), .bool (zs q.num), .int .u64 ((lo (fe q) : Nat) : Int), .string (hs (fe q))] rfl
      simp only [setAll, List.set_cons_zero, List.set_cons_succ] at hP
      generalize hput3 : (((((wr.setCell ⟨w.heap.size + 1, 0, none⟩ (.int .u64 ((zl q.num : Nat) : Int))).setCell ⟨w.heap.size + 1, 1, none⟩ (.string (zh q.num))).setCell ⟨w.heap.size + 1, 2, none⟩ (.bool (zs q.num))).setCell ⟨w.heap.size + 1, 3, none⟩ (.int .u64 ((lo (fe q) : Nat) : Int))).setCell ⟨w.heap.size + 1, 4, none⟩ (.string (hs (fe q)))) = x6 at hP
      have hB3 := hP.fc
      simp only [fcG, cellsF, neK, and_true, ne_eq, Nat.zero_add, Nat.reduceAdd] at hB3
      replace hL0 := hP
      go_wp2_with fail
      exact bodyPost_ret (v := fracV q) (by simp [results, Tryz.results97, go_sem, hB3]) rfl ⟨by rw [hqq.out], hL0.bl⟩

set_option maxHeartbeats 4000000 in
set_option maxRecDepth 100000 in
theorem among_min (ao : Option Addr) (n c : Nat) (qs : List Rat) (HB : ∀ p q, p ∈ qs → q ∈ qs → ∀ w, Calls Tryz.prog 137 #[fracV p, fracV q] w fun xe w' => xe = .returned (.bool (ltQ p q)) ∧ Below w.heap.size w w') (w : World) (hq : SlQ w (.slice ao n c) qs) (hn : (0 < n → ∃ g, ao = some ⟨g, 0, none⟩ ∧ FS w g qs) ∧ qs.length = n ∧ n ≤ 1000000) :
    Calls Tryz.prog 97 #[.agg #[.func (.func 137) #[] #[]], .slice ao n c] w fun xe w' => xe = .returned (fracV (amg ltQ qs)) ∧ Below w.heap.size w w' := by
  have hL0 : GL w w [] := GL.start w
  have HB := Lib.hid HB
  have hle := hn.2
  have hcell := Lib.hid hn.1
  clear hn
  replace hL0 := (((hL0.new rfl [.func (.func 137) #[] #[]] 142).new (K := w.heap.size + 1) (szA _ _) [.int .u64 0, .string ⟨#[]⟩, .bool false, .int .u64 0, .string ⟨#[]⟩] 35).new (K := w.heap.size + 1 + 1) (by simp only [World.size_alloc]) [.int .u64 0, .string ⟨#[]⟩, .bool false, .int .u64 0, .string ⟨#[]⟩] 35)
  generalize hweq : (((w.alloc (.cells #[.func (.func 137) #[] #[]] 142)).alloc (.cells #[.int .u64 0, .string ⟨#[]⟩, .bool false, .int .u64 0, .string ⟨#[]⟩] 35)).alloc (.cells #[.int .u64 0, .string ⟨#[]⟩, .bool false, .int .u64 0, .string ⟨#[]⟩] 35)) = x1 at hL0
  have hsl := Lib.hid (SlQ.below hq hL0.bl)
  clear hq
  go_enter Tryz.func97, Tryz.ntmps97
  have hA := hL0.fc
  simp only [fcG, cellsF, neK, and_true, ne_eq, Nat.zero_add, Nat.reduceAdd] at hA
  go_wp2_with fail
  clear hA
  go_loopw [10] (fun z wr => ∃ i : Nat, i ≤ n ∧ z = .int .i64 (i : Int) ∧ ∃ q : Rat, q = amg ltQ (qs.take i) ∧ GL w wr [(w.heap.size + 1 + 1, [.int .u64 ((zl q.num : Nat) : Int), .string (zh q.num), .bool (zs q.num), .int .u64 ((lo (fe q) : Nat) : Int), .string (hs (fe q))]), (w.heap.size + 1, [.int .u64 0, .string ⟨#[]⟩, .bool false, .int .u64 0, .string ⟨#[]⟩]), (w.heap.size, [.func (.func 137) #[] #[]])]) (fun z _ => n - (intOf z).toNat)
  case atStart => exact ⟨0, Nat.zero_le _, rfl, 0, rfl, by rw [fe_zero, (show (0 : Rat).num = 0 from rfl), (z0).1, (z0).2.1, (z0).2.2, lo_small Bs_pos, hs_small Bs_pos]; exact hL0⟩
  case round =>
    clear hL0 hweq
    obtain ⟨i, hi, rfl, q, hq, hL0⟩ := hrel
    rcases Nat.lt_or_ge i n with hin | hin
    · obtain ⟨g, rfl, hfs⟩ := hcell.out (by omega)
      have hf := (hfs.below hL0.bl).cell i (by omega)
      have k2 : decide ((i : Int) < (n : Int)) = true := decide_eq_true (by omega)
      have k1 : (i : Int) < (n : Int) := by omega
      have hlen : qs.length = n := by omega
      obtain ⟨a, ha⟩ : ∃ a, a = qs[i]'(by omega) := ⟨_, rfl⟩
      rw [← ha] at hf
      have hmem : a ∈ qs := by rw [ha]; exact List.getElem_mem _
      have htk : qs.take (i + 1) = qs.take i ++ [a] := by rw [List.take_succ_eq_append_getElem (by omega), ha]
      clear ha
      obtain ⟨f0, f1, f2, f3, f4⟩ := hf
      by_cases hi0 : i = 0
      · subst hi0
        have ek : (((0 : Nat) : Int) == 0) = true := rfl
        have kn : 0 < n := by omega
        have kd : decide (0 < n) = true := decide_eq_true kn
        simp only [Nat.zero_mul, Nat.zero_add] at f0 f1 f2 f3 f4
        replace htk := Lib.hid htk
        replace hq := Lib.hid hq
        replace hlen := Lib.hid hlen
        clear k1 hin hi
        replace hL0 := (hL0.new rfl [.int .u64 ((zl a.num : Nat) : Int), .string (zh a.num), .bool (zs a.num), .int .u64 ((lo (fe a) : Nat) : Int), .string (hs (fe a))] 35)
        generalize hweq : (wr.alloc (.cells #[.int .u64 ((zl a.num : Nat) : Int), .string (zh a.num), .bool (zs a.num), .int .u64 ((lo (fe a) : Nat) : Int), .string (hs (fe a))] 35)) = x2 at hL0
        have hA := hL0.fc
        simp only [fcG, cellsF, neK, and_true, ne_eq, Nat.zero_add, Nat.reduceAdd] at hA
        have hP := hL0.put 1 (w.heap.size + 1 + 1) _ rfl [.int .u64 ((zl a.num : Nat) : Int), .string (zh a.num), .bool (zs a.num), .int .u64 ((lo (fe a) : Nat) : Int), .string (hs (fe a))] rfl
        simp only [setAll, List.set_cons_zero, List.set_cons_succ] at hP
        generalize hput1 : (((((x2.setCell ⟨w.heap.size + 1 + 1, 0, none⟩ (.int .u64 ((zl a.num : Nat) : Int))).setCell ⟨w.heap.size + 1 + 1, 1, none⟩ (.string (zh a.num))).setCell ⟨w.heap.size + 1 + 1, 2, none⟩ (.bool (zs a.num))).setCell ⟨w.heap.size + 1 + 1, 3, none⟩ (.int .u64 ((lo (fe a) : Nat) : Int))).setCell ⟨w.heap.size + 1 + 1, 4, none⟩ (.string (hs (fe a)))) = x3 at hP
        have hB1 := hP.fc
        simp only [fcG, cellsF, neK, and_true, ne_eq, Nat.zero_add, Nat.reduceAdd] at hB1
        replace hL0 := hP
        go_wp2_with fail
        go_roundw
        case rel => exact ⟨0 + 1, by omega, by first | rfl | go_num, a, by rw [htk.out]; rfl, hL0.weak (List.Sublist.cons _ (List.Sublist.refl _))⟩
        case measure => simp [intOf]; omega
      · have ek : ((i : Int) == 0) = false := beq_eq_false_iff_ne.2 (by omega)
        have hne : qs.take i ≠ [] := fun e => by have := congrArg List.length e; rw [List.length_take, List.length_nil] at this; omega
        have hsn := Lib.hid (amg_snoc ltQ (qs.take i) a hne)
        clear hne
        have hqm : q = 0 ∨ q ∈ qs := .inr (by rw [hq]; exact List.mem_of_mem_take (amg_mem ltQ (qs.take i) (fun e => by have := congrArg List.length e; rw [List.length_take, List.length_nil] at this; omega)))
        have hqm2 : q ∈ qs := by rw [hq]; exact List.mem_of_mem_take (amg_mem ltQ (qs.take i) (fun e => by have := congrArg List.length e; rw [List.length_take, List.length_nil] at this; omega))
        clear hqm
        have HB1 := Lib.hid (HB.out a q hmem hqm2)
        clear hmem hqm2
        replace htk := Lib.hid htk
        replace hq := Lib.hid hq
        replace hlen := Lib.hid hlen
        obtain ⟨d, hd⟩ : ∃ d, d = ltQ a q := ⟨_, rfl⟩
        rw [← hd] at HB1
        replace hd := Lib.hid hd
        have k3 := Lib.hid hi
        have k4 := Lib.hid hin
        replace hL0 := (hL0.new rfl [.int .u64 ((zl a.num : Nat) : Int), .string (zh a.num), .bool (zs a.num), .int .u64 ((lo (fe a) : Nat) : Int), .string (hs (fe a))] 35)
        generalize hweq : (wr.alloc (.cells #[.int .u64 ((zl a.num : Nat) : Int), .string (zh a.num), .bool (zs a.num), .int .u64 ((lo (fe a) : Nat) : Int), .string (hs (fe a))] 35)) = x4 at hL0
        have hA := hL0.fc
        simp only [fcG, cellsF, neK, and_true, ne_eq, Nat.zero_add, Nat.reduceAdd] at hA
        go_wp2_with fail
        clear hA
        with_reducible refine Calls.mono (HB1.out _) ?_
        rintro e x5 ⟨rfl, hb⟩
        replace hL0 := hL0.call hb
        clear hb hweq
        cases d with
        | true =>
          have hA := hL0.fc
          simp only [fcG, cellsF, neK, and_true, ne_eq, Nat.zero_add, Nat.reduceAdd] at hA
          have hP := hL0.put 1 (w.heap.size + 1 + 1) _ rfl [.int .u64 ((zl a.num : Nat) : Int), .string (zh a.num), .bool (zs a.num), .int .u64 ((lo (fe a) : Nat) : Int), .string (hs (fe a))] rfl
          simp only [setAll, List.set_cons_zero, List.set_cons_succ] at hP
          generalize hput2 : (((((x5.setCell ⟨w.heap.size + 1 + 1, 0, none⟩ (.int .u64 ((zl a.num : Nat) : Int))).setCell ⟨w.heap.size + 1 + 1, 1, none⟩ (.string (zh a.num))).setCell ⟨w.heap.size + 1 + 1, 2, none⟩ (.bool (zs a.num))).setCell ⟨w.heap.size + 1 + 1, 3, none⟩ (.int .u64 ((lo (fe a) : Nat) : Int))).setCell ⟨w.heap.size + 1 + 1, 4, none⟩ (.string (hs (fe a)))) = x6 at hP
          have hB2 := hP.fc
          simp only [fcG, cellsF, neK, and_true, ne_eq, Nat.zero_add, Nat.reduceAdd] at hB2
          replace hL0 := hP
          go_wp2_with fail
          go_roundw
          case rel => exact ⟨i + 1, by omega, by first | rfl | go_num, a, by rw [htk.out, hsn.out, ← hq.out, if_pos hd.out.symm], hL0.weak (List.Sublist.cons _ (List.Sublist.refl _))⟩
          case measure => simp [intOf]; omega
        | false =>
          have hA := hL0.fc
          simp only [fcG, cellsF, neK, and_true, ne_eq, Nat.zero_add, Nat.reduceAdd] at hA
          go_wp2_with fail
          go_roundw
          case rel => exact ⟨i + 1, by omega, by first | rfl | go_num, q, by rw [htk.out, hsn.out, ← hq.out, if_neg (by rw [← hd.out]; exact Bool.false_ne_true)], hL0.weak (List.Sublist.cons _ (List.Sublist.refl _))⟩
          case measure => simp [intOf]; omega
    · obtain rfl : i = n := by omega
      have k2 : decide ((i : Int) < (i : Int)) = false := decide_eq_false (by omega)
      have hqq : q = amg ltQ qs := by rw [hq, List.take_of_length_le (by omega)]
      clear hq
      replace hqq := Lib.hid hqq
      replace hle := Lib.hid hle
      have hA := hL0.fc
      simp only [fcG, cellsF, neK, and_true, ne_eq, Nat.zero_add, Nat.reduceAdd] at hA
      have hP := hL0.put 1 (w.heap.size + 1) _ rfl [.int .u64 ((zl q.num : Nat) : Int), .string (zh q.num), .bool (zs q.num), .int .u64 ((lo (fe q) : Nat) : Int), .string (hs (fe q))] rfl
      simp only [setAll, List.set_cons_zero, List.set_cons_succ] at hP
      generalize hput3 : (((((wr.setCell ⟨w.heap.size + 1, 0, none⟩ (.int .u64 ((zl q.num : Nat) : Int))).setCell ⟨w.heap.size + 1, 1, none⟩ (.string (zh q.num))).setCell ⟨w.heap.size + 1, 2, none⟩ (.bool (zs q.num))).setCell ⟨w.heap.size + 1, 3, none⟩ (.int .u64 ((lo (fe q) : Nat) : Int))).setCell ⟨w.heap.size + 1, 4, none⟩ (.string (hs (fe q)))) = x6 at hP
      have hB3 := hP.fc
      simp only [fcG, cellsF, neK, and_true, ne_eq, Nat.zero_add, Nat.reduceAdd] at hB3
      replace hL0 := hP
      go_wp2_with fail
      exact bodyPost_ret (v := fracV q) (by simp [results, Tryz.results97, go_sem, hB3]) rfl ⟨by rw [hqq.out], hL0.bl⟩

end Go.Proofs.YtecdnohhengfaabGreatDoor

/-
  Layer 3: the contracts of powers, texts, Parse, Max, Min, the law package's own functions, in Lean's Rat.
-/
namespace Go.Proofs.YtecdnohhengfaabGreatDoor
open Go.RowKit
attribute [local irreducible] lo hs sm s64 c64 d64 b64 mh ml pd pc qd qc val hiB str cmpI srD lz nb isq decB zl zh zs

theorem int_pow_sgn (z : Int) : ∀ k : Nat, z ^ k = if (decide (z < 0) && decide (k % 2 = 1)) = true then -((z.natAbs ^ k : Nat) : Int) else ((z.natAbs ^ k : Nat) : Int)
  | 0 => by simp
  | k + 1 => by
    rw [Int.pow_succ, int_pow_sgn z k, Nat.pow_succ]
    by_cases h : z < 0
    · rw [decide_eq_true h, Bool.true_and, Bool.true_and]
      have e : z = -(z.natAbs : Int) := by omega
      rcases Nat.mod_two_eq_zero_or_one k with hk | hk
      · rw [decide_eq_false (p := k % 2 = 1) (by omega), decide_eq_true (p := (k + 1) % 2 = 1) (by omega), if_neg Bool.false_ne_true, if_pos rfl]
        conv => lhs; rw [e]
        rw [Int.mul_neg, Int.natAbs_neg, Int.natAbs_natCast, Int.natCast_mul]
      · rw [decide_eq_true hk, decide_eq_false (p := (k + 1) % 2 = 1) (by omega), if_neg Bool.false_ne_true, if_pos rfl]
        conv => lhs; rw [e]
        rw [Int.neg_mul_neg, Int.natAbs_neg, Int.natAbs_natCast, Int.natCast_mul]
    · rw [decide_eq_false h, Bool.false_and, Bool.false_and, if_neg Bool.false_ne_true, if_neg Bool.false_ne_true]
      have e : z = (z.natAbs : Int) := by omega
      conv => lhs; rw [e]
      rw [Int.natAbs_natCast, Int.natCast_mul]
theorem odd_tmod (k : Nat) : (((k : Int).tmod 2) == 1) = decide (k % 2 = 1) := by
  rw [show (2 : Int) = ((2 : Nat) : Int) from rfl, ← Int.ofNat_tmod]
  by_cases h : k % 2 = 1
  · rw [h, decide_eq_true rfl]; rfl
  · rw [show k % 2 = 0 by omega]; rfl
theorem dec_sgnQ (q : Rat) : decide (sgnQ q < 0) = decide (q.num < 0) := by
  have : sgnQ q < 0 ↔ q.num < 0 := by rw [sgnQ_num]; split <;> (try split) <;> omega
  simp only [this]
theorem powerF (q : Rat) (k : Nat) (hk : k ≤ 4096) (hn : k = 0 ∨ nb q.num.natAbs ≤ 262144 / k) (hd : k = 0 ∨ nb q.den ≤ 262144 / k) (m : Nat) (hq : Sz q m) (hm : m ≤ 100000000) (w : World) :
    Calls Tryz.prog 94 #[fracV q, .int .i64 (k : Int)] w fun x w' => x = .returned (.tuple #[fracV (q ^ k), .int .i64 0]) ∧ Below w.heap.size w w' := by
  have hs := dec_sgnQ q
  have hP := fun w => pow_ok q.num.natAbs k hk hn (Nat.le_trans hq.1 (by omega)) w
  have hQ := fun w => pow_ok q.den k hk hd (Nat.le_trans hq.2 (by omega)) w
  have hF := fun w => fromI (decide (q.num < 0) && decide (k % 2 = 1)) (q.num.natAbs ^ k) (q.num ^ k) (int_pow_sgn q.num k) w
  have hL := fun w => lowestF (Rat.num_pow q k) (Rat.den_pow q k) w
  by_cases h : q.num < 0
  · rw [decide_eq_true h] at hs hF
    rw [Bool.true_and] at hF
    by_cases ho : k % 2 = 1
    · rw [decide_eq_true ho] at hF
      exact fpower_odd q.num _ _ _ (fe q) _ q.den _ _ _ _ (fun w => absI q.num w) hP (denF q) hQ (signF q) hF hL hs (by rw [odd_tmod, decide_eq_true ho]) w
    · rw [decide_eq_false ho] at hF
      exact fpower_even q.num _ _ _ (fe q) _ q.den _ _ _ _ (fun w => absI q.num w) hP (denF q) hQ (signF q) hF hL hs (by rw [odd_tmod, decide_eq_false ho]) w
  · rw [decide_eq_false h] at hs hF
    rw [Bool.false_and] at hF
    exact fpower_pos q.num _ _ _ (fe q) _ q.den _ _ _ _ (fun w => absI q.num w) hP (denF q) hQ (signF q) hF hL hs w
theorem powerF_over (q : Rat) (k : Nat) (h0 : 0 < k) (hk : k ≤ 4096) (hg : 262144 / k < nb q.num.natAbs ∨ 262144 / k < nb q.den) (m : Nat) (hq : Sz q m) (hm : m ≤ 100000000) (w : World) :
    Calls Tryz.prog 94 #[fracV q, .int .i64 (k : Int)] w fun x w' => x = .returned (.tuple #[fracV 0, .int .i64 3]) ∧ Below w.heap.size w w' := by
  rw [show fracV 0 = frV 0 0 from rfl, frV_00]
  by_cases hn : 262144 / k < nb q.num.natAbs
  · exact fpower_num q.num (fe q) _ 0 _ (fun w => absI q.num w) (fun w => pow_over q.num.natAbs k h0 hk hn (Nat.le_trans hq.1 (by omega)) w) w
  · exact fpower_den q.num (fe q) _ q.den _ 0 _ (fun w => absI q.num w) (fun w => pow_ok q.num.natAbs k hk (.inr (by omega)) (Nat.le_trans hq.1 (by omega)) w) (denF q) (fun w => pow_over q.den k h0 hk (hg.resolve_left hn) (Nat.le_trans hq.2 (by omega)) w) w
theorem powF_arg (q : Rat) (k : Int) (h : k < -4096 ∨ 4096 < k) (w : World) :
    Calls Tryz.prog 33 #[fracV q, .int .i64 k] w fun x w' => x = .returned (.tuple #[fracV 0, .int .i64 1]) ∧ Below w.heap.size w w' := by
  rw [show fracV 0 = frV 0 0 from rfl, frV_00]
  by_cases h1 : k < -4096
  · exact fpow_low q.num (fe q) k (decide_eq_true h1) w
  · exact fpow_high q.num (fe q) k (decide_eq_false h1) (decide_eq_true (by omega)) w
theorem powF_pos (q : Rat) (k : Nat) (hk : k ≤ 4096) (p : Rat) (c : Int) (HP : ∀ w, Calls Tryz.prog 94 #[fracV q, .int .i64 (k : Int)] w fun x w' => x = .returned (.tuple #[fracV p, .int .i64 c]) ∧ Below w.heap.size w w') (w : World) :
    Calls Tryz.prog 33 #[fracV q, .int .i64 (k : Int)] w fun x w' => x = .returned (.tuple #[fracV p, .int .i64 c]) ∧ Below w.heap.size w w' :=
  fpow_pos q.num p.num c (fe q) (fe p) k HP (decide_eq_false (by omega)) (decide_eq_false (by omega)) (decide_eq_true (by omega)) w
theorem powF_zero (k : Int) (h1 : -4096 ≤ k) (h2 : k < 0) (w : World) :
    Calls Tryz.prog 33 #[fracV 0, .int .i64 k] w fun x w' => x = .returned (.tuple #[fracV 0, .int .i64 5]) ∧ Below w.heap.size w w' := by
  have h := fpow_zero k zero_i (decide_eq_false (by omega)) (decide_eq_false (by omega)) (decide_eq_false (by omega)) w
  rw [← frV_00] at h
  exact h
theorem powF_neg (q : Rat) (h0 : q ≠ 0) (k : Int) (l : Nat) (hl : k = -(l : Int)) (hp : 0 < l) (hk : l ≤ 4096) (p : Rat) (c : Int) (HP : ∀ w, Calls Tryz.prog 94 #[fracV q⁻¹, .int .i64 (l : Int)] w fun x w' => x = .returned (.tuple #[fracV p, .int .i64 c]) ∧ Below w.heap.size w w') (w : World) :
    Calls Tryz.prog 33 #[fracV q, .int .i64 k] w fun x w' => x = .returned (.tuple #[fracV p, .int .i64 c]) ∧ Below w.heap.size w w' :=
  fpow_neg q.num _ p.num c (fe q) _ (fe p) k l zero_i (invF q h0) HP (decide_eq_false (by omega)) (decide_eq_false (by omega)) (decide_eq_false (by omega)) (by rw [hl, Int.neg_neg]; exact IntWalk.i64_in _ (by omega)) (num_ne h0) w

/-- A fraction's text. -/
def qtxt (q : Rat) : ByteArray := if q.den = 1 then ztxt q.num else ztxt q.num ++ (ByteArray.mk #[47]) ++ txt q.den
theorem ztxt_small {z : Int} {k : Nat} (hk : 0 < k) (h : dI z ≤ k) : (ztxt z).size ≤ 20 * k + 1 := by
  have h1 := txt_small (n := z.natAbs) hk h
  unfold ztxt
  split
  · rw [ByteArray.size_append]
    have : (ByteArray.mk #[45]).size = 1 := rfl
    omega
  · omega
theorem textF (q : Rat) (k : Nat) (hq : Sz q k) (hk : k ≤ 100000) (w : World) (htab : Tab w) : Calls Tryz.prog 9 #[fracV q] w fun x w' => x = .returned (.string (qtxt q)) ∧ Below w.heap.size w w' := by
  have hT := fun w h => textI q.num (Nat.le_trans hq.1 (by omega)) w h
  unfold qtxt
  by_cases h : q.den = 1
  · rw [if_pos h, show fracV q = frV q.num 0 by unfold fracV; rw [fe_one h]]
    exact ftext_whole q.num _ (fun w => by have := whole_raw q.num 0 w; rwa [decide_eq_true rfl] at this) hT w htab
  · rw [if_neg h, show fracV q = frV q.num q.den by unfold fracV; rw [fe_ne h]]
    have s1 := ztxt_small (k := 100000) (by omega) (Nat.le_trans hq.1 hk)
    have s2 := txt_small (n := q.den) (k := 100000) (by omega) (Nat.le_trans hq.2 hk)
    exact ftext_part q.num q.den _ _ (fun w => by have := whole_raw q.num q.den w; rwa [decide_eq_false q.den_nz] at this) hT (fun w h => text_any q.den (Nat.le_trans hq.2 (by omega)) w h) (by omega) (by omega) w htab

theorem greaterF (p q : Rat) (k : Nat) (hp : Sz p k) (hq : Sz q k) (hk : k ≤ 100000000) (w : World) : Calls Tryz.prog 96 #[fracV p, fracV q] w fun x w' => x = .returned (.bool (gtQ p q)) ∧ Below w.heap.size w w' := by
  have h := cmpQ_gt p q
  cases hb : gtQ p q with
  | true => rw [hb] at h; exact gtr_true p.num q.num _ (fe p) (fe q) (cmpF p q k hp hq hk) h w
  | false => rw [hb] at h; exact gtr_false p.num q.num _ (fe p) (fe q) (cmpF p q k hp hq hk) h w
theorem lessF (p q : Rat) (k : Nat) (hp : Sz p k) (hq : Sz q k) (hk : k ≤ 100000000) (w : World) : Calls Tryz.prog 137 #[fracV p, fracV q] w fun x w' => x = .returned (.bool (ltQ p q)) ∧ Below w.heap.size w w' := by
  have h := cmpQ_lt p q
  cases hb : ltQ p q with
  | true => rw [hb] at h; exact lss_true p.num q.num _ (fe p) (fe q) (cmpF p q k hp hq hk) h w
  | false => rw [hb] at h; exact lss_false p.num q.num _ (fe p) (fe q) (cmpF p q k hp hq hk) h w
end Go.Proofs.YtecdnohhengfaabGreatDoor

/-
  Layer 3, the law package: constants, Max, Min.
-/
namespace Go.Proofs.YtecdnohhengfaabGreatDoor
open Go.RowKit
attribute [local irreducible] lo hs sm s64 c64 d64 b64 mh ml pd pc qd qc val hiB str cmpI srD lz nb isq decB zl zh zs

theorem szc (q : Rat) (h1 : q.num.natAbs < 18446744073709551616) (h2 : q.den < 18446744073709551616) : Sz q 1 :=
  ⟨digs_length_iff.2 (by rw [Nat.pow_one]; exact h1), digs_length_iff.2 (by rw [Nat.pow_one]; exact h2)⟩
theorem frV_q0 : fracV 0 = .agg #[.int .u64 0, .string ⟨#[]⟩, .bool false, .int .u64 0, .string ⟨#[]⟩] := frV_00
theorem lof_0 (i j c : Int) (HF : ∀ w, Calls Tryz.prog 26 #[.int .i64 i, .int .i64 j] w fun xe w' => xe = .returned (.tuple #[.agg #[.int .u64 0, .string ⟨#[]⟩, .bool false, .int .u64 0, .string ⟨#[]⟩], .int .i64 c]) ∧ Below w.heap.size w w') (w : World) :
    Calls Tryz.prog 25 #[.int .i64 i, .int .i64 j] w fun xe w' => xe = .returned (.agg #[.int .u64 0, .string ⟨#[]⟩, .bool false, .int .u64 0, .string ⟨#[]⟩]) ∧ Below w.heap.size w w' := by
  simp only [← frV_q0] at HF ⊢
  exact lof_w i j c (0 : Rat).num (fe 0) HF w
theorem ltext_0 (s : ByteArray) (HT : ∀ w, Tab w → Calls Tryz.prog 9 #[.agg #[.int .u64 0, .string ⟨#[]⟩, .bool false, .int .u64 0, .string ⟨#[]⟩]] w fun xe w' => xe = .returned (.string s) ∧ Below w.heap.size w w') (w : World) (htab : Tab w) :
    Calls Tryz.prog 29 #[.agg #[.int .u64 0, .string ⟨#[]⟩, .bool false, .int .u64 0, .string ⟨#[]⟩], .string s] w fun xe w' => xe = .returned (.bool true) ∧ Below w.heap.size w w' := by
  simp only [← frV_q0] at HT ⊢
  exact ltext_true (0 : Rat).num (fe 0) s HT w htab
theorem txt1 (d : Nat) (h : d < 10) : txt d = ⟨#[dch d]⟩ := by unfold txt; rw [dec_small h]
theorem zt_pos (d : Nat) (h : d < 10) : ztxt (d : Int) = ⟨#[dch d]⟩ := by unfold ztxt; rw [if_neg (by omega), Int.natAbs_natCast, txt1 d h]
theorem zt_neg (d : Nat) (h : d < 10) (h0 : 0 < d) : ztxt (-(d : Int)) = ⟨#[45, dch d]⟩ := by
  unfold ztxt; rw [if_pos (by omega), Int.natAbs_neg, Int.natAbs_natCast, txt1 d h]; rfl
theorem qt_int {q : Rat} {z : Int} (h1 : q.den = 1) (h2 : q.num = z) : qtxt q = ztxt z := by unfold qtxt; rw [if_pos h1, h2]
theorem qt_part {q : Rat} {z : Int} {d : Nat} (h1 : q.den = d) (hd : d ≠ 1) (h2 : q.num = z) : qtxt q = ztxt z ++ ByteArray.mk #[47] ++ txt d := by unfold qtxt; rw [if_neg (by rw [h1]; exact hd), h1, h2]
theorem zt_n2 : ztxt (-2 : Int) = (ByteArray.mk #[45, 50]) := zt_neg 2 (by decide) (by decide)
theorem zt_n1 : ztxt (-1 : Int) = (ByteArray.mk #[45, 49]) := zt_neg 1 (by decide) (by decide)
theorem qt_n3_2 : qtxt (mkRat (-3) 2) = (ByteArray.mk #[45, 51, 47, 50]) := by
  rw [qt_part (d := 2) (z := -3) (by decide +kernel) (by decide) (by decide +kernel), txt1 2 (by decide), show ztxt (-3 : Int) = _ from zt_neg 3 (by decide) (by decide)]; rfl
theorem qt_1 : qtxt ((1 : Int) : Rat) = (ByteArray.mk #[49]) := (qt_int (by decide +kernel) (by decide +kernel)).trans (zt_pos 1 (by decide))
theorem qt_5_6 : qtxt (mkRat (5) 6) = (ByteArray.mk #[53, 47, 54]) := by
  rw [qt_part (d := 6) (z := 5) (by decide +kernel) (by decide) (by decide +kernel), txt1 6 (by decide), show ztxt (5 : Int) = _ from zt_pos 5 (by decide)]; rfl
theorem qt_0 : qtxt (0 : Rat) = (ByteArray.mk #[48]) := (qt_int (by decide +kernel) (by decide +kernel)).trans (zt_pos 0 (by decide))
theorem qt_n2 : qtxt ((-2 : Int) : Rat) = (ByteArray.mk #[45, 50]) := (qt_int (by decide +kernel) (by decide +kernel)).trans (zt_neg 2 (by decide) (by decide))
theorem qt_9_4 : qtxt (mkRat (9) 4) = (ByteArray.mk #[57, 47, 52]) := by
  rw [qt_part (d := 4) (z := 9) (by decide +kernel) (by decide) (by decide +kernel), txt1 4 (by decide), show ztxt (9 : Int) = _ from zt_pos 9 (by decide)]; rfl
theorem qt_n1_2 : qtxt (mkRat (-1) 2) = (ByteArray.mk #[45, 49, 47, 50]) := by
  rw [qt_part (d := 2) (z := -1) (by decide +kernel) (by decide) (by decide +kernel), txt1 2 (by decide), show ztxt (-1 : Int) = _ from zt_neg 1 (by decide) (by decide)]; rfl
set_option maxHeartbeats 4000000 in
set_option maxRecDepth 100000 in
theorem fmax_w (ao : Option Addr) (n c : Nat) (x : Int) (e : Nat) (K : World → Prop) (hK : Keeps K) (HA : ∀ w, K w → Calls Tryz.prog 97 #[.agg #[.func (.func 96) #[] #[]], .slice ao n c] w fun xe w' => xe = .returned (.agg #[.int .u64 ((zl x : Nat) : Int), .string (zh x), .bool (zs x), .int .u64 ((lo e : Nat) : Int), .string (hs e)]) ∧ Below w.heap.size w w') (w : World) (kK : K w) :
    Calls Tryz.prog 36 #[.slice ao n c] w fun xe w' => xe = .returned (.agg #[.int .u64 ((zl x : Nat) : Int), .string (zh x), .bool (zs x), .int .u64 ((lo e : Nat) : Int), .string (hs e)]) ∧ Below w.heap.size w w' := by
  have hL0 : GL w w [] := GL.start w
  replace hK := Lib.hid hK
  replace HA := Lib.hid HA
  replace hL0 := (hL0.new rfl [.int .u64 0, .string ⟨#[]⟩, .bool false, .int .u64 0, .string ⟨#[]⟩] 35)
  generalize hweq : (w.alloc (.cells #[.int .u64 0, .string ⟨#[]⟩, .bool false, .int .u64 0, .string ⟨#[]⟩] 35)) = x1 at hL0
  go_enter Tryz.func36, Tryz.ntmps36
  go_wp2_with fail
  with_reducible refine Calls.mono (HA.out _ (hK.out.at hL0.bl kK)) ?_
  rintro e x2 ⟨rfl, hb⟩
  replace hL0 := hL0.call hb
  clear hb hweq
  have hA := hL0.fc
  simp only [fcG, cellsF, neK, and_true, ne_eq, Nat.zero_add, Nat.reduceAdd] at hA
  have hP := hL0.put 0 (w.heap.size) _ rfl [.int .u64 ((zl x : Nat) : Int), .string (zh x), .bool (zs x), .int .u64 ((lo e : Nat) : Int), .string (hs e)] rfl
  simp only [setAll, List.set_cons_zero, List.set_cons_succ] at hP
  generalize hput1 : (((((x2.setCell ⟨w.heap.size, 0, none⟩ (.int .u64 ((zl x : Nat) : Int))).setCell ⟨w.heap.size, 1, none⟩ (.string (zh x))).setCell ⟨w.heap.size, 2, none⟩ (.bool (zs x))).setCell ⟨w.heap.size, 3, none⟩ (.int .u64 ((lo e : Nat) : Int))).setCell ⟨w.heap.size, 4, none⟩ (.string (hs e))) = x3 at hP
  have hB1 := hP.fc
  simp only [fcG, cellsF, neK, and_true, ne_eq, Nat.zero_add, Nat.reduceAdd] at hB1
  replace hL0 := hP
  go_wp2_with fail
  exact bodyPost_ret (v := .agg #[.int .u64 ((zl x : Nat) : Int), .string (zh x), .bool (zs x), .int .u64 ((lo e : Nat) : Int), .string (hs e)]) (by simp [results, Tryz.results36, go_sem, hB1]) rfl ⟨rfl, hL0.bl⟩

set_option maxHeartbeats 4000000 in
set_option maxRecDepth 100000 in
theorem fmin_w (ao : Option Addr) (n c : Nat) (x : Int) (e : Nat) (K : World → Prop) (hK : Keeps K) (HA : ∀ w, K w → Calls Tryz.prog 97 #[.agg #[.func (.func 137) #[] #[]], .slice ao n c] w fun xe w' => xe = .returned (.agg #[.int .u64 ((zl x : Nat) : Int), .string (zh x), .bool (zs x), .int .u64 ((lo e : Nat) : Int), .string (hs e)]) ∧ Below w.heap.size w w') (w : World) (kK : K w) :
    Calls Tryz.prog 84 #[.slice ao n c] w fun xe w' => xe = .returned (.agg #[.int .u64 ((zl x : Nat) : Int), .string (zh x), .bool (zs x), .int .u64 ((lo e : Nat) : Int), .string (hs e)]) ∧ Below w.heap.size w w' := by
  have hL0 : GL w w [] := GL.start w
  replace hK := Lib.hid hK
  replace HA := Lib.hid HA
  replace hL0 := (hL0.new rfl [.int .u64 0, .string ⟨#[]⟩, .bool false, .int .u64 0, .string ⟨#[]⟩] 35)
  generalize hweq : (w.alloc (.cells #[.int .u64 0, .string ⟨#[]⟩, .bool false, .int .u64 0, .string ⟨#[]⟩] 35)) = x1 at hL0
  go_enter Tryz.func84, Tryz.ntmps84
  go_wp2_with fail
  with_reducible refine Calls.mono (HA.out _ (hK.out.at hL0.bl kK)) ?_
  rintro e x2 ⟨rfl, hb⟩
  replace hL0 := hL0.call hb
  clear hb hweq
  have hA := hL0.fc
  simp only [fcG, cellsF, neK, and_true, ne_eq, Nat.zero_add, Nat.reduceAdd] at hA
  have hP := hL0.put 0 (w.heap.size) _ rfl [.int .u64 ((zl x : Nat) : Int), .string (zh x), .bool (zs x), .int .u64 ((lo e : Nat) : Int), .string (hs e)] rfl
  simp only [setAll, List.set_cons_zero, List.set_cons_succ] at hP
  generalize hput1 : (((((x2.setCell ⟨w.heap.size, 0, none⟩ (.int .u64 ((zl x : Nat) : Int))).setCell ⟨w.heap.size, 1, none⟩ (.string (zh x))).setCell ⟨w.heap.size, 2, none⟩ (.bool (zs x))).setCell ⟨w.heap.size, 3, none⟩ (.int .u64 ((lo e : Nat) : Int))).setCell ⟨w.heap.size, 4, none⟩ (.string (hs e))) = x3 at hP
  have hB1 := hP.fc
  simp only [fcG, cellsF, neK, and_true, ne_eq, Nat.zero_add, Nat.reduceAdd] at hB1
  replace hL0 := hP
  go_wp2_with fail
  exact bodyPost_ret (v := .agg #[.int .u64 ((zl x : Nat) : Int), .string (zh x), .bool (zs x), .int .u64 ((lo e : Nat) : Int), .string (hs e)]) (by simp [results, Tryz.results84, go_sem, hB1]) rfl ⟨rfl, hL0.bl⟩

theorem slq_nil (w : World) : SlQ w (.slice none 0 0) [] := .inl ⟨none, 0, rfl, rfl⟩
theorem slq_parts {w : World} {ao : Option Addr} {n c : Nat} {qs : List Rat} (h : SlQ w (.slice ao n c) qs) (hl : qs.length ≤ 1000000) : (0 < n → ∃ g, ao = some ⟨g, 0, none⟩ ∧ FS w g qs) ∧ qs.length = n ∧ n ≤ 1000000 := by
  rcases h with ⟨a, c', h1, h2⟩ | ⟨g, c', h1, h2⟩
  · simp only [Value.slice.injEq] at h1
    obtain ⟨-, rfl, -⟩ := h1
    subst h2
    exact ⟨fun h => absurd h (Nat.lt_irrefl 0), rfl, by omega⟩
  · simp only [Value.slice.injEq] at h1
    obtain ⟨rfl, rfl, -⟩ := h1
    exact ⟨fun _ => ⟨g, rfl, h2⟩, rfl, hl⟩
theorem maxF (ao : Option Addr) (n c : Nat) (qs : List Rat) (k : Nat) (hk : k ≤ 100000000) (hl : qs.length ≤ 1000000) (hs : ∀ q ∈ qs, Sz q k) (w : World) (h : SlQ w (.slice ao n c) qs) :
    Calls Tryz.prog 36 #[.slice ao n c] w fun xe w' => xe = .returned (fracV (amg gtQ qs)) ∧ Below w.heap.size w w' :=
  fmax_w ao n c (amg gtQ qs).num (fe (amg gtQ qs)) _ (SlQ.keeps (.slice ao n c) qs) (fun w h => among_max ao n c qs (fun p q hp hq w => greaterF p q k (hs p hp) (hs q hq) hk w) w h (slq_parts h hl)) w h
theorem minF (ao : Option Addr) (n c : Nat) (qs : List Rat) (k : Nat) (hk : k ≤ 100000000) (hl : qs.length ≤ 1000000) (hs : ∀ q ∈ qs, Sz q k) (w : World) (h : SlQ w (.slice ao n c) qs) :
    Calls Tryz.prog 84 #[.slice ao n c] w fun xe w' => xe = .returned (fracV (amg ltQ qs)) ∧ Below w.heap.size w w' :=
  fmin_w ao n c (amg ltQ qs).num (fe (amg ltQ qs)) _ (SlQ.keeps (.slice ao n c) qs) (fun w h => among_min ao n c qs (fun p q hp hq w => lessF p q k (hs p hp) (hs q hq) hk w) w h (slq_parts h hl)) w h
theorem max_nil (w : World) : Calls Tryz.prog 36 #[.slice none 0 0] w fun xe w' => xe = .returned (.agg #[.int .u64 0, .string ⟨#[]⟩, .bool false, .int .u64 0, .string ⟨#[]⟩]) ∧ Below w.heap.size w w' := by
  have h := maxF none 0 0 [] 1 (by decide) (by decide) (fun q hq => by cases hq) w (slq_nil w)
  rw [show amg gtQ [] = (0 : Rat) from rfl, frV_q0] at h
  exact h
theorem slq_two {w : World} {g : Nat} {p q : Rat} (h : Hd w g [.int .u64 ((zl p.num : Nat) : Int), .string (zh p.num), .bool (zs p.num), .int .u64 ((lo (fe p) : Nat) : Int), .string (hs (fe p)), .int .u64 ((zl q.num : Nat) : Int), .string (zh q.num), .bool (zs q.num), .int .u64 ((lo (fe q) : Nat) : Int), .string (hs (fe q))]) : SlQ w (.slice (some ⟨g, 0, none⟩) 2 2) [p, q] :=
  .inr ⟨g, 2, rfl, ⟨fun i hi => by
    rcases (show i = 0 ∨ i = 1 by simp at hi; omega) with rfl | rfl
    · exact ⟨h.cell 0 (by simp), h.cell 1 (by simp), h.cell 2 (by simp), h.cell 3 (by simp), h.cell 4 (by simp)⟩
    · exact ⟨h.cell 5 (by simp), h.cell 6 (by simp), h.cell 7 (by simp), h.cell 8 (by simp), h.cell 9 (by simp)⟩, h.lt⟩⟩
theorem max_two (p q r : Rat) (hp : Sz p 1) (hq : Sz q 1) (hr : amg gtQ [p, q] = r) (g : Nat) (w : World) (h : Hd w g [.int .u64 ((zl p.num : Nat) : Int), .string (zh p.num), .bool (zs p.num), .int .u64 ((lo (fe p) : Nat) : Int), .string (hs (fe p)), .int .u64 ((zl q.num : Nat) : Int), .string (zh q.num), .bool (zs q.num), .int .u64 ((lo (fe q) : Nat) : Int), .string (hs (fe q))]) :
    Calls Tryz.prog 36 #[.slice (some ⟨g, 0, none⟩) 2 2] w fun xe w' => xe = .returned (fracV r) ∧ Below w.heap.size w w' := by
  rw [← hr]
  exact maxF _ 2 2 [p, q] 1 (by decide) (by simp) (fun x hx => by simp only [List.mem_cons, List.not_mem_nil, or_false] at hx; rcases hx with rfl | rfl <;> assumption) w (slq_two h)

/-- The variable of package bytealg that strings.Cut looks at. -/
def MaxL (w : World) : Prop := ∃ m, w.cell? ⟨2, 0, none⟩ = some (.int .i64 m)
theorem MaxL.keeps : Keeps MaxL := fun w w' hb ⟨m, h⟩ => ⟨m, by
  have hl := World.block_lt_of_cell? w _ h
  exact (hb.cell (p := ⟨2, 0, none⟩) hl).trans h⟩
theorem maxL_of {w : World} (h : w.ShapedOpen Tryz.prog) : MaxL w := Tryz.laysM145.s1_3 w h
theorem cutF (s : ByteArray) (hs : s.size < 4294967281) (p q : ByteArray) (f : Bool) (hp : Lib.cut s.data.toList [47] = (p.data.toList, q.data.toList, f)) (w : World) (hm : MaxL w) :
    Calls Tryz.prog 38 #[.string s, .string (ByteArray.mk #[47])] w fun xe w' => xe = .returned (.tuple #[.string p, .string q, .bool f]) ∧ Below w.heap.size w w' := by
  obtain ⟨m, hm⟩ := hm
  have h := Tryz.strings_Cut s (ByteArray.mk #[47]) m w hs hm
  rw [show (ByteArray.mk #[47]).data.toList = [47] from rfl, hp] at h
  exact h.mono fun xe w' ⟨h1, n, h2⟩ => ⟨h1, by rw [h2]; exact ⟨rfl, rfl, rfl, Nat.le_refl _, fun _ _ => rfl⟩⟩
end Go.Proofs.YtecdnohhengfaabGreatDoor
