/-
  Layer 3, walks: the parts of fractions.
-/
import Derived.Test.YtecdnohhengfaaaGreatDoorZd
set_option linter.unusedVariables false
set_option linter.unusedSimpArgs false
namespace Go.Proofs.YtecdnohhengfaaaGreatDoor
open Go.RowKit
attribute [local irreducible] lo hs sm s64 c64 d64 b64 mh ml pd pc qd qc val hiB str cmpI srD lz nb isq decB zl zh zs

set_option maxHeartbeats 4000000 in
set_option maxRecDepth 100000 in
theorem whole_yes (n : Int) (w : World) :
    Calls Tryz.prog 89 #[.agg #[.int .u64 ((zl n : Nat) : Int), .string (zh n), .bool (zs n), .int .u64 ((lo 0 : Nat) : Int), .string (hs 0)]] w fun xe w' => xe = .returned (.bool true) ∧ Below w.heap.size w w' := by
  have hL0 : GL w w [] := GL.start w
  have e0 : (((lo 0 : Nat) : Int) == 0) = true := by rw [lo_small Bs_pos]; rfl
  have e1 : ((hs 0).toList == []) = true := by rw [hs_small Bs_pos, ByteArray.toList_eq]; rfl
  replace hL0 := (hL0.new rfl [.int .u64 ((zl n : Nat) : Int), .string (zh n), .bool (zs n), .int .u64 ((lo 0 : Nat) : Int), .string (hs 0)] 79)
  generalize hweq : (w.alloc (.cells #[.int .u64 ((zl n : Nat) : Int), .string (zh n), .bool (zs n), .int .u64 ((lo 0 : Nat) : Int), .string (hs 0)] 79)) = x1 at hL0
  go_enter Tryz.func89, Tryz.ntmps89
  have hN0 := cells_of _ 0 [] rfl (hL0.get _ _ List.mem_cons_self)
  simp only [cellsF, and_true, Nat.zero_add, Nat.reduceAdd] at hN0
  go_wp2_with fail
  exact bodyPost_ret (v := .bool true) (by simp [results, Tryz.results89, go_sem, hN0]) rfl ⟨rfl, hL0.bl⟩

set_option maxHeartbeats 4000000 in
set_option maxRecDepth 100000 in
theorem whole_no (n : Int) (e : Nat) (he : e ≠ 0) (w : World) :
    Calls Tryz.prog 89 #[.agg #[.int .u64 ((zl n : Nat) : Int), .string (zh n), .bool (zs n), .int .u64 ((lo e : Nat) : Int), .string (hs e)]] w fun xe w' => xe = .returned (.bool false) ∧ Below w.heap.size w w' := by
  have hL0 : GL w w [] := GL.start w
  have hz := ne0 he
  clear he
  rcases hz with e0 | ⟨e0, e1⟩
  all_goals (
    replace hL0 := (hL0.new rfl [.int .u64 ((zl n : Nat) : Int), .string (zh n), .bool (zs n), .int .u64 ((lo e : Nat) : Int), .string (hs e)] 79)
    generalize hweq : (w.alloc (.cells #[.int .u64 ((zl n : Nat) : Int), .string (zh n), .bool (zs n), .int .u64 ((lo e : Nat) : Int), .string (hs e)] 79)) = x1 at hL0
    go_enter Tryz.func89, Tryz.ntmps89
    have hN0 := cells_of _ 0 [] rfl (hL0.get _ _ List.mem_cons_self)
    simp only [cellsF, and_true, Nat.zero_add, Nat.reduceAdd] at hN0
    go_wp2_with fail
    exact bodyPost_ret (v := .bool false) (by simp [results, Tryz.results89, go_sem, hN0]) rfl ⟨rfl, hL0.bl⟩)

set_option maxHeartbeats 4000000 in
set_option maxRecDepth 100000 in
theorem den_one_w (n : Int) (HW : ∀ w, Calls Tryz.prog 89 #[.agg #[.int .u64 ((zl n : Nat) : Int), .string (zh n), .bool (zs n), .int .u64 ((lo 0 : Nat) : Int), .string (hs 0)]] w fun xe w' => xe = .returned (.bool true) ∧ Below w.heap.size w w') (HO : ∀ w, Calls Tryz.prog 88 #[.int .u64 1] w fun xe w' => xe = .returned (.agg #[.int .u64 ((lo 1 : Nat) : Int), .string (hs 1)]) ∧ Below w.heap.size w w') (w : World) :
    Calls Tryz.prog 85 #[.agg #[.int .u64 ((zl n : Nat) : Int), .string (zh n), .bool (zs n), .int .u64 ((lo 0 : Nat) : Int), .string (hs 0)]] w fun xe w' => xe = .returned (.agg #[.int .u64 ((lo 1 : Nat) : Int), .string (hs 1)]) ∧ Below w.heap.size w w' := by
  have hL0 : GL w w [] := GL.start w
  replace HW := Lib.hid HW
  replace HO := Lib.hid HO
  replace hL0 := ((hL0.new rfl [.int .u64 ((zl n : Nat) : Int), .string (zh n), .bool (zs n), .int .u64 ((lo 0 : Nat) : Int), .string (hs 0)] 79).new (K := w.heap.size + 1) (szA _ _) [.int .u64 0, .string ⟨#[]⟩] 32)
  generalize hweq : ((w.alloc (.cells #[.int .u64 ((zl n : Nat) : Int), .string (zh n), .bool (zs n), .int .u64 ((lo 0 : Nat) : Int), .string (hs 0)] 79)).alloc (.cells #[.int .u64 0, .string ⟨#[]⟩] 32)) = x1 at hL0
  go_enter Tryz.func85, Tryz.ntmps85
  have hN0 := cells_of _ 0 [] rfl (hL0.get _ _ (List.mem_cons_of_mem _ List.mem_cons_self))
  simp only [cellsF, and_true, Nat.zero_add, Nat.reduceAdd] at hN0
  go_wp2_with fail
  clear hN0
  with_reducible refine Calls.mono (HW.out _) ?_
  rintro e x2 ⟨rfl, hb⟩
  replace hL0 := hL0.call hb
  clear hb hweq
  go_wp2_with fail
  with_reducible refine Calls.mono (HO.out _) ?_
  rintro e x3 ⟨rfl, hb⟩
  replace hL0 := hL0.call hb
  clear hb
  have hA := hL0.fc
  simp only [fcG, cellsF, neK, and_true, ne_eq, Nat.zero_add, Nat.reduceAdd] at hA
  have hP := hL0.put 0 (w.heap.size + 1) _ rfl [.int .u64 ((lo 1 : Nat) : Int), .string (hs 1)] rfl
  simp only [setAll, List.set_cons_zero, List.set_cons_succ] at hP
  generalize hput1 : ((x3.setCell ⟨w.heap.size + 1, 0, none⟩ (.int .u64 ((lo 1 : Nat) : Int))).setCell ⟨w.heap.size + 1, 1, none⟩ (.string (hs 1))) = x4 at hP
  have hB1 := hP.fc
  simp only [fcG, cellsF, neK, and_true, ne_eq, Nat.zero_add, Nat.reduceAdd] at hB1
  replace hL0 := hP
  go_wp2_with fail
  exact bodyPost_ret (v := .agg #[.int .u64 ((lo 1 : Nat) : Int), .string (hs 1)]) (by simp [results, Tryz.results85, go_sem, hB1]) rfl ⟨rfl, hL0.bl⟩

set_option maxHeartbeats 4000000 in
set_option maxRecDepth 100000 in
theorem den_part_w (n : Int) (e : Nat) (HW : ∀ w, Calls Tryz.prog 89 #[.agg #[.int .u64 ((zl n : Nat) : Int), .string (zh n), .bool (zs n), .int .u64 ((lo e : Nat) : Int), .string (hs e)]] w fun xe w' => xe = .returned (.bool false) ∧ Below w.heap.size w w') (w : World) :
    Calls Tryz.prog 85 #[.agg #[.int .u64 ((zl n : Nat) : Int), .string (zh n), .bool (zs n), .int .u64 ((lo e : Nat) : Int), .string (hs e)]] w fun xe w' => xe = .returned (.agg #[.int .u64 ((lo e : Nat) : Int), .string (hs e)]) ∧ Below w.heap.size w w' := by
  have hL0 : GL w w [] := GL.start w
  replace HW := Lib.hid HW
  replace hL0 := ((hL0.new rfl [.int .u64 ((zl n : Nat) : Int), .string (zh n), .bool (zs n), .int .u64 ((lo e : Nat) : Int), .string (hs e)] 79).new (K := w.heap.size + 1) (szA _ _) [.int .u64 0, .string ⟨#[]⟩] 32)
  generalize hweq : ((w.alloc (.cells #[.int .u64 ((zl n : Nat) : Int), .string (zh n), .bool (zs n), .int .u64 ((lo e : Nat) : Int), .string (hs e)] 79)).alloc (.cells #[.int .u64 0, .string ⟨#[]⟩] 32)) = x1 at hL0
  go_enter Tryz.func85, Tryz.ntmps85
  have hN0 := cells_of _ 0 [] rfl (hL0.get _ _ (List.mem_cons_of_mem _ List.mem_cons_self))
  simp only [cellsF, and_true, Nat.zero_add, Nat.reduceAdd] at hN0
  go_wp2_with fail
  clear hN0
  with_reducible refine Calls.mono (HW.out _) ?_
  rintro e x2 ⟨rfl, hb⟩
  replace hL0 := hL0.call hb
  clear hb hweq
  have hA := hL0.fc
  simp only [fcG, cellsF, neK, and_true, ne_eq, Nat.zero_add, Nat.reduceAdd] at hA
  have hP := hL0.put 0 (w.heap.size + 1) _ rfl [.int .u64 ((lo e : Nat) : Int), .string (hs e)] rfl
  simp only [setAll, List.set_cons_zero, List.set_cons_succ] at hP
  generalize hput1 : ((x2.setCell ⟨w.heap.size + 1, 0, none⟩ (.int .u64 ((lo e : Nat) : Int))).setCell ⟨w.heap.size + 1, 1, none⟩ (.string (hs e))) = x3 at hP
  have hB1 := hP.fc
  simp only [fcG, cellsF, neK, and_true, ne_eq, Nat.zero_add, Nat.reduceAdd] at hB1
  replace hL0 := hP
  go_wp2_with fail
  exact bodyPost_ret (v := .agg #[.int .u64 ((lo e : Nat) : Int), .string (hs e)]) (by simp [results, Tryz.results85, go_sem, hB1]) rfl ⟨rfl, hL0.bl⟩

set_option maxHeartbeats 4000000 in
set_option maxRecDepth 100000 in
theorem lowest_one (n : Int) (HO : ∀ w, Calls Tryz.prog 88 #[.int .u64 1] w fun xe w' => xe = .returned (.agg #[.int .u64 ((lo 1 : Nat) : Int), .string (hs 1)]) ∧ Below w.heap.size w w') (w : World) :
    Calls Tryz.prog 149 #[.agg #[.int .u64 ((zl n : Nat) : Int), .string (zh n), .bool (zs n)], .agg #[.int .u64 ((lo 1 : Nat) : Int), .string (hs 1)]] w fun xe w' => xe = .returned (.agg #[.int .u64 ((zl n : Nat) : Int), .string (zh n), .bool (zs n), .int .u64 0, .string ⟨#[]⟩]) ∧ Below w.heap.size w w' := by
  have hL0 : GL w w [] := GL.start w
  replace HO := Lib.hid HO
  replace hL0 := (((hL0.new rfl [.int .u64 ((zl n : Nat) : Int), .string (zh n), .bool (zs n)] 39).new (K := w.heap.size + 1) (szA _ _) [.int .u64 ((lo 1 : Nat) : Int), .string (hs 1)] 32).new (K := w.heap.size + 1 + 1) (by simp only [World.size_alloc]) [.int .u64 0, .string ⟨#[]⟩, .bool false, .int .u64 0, .string ⟨#[]⟩] 79)
  generalize hweq : (((w.alloc (.cells #[.int .u64 ((zl n : Nat) : Int), .string (zh n), .bool (zs n)] 39)).alloc (.cells #[.int .u64 ((lo 1 : Nat) : Int), .string (hs 1)] 32)).alloc (.cells #[.int .u64 0, .string ⟨#[]⟩, .bool false, .int .u64 0, .string ⟨#[]⟩] 79)) = x1 at hL0
  go_enter Tryz.func149, Tryz.ntmps149
  go_upto_region 1 with fail
  clear hweq
  obtain ⟨α, iα, F, hF1, hF2⟩ := cls x1
  have hq0 := cls_box hF1 hL0 _ _ (List.mem_cons_of_mem _ List.mem_cons_self)
  simp only [cellsC, and_true, Nat.zero_add, Nat.reduceAdd] at hq0
  refine region_qs 3 (C := fun w' => ∃ x, w' = F x) (by kernel_rfl) (by kernel_rfl) (cls_drew hF2) ?_
  simp only [List.take_succ_cons, List.take_zero, List.drop_succ_cons, List.drop_zero, List.take_nil, List.drop_nil]
  repeat (go_big_quiet_step (first | fail | (go_at_call 88; with_reducible exact cls_call hF1 hF2 HO.out _)))
  refine wpQuiet_nil ?_
  rintro wq ⟨xq, rfl⟩
  replace hL0 := hL0.call (hF1 xq)
  clear  hq0 hF2
  generalize F xq = x2 at hL0 ⊢
  clear hF1 xq iα F α
  have hA := hL0.fc
  simp only [fcG, cellsF, neK, and_true, ne_eq, Nat.zero_add, Nat.reduceAdd] at hA
  have hP := hL0.put 0 (w.heap.size + 1 + 1) _ rfl [.int .u64 ((zl n : Nat) : Int), .string (zh n), .bool (zs n), .int .u64 0, .string ⟨#[]⟩] rfl
  simp only [setAll, List.set_cons_zero, List.set_cons_succ] at hP
  generalize hput1 : (((((x2.setCell ⟨w.heap.size + 1 + 1, 0, none⟩ (.int .u64 ((zl n : Nat) : Int))).setCell ⟨w.heap.size + 1 + 1, 1, none⟩ (.string (zh n))).setCell ⟨w.heap.size + 1 + 1, 2, none⟩ (.bool (zs n))).setCell ⟨w.heap.size + 1 + 1, 3, none⟩ (.int .u64 0)).setCell ⟨w.heap.size + 1 + 1, 4, none⟩ (.string ⟨#[]⟩)) = x3 at hP
  have hB1 := hP.fc
  simp only [fcG, cellsF, neK, and_true, ne_eq, Nat.zero_add, Nat.reduceAdd] at hB1
  replace hL0 := hP
  go_wp2_with fail
  exact bodyPost_ret (v := .agg #[.int .u64 ((zl n : Nat) : Int), .string (zh n), .bool (zs n), .int .u64 0, .string ⟨#[]⟩]) (by simp [results, Tryz.results149, go_sem, hB1]) rfl ⟨rfl, hL0.bl⟩

set_option maxHeartbeats 4000000 in
set_option maxRecDepth 100000 in
theorem lowest_part (n : Int) (d : Nat) (HO : ∀ w, Calls Tryz.prog 88 #[.int .u64 1] w fun xe w' => xe = .returned (.agg #[.int .u64 ((lo 1 : Nat) : Int), .string (hs 1)]) ∧ Below w.heap.size w w') (hd : d ≠ 1) (w : World) :
    Calls Tryz.prog 149 #[.agg #[.int .u64 ((zl n : Nat) : Int), .string (zh n), .bool (zs n)], .agg #[.int .u64 ((lo d : Nat) : Int), .string (hs d)]] w fun xe w' => xe = .returned (.agg #[.int .u64 ((zl n : Nat) : Int), .string (zh n), .bool (zs n), .int .u64 ((lo d : Nat) : Int), .string (hs d)]) ∧ Below w.heap.size w w' := by
  have hL0 : GL w w [] := GL.start w
  replace HO := Lib.hid HO
  have hz := ne_nat hd
  clear hd
  rcases hz with e0 | ⟨e0, e1⟩
  all_goals (
    replace hL0 := (((hL0.new rfl [.int .u64 ((zl n : Nat) : Int), .string (zh n), .bool (zs n)] 39).new (K := w.heap.size + 1) (szA _ _) [.int .u64 ((lo d : Nat) : Int), .string (hs d)] 32).new (K := w.heap.size + 1 + 1) (by simp only [World.size_alloc]) [.int .u64 0, .string ⟨#[]⟩, .bool false, .int .u64 0, .string ⟨#[]⟩] 79)
    generalize hweq : (((w.alloc (.cells #[.int .u64 ((zl n : Nat) : Int), .string (zh n), .bool (zs n)] 39)).alloc (.cells #[.int .u64 ((lo d : Nat) : Int), .string (hs d)] 32)).alloc (.cells #[.int .u64 0, .string ⟨#[]⟩, .bool false, .int .u64 0, .string ⟨#[]⟩] 79)) = x1 at hL0
    go_enter Tryz.func149, Tryz.ntmps149
    go_upto_region 1 with fail
    clear hweq
    obtain ⟨α, iα, F, hF1, hF2⟩ := cls x1
    have hq0 := cls_box hF1 hL0 _ _ (List.mem_cons_of_mem _ List.mem_cons_self)
    simp only [cellsC, and_true, Nat.zero_add, Nat.reduceAdd] at hq0
    refine region_qs 3 (C := fun w' => ∃ x, w' = F x) (by kernel_rfl) (by kernel_rfl) (cls_drew hF2) ?_
    simp only [List.take_succ_cons, List.take_zero, List.drop_succ_cons, List.drop_zero, List.take_nil, List.drop_nil]
    repeat (go_big_quiet_step (first | fail | (go_at_call 88; with_reducible exact cls_call hF1 hF2 HO.out _)))
    refine wpQuiet_nil ?_
    rintro wq ⟨xq, rfl⟩
    replace hL0 := hL0.call (hF1 xq)
    clear  hq0 hF2
    generalize F xq = x2 at hL0 ⊢
    clear hF1 xq iα F α
    have hA := hL0.fc
    simp only [fcG, cellsF, neK, and_true, ne_eq, Nat.zero_add, Nat.reduceAdd] at hA
    have hP := hL0.put 0 (w.heap.size + 1 + 1) _ rfl [.int .u64 ((zl n : Nat) : Int), .string (zh n), .bool (zs n), .int .u64 ((lo d : Nat) : Int), .string (hs d)] rfl
    simp only [setAll, List.set_cons_zero, List.set_cons_succ] at hP
    generalize hput1 : (((((x2.setCell ⟨w.heap.size + 1 + 1, 0, none⟩ (.int .u64 ((zl n : Nat) : Int))).setCell ⟨w.heap.size + 1 + 1, 1, none⟩ (.string (zh n))).setCell ⟨w.heap.size + 1 + 1, 2, none⟩ (.bool (zs n))).setCell ⟨w.heap.size + 1 + 1, 3, none⟩ (.int .u64 ((lo d : Nat) : Int))).setCell ⟨w.heap.size + 1 + 1, 4, none⟩ (.string (hs d))) = x3 at hP
    have hB1 := hP.fc
    simp only [fcG, cellsF, neK, and_true, ne_eq, Nat.zero_add, Nat.reduceAdd] at hB1
    replace hL0 := hP
    go_wp2_with fail
    exact bodyPost_ret (v := .agg #[.int .u64 ((zl n : Nat) : Int), .string (zh n), .bool (zs n), .int .u64 ((lo d : Nat) : Int), .string (hs d)]) (by simp [results, Tryz.results149, go_sem, hB1]) rfl ⟨rfl, hL0.bl⟩)

set_option maxHeartbeats 4000000 in
set_option maxRecDepth 100000 in
theorem pon_one (n : Nat) (HO : ∀ w, Calls Tryz.prog 88 #[.int .u64 1] w fun xe w' => xe = .returned (.agg #[.int .u64 ((lo 1 : Nat) : Int), .string (hs 1)]) ∧ Below w.heap.size w w') (w : World) :
    Calls Tryz.prog 192 #[.agg #[.int .u64 ((lo n : Nat) : Int), .string (hs n)], .agg #[.int .u64 ((lo 1 : Nat) : Int), .string (hs 1)]] w fun xe w' => xe = .returned (.agg #[.int .u64 ((lo n : Nat) : Int), .string (hs n)]) ∧ Below w.heap.size w w' := by
  have hL0 : GL w w [] := GL.start w
  replace HO := Lib.hid HO
  replace hL0 := (((hL0.new rfl [.int .u64 ((lo n : Nat) : Int), .string (hs n)] 32).new (K := w.heap.size + 1) (szA _ _) [.int .u64 ((lo 1 : Nat) : Int), .string (hs 1)] 32).new (K := w.heap.size + 1 + 1) (by simp only [World.size_alloc]) [.int .u64 0, .string ⟨#[]⟩] 32)
  generalize hweq : (((w.alloc (.cells #[.int .u64 ((lo n : Nat) : Int), .string (hs n)] 32)).alloc (.cells #[.int .u64 ((lo 1 : Nat) : Int), .string (hs 1)] 32)).alloc (.cells #[.int .u64 0, .string ⟨#[]⟩] 32)) = x1 at hL0
  go_enter Tryz.func192, Tryz.ntmps192
  go_upto_region 1 with fail
  clear hweq
  obtain ⟨α, iα, F, hF1, hF2⟩ := cls x1
  have hq0 := cls_box hF1 hL0 _ _ (List.mem_cons_of_mem _ List.mem_cons_self)
  simp only [cellsC, and_true, Nat.zero_add, Nat.reduceAdd] at hq0
  refine region_qs 3 (C := fun w' => ∃ x, w' = F x) (by kernel_rfl) (by kernel_rfl) (cls_drew hF2) ?_
  simp only [List.take_succ_cons, List.take_zero, List.drop_succ_cons, List.drop_zero, List.take_nil, List.drop_nil]
  repeat (go_big_quiet_step (first | fail | (go_at_call 88; with_reducible exact cls_call hF1 hF2 HO.out _)))
  refine wpQuiet_nil ?_
  rintro wq ⟨xq, rfl⟩
  replace hL0 := hL0.call (hF1 xq)
  clear  hq0 hF2
  generalize F xq = x2 at hL0 ⊢
  clear hF1 xq iα F α
  have hA := hL0.fc
  simp only [fcG, cellsF, neK, and_true, ne_eq, Nat.zero_add, Nat.reduceAdd] at hA
  have hP := hL0.put 0 (w.heap.size + 1 + 1) _ rfl [.int .u64 ((lo n : Nat) : Int), .string (hs n)] rfl
  simp only [setAll, List.set_cons_zero, List.set_cons_succ] at hP
  generalize hput1 : ((x2.setCell ⟨w.heap.size + 1 + 1, 0, none⟩ (.int .u64 ((lo n : Nat) : Int))).setCell ⟨w.heap.size + 1 + 1, 1, none⟩ (.string (hs n))) = x3 at hP
  have hB1 := hP.fc
  simp only [fcG, cellsF, neK, and_true, ne_eq, Nat.zero_add, Nat.reduceAdd] at hB1
  replace hL0 := hP
  go_wp2_with fail
  exact bodyPost_ret (v := .agg #[.int .u64 ((lo n : Nat) : Int), .string (hs n)]) (by simp [results, Tryz.results192, go_sem, hB1]) rfl ⟨rfl, hL0.bl⟩

set_option maxHeartbeats 4000000 in
set_option maxRecDepth 100000 in
theorem pon_div (n d q r : Nat) (HO : ∀ w, Calls Tryz.prog 88 #[.int .u64 1] w fun xe w' => xe = .returned (.agg #[.int .u64 ((lo 1 : Nat) : Int), .string (hs 1)]) ∧ Below w.heap.size w w') (HD : ∀ w, Calls Tryz.prog 112 #[.agg #[.int .u64 ((lo n : Nat) : Int), .string (hs n)], .agg #[.int .u64 ((lo d : Nat) : Int), .string (hs d)]] w fun xe w' => xe = .returned (.tuple #[.agg #[.int .u64 ((lo q : Nat) : Int), .string (hs q)], .agg #[.int .u64 ((lo r : Nat) : Int), .string (hs r)], .bool true]) ∧ Below w.heap.size w w') (hd : d ≠ 1) (w : World) :
    Calls Tryz.prog 192 #[.agg #[.int .u64 ((lo n : Nat) : Int), .string (hs n)], .agg #[.int .u64 ((lo d : Nat) : Int), .string (hs d)]] w fun xe w' => xe = .returned (.agg #[.int .u64 ((lo q : Nat) : Int), .string (hs q)]) ∧ Below w.heap.size w w' := by
  have hL0 : GL w w [] := GL.start w
  replace HO := Lib.hid HO
  replace HD := Lib.hid HD
  have hz := ne_nat hd
  clear hd
  rcases hz with e0 | ⟨e0, e1⟩
  all_goals (
    replace hL0 := (((hL0.new rfl [.int .u64 ((lo n : Nat) : Int), .string (hs n)] 32).new (K := w.heap.size + 1) (szA _ _) [.int .u64 ((lo d : Nat) : Int), .string (hs d)] 32).new (K := w.heap.size + 1 + 1) (by simp only [World.size_alloc]) [.int .u64 0, .string ⟨#[]⟩] 32)
    generalize hweq : (((w.alloc (.cells #[.int .u64 ((lo n : Nat) : Int), .string (hs n)] 32)).alloc (.cells #[.int .u64 ((lo d : Nat) : Int), .string (hs d)] 32)).alloc (.cells #[.int .u64 0, .string ⟨#[]⟩] 32)) = x1 at hL0
    go_enter Tryz.func192, Tryz.ntmps192
    go_upto_region 1 with fail
    clear hweq
    obtain ⟨α, iα, F, hF1, hF2⟩ := cls x1
    have hq0 := cls_box hF1 hL0 _ _ (List.mem_cons_of_mem _ List.mem_cons_self)
    simp only [cellsC, and_true, Nat.zero_add, Nat.reduceAdd] at hq0
    refine region_qs 3 (C := fun w' => ∃ x, w' = F x) (by kernel_rfl) (by kernel_rfl) (cls_drew hF2) ?_
    simp only [List.take_succ_cons, List.take_zero, List.drop_succ_cons, List.drop_zero, List.take_nil, List.drop_nil]
    repeat (go_big_quiet_step (first | fail | (go_at_call 88; with_reducible exact cls_call hF1 hF2 HO.out _)))
    refine wpQuiet_nil ?_
    rintro wq ⟨xq, rfl⟩
    replace hL0 := hL0.call (hF1 xq)
    clear  hq0 hF2
    generalize F xq = x2 at hL0 ⊢
    clear hF1 xq iα F α
    have hN0 := cells_of _ 0 [] rfl (hL0.get _ _ (List.mem_cons_of_mem _ List.mem_cons_self))
    simp only [cellsF, and_true, Nat.zero_add, Nat.reduceAdd] at hN0
    have hN1 := cells_of _ 0 [] rfl (hL0.get _ _ (List.mem_cons_of_mem _ (List.mem_cons_of_mem _ List.mem_cons_self)))
    simp only [cellsF, and_true, Nat.zero_add, Nat.reduceAdd] at hN1
    go_wp2_with fail
    clear hN0 hN1
    with_reducible refine Calls.mono (HD.out _) ?_
    rintro e x3 ⟨rfl, hb⟩
    replace hL0 := hL0.call hb
    clear hb
    replace hL0 := ((hL0.new rfl [.int .u64 ((lo q : Nat) : Int), .string (hs q)] 32).new (K := x3.heap.size + 1) (szA _ _) [.int .u64 ((lo r : Nat) : Int), .string (hs r)] 32)
    generalize hweq : ((x3.alloc (.cells #[.int .u64 ((lo q : Nat) : Int), .string (hs q)] 32)).alloc (.cells #[.int .u64 ((lo r : Nat) : Int), .string (hs r)] 32)) = x4 at hL0
    have hA := hL0.fc
    simp only [fcG, cellsF, neK, and_true, ne_eq, Nat.zero_add, Nat.reduceAdd] at hA
    have hP := hL0.put 2 (w.heap.size + 1 + 1) _ rfl [.int .u64 ((lo q : Nat) : Int), .string (hs q)] rfl
    simp only [setAll, List.set_cons_zero, List.set_cons_succ] at hP
    generalize hput1 : ((x4.setCell ⟨w.heap.size + 1 + 1, 0, none⟩ (.int .u64 ((lo q : Nat) : Int))).setCell ⟨w.heap.size + 1 + 1, 1, none⟩ (.string (hs q))) = x5 at hP
    have hB1 := hP.fc
    simp only [fcG, cellsF, neK, and_true, ne_eq, Nat.zero_add, Nat.reduceAdd] at hB1
    replace hL0 := hP
    go_wp2_with fail
    exact bodyPost_ret (v := .agg #[.int .u64 ((lo q : Nat) : Int), .string (hs q)]) (by simp [results, Tryz.results192, go_sem, hB1]) rfl ⟨rfl, hL0.bl⟩)

set_option maxHeartbeats 4000000 in
set_option maxRecDepth 100000 in
theorem part_true (z s u : Int) (a g q : Nat) (HS : ∀ w, Calls Tryz.prog 39 #[.agg #[.int .u64 ((zl z : Nat) : Int), .string (zh z), .bool (zs z)]] w fun xe w' => xe = .returned (.int .i64 s) ∧ Below w.heap.size w w') (HA : ∀ w, Calls Tryz.prog 43 #[.agg #[.int .u64 ((zl z : Nat) : Int), .string (zh z), .bool (zs z)]] w fun xe w' => xe = .returned (.agg #[.int .u64 ((lo a : Nat) : Int), .string (hs a)]) ∧ Below w.heap.size w w') (HP : ∀ w, Calls Tryz.prog 192 #[.agg #[.int .u64 ((lo a : Nat) : Int), .string (hs a)], .agg #[.int .u64 ((lo g : Nat) : Int), .string (hs g)]] w fun xe w' => xe = .returned (.agg #[.int .u64 ((lo q : Nat) : Int), .string (hs q)]) ∧ Below w.heap.size w w') (HF : ∀ w, Calls Tryz.prog 91 #[.bool true, .agg #[.int .u64 ((lo q : Nat) : Int), .string (hs q)]] w fun xe w' => xe = .returned (.agg #[.int .u64 ((zl u : Nat) : Int), .string (zh u), .bool (zs u)]) ∧ Below w.heap.size w w') (hsg : decide (s < 0) = true) (w : World) :
    Calls Tryz.prog 193 #[.agg #[.int .u64 ((zl z : Nat) : Int), .string (zh z), .bool (zs z)], .agg #[.int .u64 ((lo g : Nat) : Int), .string (hs g)]] w fun xe w' => xe = .returned (.agg #[.int .u64 ((zl u : Nat) : Int), .string (zh u), .bool (zs u)]) ∧ Below w.heap.size w w' := by
  have hL0 : GL w w [] := GL.start w
  replace HS := Lib.hid HS
  replace HA := Lib.hid HA
  replace HP := Lib.hid HP
  replace HF := Lib.hid HF
  replace hL0 := (((hL0.new rfl [.int .u64 ((zl z : Nat) : Int), .string (zh z), .bool (zs z)] 39).new (K := w.heap.size + 1) (szA _ _) [.int .u64 ((lo g : Nat) : Int), .string (hs g)] 32).new (K := w.heap.size + 1 + 1) (by simp only [World.size_alloc]) [.int .u64 0, .string ⟨#[]⟩, .bool false] 39)
  generalize hweq : (((w.alloc (.cells #[.int .u64 ((zl z : Nat) : Int), .string (zh z), .bool (zs z)] 39)).alloc (.cells #[.int .u64 ((lo g : Nat) : Int), .string (hs g)] 32)).alloc (.cells #[.int .u64 0, .string ⟨#[]⟩, .bool false] 39)) = x1 at hL0
  go_enter Tryz.func193, Tryz.ntmps193
  go_upto_region 1 with fail
  clear hweq
  obtain ⟨α, iα, F, hF1, hF2⟩ := cls x1
  have hq0 := cls_box hF1 hL0 _ _ (List.mem_cons_of_mem _ List.mem_cons_self)
  simp only [cellsC, and_true, Nat.zero_add, Nat.reduceAdd] at hq0
  have hq1 := cls_box hF1 hL0 _ _ (List.mem_cons_of_mem _ (List.mem_cons_of_mem _ List.mem_cons_self))
  simp only [cellsC, and_true, Nat.zero_add, Nat.reduceAdd] at hq1
  refine region_qs 8 (C := fun w' => ∃ x, w' = F x) (by kernel_rfl) (by kernel_rfl) (cls_drew hF2) ?_
  simp only [List.take_succ_cons, List.take_zero, List.drop_succ_cons, List.drop_zero, List.take_nil, List.drop_nil]
  repeat (go_big_quiet_step (first | fail | (go_at_call 39; with_reducible exact cls_call hF1 hF2 HS.out _) | (go_at_call 43; with_reducible exact cls_call hF1 hF2 HA.out _) | (go_at_call 192; with_reducible exact cls_call hF1 hF2 HP.out _) | (go_at_call 91; with_reducible exact cls_call hF1 hF2 HF.out _)))
  refine wpQuiet_nil ?_
  rintro wq ⟨xq, rfl⟩
  replace hL0 := hL0.call (hF1 xq)
  clear  hq0 hq1 hF2
  generalize F xq = x2 at hL0 ⊢
  clear hF1 xq iα F α
  have hA := hL0.fc
  simp only [fcG, cellsF, neK, and_true, ne_eq, Nat.zero_add, Nat.reduceAdd] at hA
  have hP := hL0.put 0 (w.heap.size + 1 + 1) _ rfl [.int .u64 ((zl u : Nat) : Int), .string (zh u), .bool (zs u)] rfl
  simp only [setAll, List.set_cons_zero, List.set_cons_succ] at hP
  generalize hput1 : (((x2.setCell ⟨w.heap.size + 1 + 1, 0, none⟩ (.int .u64 ((zl u : Nat) : Int))).setCell ⟨w.heap.size + 1 + 1, 1, none⟩ (.string (zh u))).setCell ⟨w.heap.size + 1 + 1, 2, none⟩ (.bool (zs u))) = x3 at hP
  have hB1 := hP.fc
  simp only [fcG, cellsF, neK, and_true, ne_eq, Nat.zero_add, Nat.reduceAdd] at hB1
  replace hL0 := hP
  go_wp2_with fail
  exact bodyPost_ret (v := .agg #[.int .u64 ((zl u : Nat) : Int), .string (zh u), .bool (zs u)]) (by simp [results, Tryz.results193, go_sem, hB1]) rfl ⟨rfl, hL0.bl⟩

set_option maxHeartbeats 4000000 in
set_option maxRecDepth 100000 in
theorem part_false (z s u : Int) (a g q : Nat) (HS : ∀ w, Calls Tryz.prog 39 #[.agg #[.int .u64 ((zl z : Nat) : Int), .string (zh z), .bool (zs z)]] w fun xe w' => xe = .returned (.int .i64 s) ∧ Below w.heap.size w w') (HA : ∀ w, Calls Tryz.prog 43 #[.agg #[.int .u64 ((zl z : Nat) : Int), .string (zh z), .bool (zs z)]] w fun xe w' => xe = .returned (.agg #[.int .u64 ((lo a : Nat) : Int), .string (hs a)]) ∧ Below w.heap.size w w') (HP : ∀ w, Calls Tryz.prog 192 #[.agg #[.int .u64 ((lo a : Nat) : Int), .string (hs a)], .agg #[.int .u64 ((lo g : Nat) : Int), .string (hs g)]] w fun xe w' => xe = .returned (.agg #[.int .u64 ((lo q : Nat) : Int), .string (hs q)]) ∧ Below w.heap.size w w') (HF : ∀ w, Calls Tryz.prog 91 #[.bool false, .agg #[.int .u64 ((lo q : Nat) : Int), .string (hs q)]] w fun xe w' => xe = .returned (.agg #[.int .u64 ((zl u : Nat) : Int), .string (zh u), .bool (zs u)]) ∧ Below w.heap.size w w') (hsg : decide (s < 0) = false) (w : World) :
    Calls Tryz.prog 193 #[.agg #[.int .u64 ((zl z : Nat) : Int), .string (zh z), .bool (zs z)], .agg #[.int .u64 ((lo g : Nat) : Int), .string (hs g)]] w fun xe w' => xe = .returned (.agg #[.int .u64 ((zl u : Nat) : Int), .string (zh u), .bool (zs u)]) ∧ Below w.heap.size w w' := by
  have hL0 : GL w w [] := GL.start w
  replace HS := Lib.hid HS
  replace HA := Lib.hid HA
  replace HP := Lib.hid HP
  replace HF := Lib.hid HF
  replace hL0 := (((hL0.new rfl [.int .u64 ((zl z : Nat) : Int), .string (zh z), .bool (zs z)] 39).new (K := w.heap.size + 1) (szA _ _) [.int .u64 ((lo g : Nat) : Int), .string (hs g)] 32).new (K := w.heap.size + 1 + 1) (by simp only [World.size_alloc]) [.int .u64 0, .string ⟨#[]⟩, .bool false] 39)
  generalize hweq : (((w.alloc (.cells #[.int .u64 ((zl z : Nat) : Int), .string (zh z), .bool (zs z)] 39)).alloc (.cells #[.int .u64 ((lo g : Nat) : Int), .string (hs g)] 32)).alloc (.cells #[.int .u64 0, .string ⟨#[]⟩, .bool false] 39)) = x1 at hL0
  go_enter Tryz.func193, Tryz.ntmps193
  go_upto_region 1 with fail
  clear hweq
  obtain ⟨α, iα, F, hF1, hF2⟩ := cls x1
  have hq0 := cls_box hF1 hL0 _ _ (List.mem_cons_of_mem _ List.mem_cons_self)
  simp only [cellsC, and_true, Nat.zero_add, Nat.reduceAdd] at hq0
  have hq1 := cls_box hF1 hL0 _ _ (List.mem_cons_of_mem _ (List.mem_cons_of_mem _ List.mem_cons_self))
  simp only [cellsC, and_true, Nat.zero_add, Nat.reduceAdd] at hq1
  refine region_qs 8 (C := fun w' => ∃ x, w' = F x) (by kernel_rfl) (by kernel_rfl) (cls_drew hF2) ?_
  simp only [List.take_succ_cons, List.take_zero, List.drop_succ_cons, List.drop_zero, List.take_nil, List.drop_nil]
  repeat (go_big_quiet_step (first | fail | (go_at_call 39; with_reducible exact cls_call hF1 hF2 HS.out _) | (go_at_call 43; with_reducible exact cls_call hF1 hF2 HA.out _) | (go_at_call 192; with_reducible exact cls_call hF1 hF2 HP.out _) | (go_at_call 91; with_reducible exact cls_call hF1 hF2 HF.out _)))
  refine wpQuiet_nil ?_
  rintro wq ⟨xq, rfl⟩
  replace hL0 := hL0.call (hF1 xq)
  clear  hq0 hq1 hF2
  generalize F xq = x2 at hL0 ⊢
  clear hF1 xq iα F α
  have hA := hL0.fc
  simp only [fcG, cellsF, neK, and_true, ne_eq, Nat.zero_add, Nat.reduceAdd] at hA
  have hP := hL0.put 0 (w.heap.size + 1 + 1) _ rfl [.int .u64 ((zl u : Nat) : Int), .string (zh u), .bool (zs u)] rfl
  simp only [setAll, List.set_cons_zero, List.set_cons_succ] at hP
  generalize hput1 : (((x2.setCell ⟨w.heap.size + 1 + 1, 0, none⟩ (.int .u64 ((zl u : Nat) : Int))).setCell ⟨w.heap.size + 1 + 1, 1, none⟩ (.string (zh u))).setCell ⟨w.heap.size + 1 + 1, 2, none⟩ (.bool (zs u))) = x3 at hP
  have hB1 := hP.fc
  simp only [fcG, cellsF, neK, and_true, ne_eq, Nat.zero_add, Nat.reduceAdd] at hB1
  replace hL0 := hP
  go_wp2_with fail
  exact bodyPost_ret (v := .agg #[.int .u64 ((zl u : Nat) : Int), .string (zh u), .bool (zs u)]) (by simp [results, Tryz.results193, go_sem, hB1]) rfl ⟨rfl, hL0.bl⟩

set_option maxHeartbeats 4000000 in
set_option maxRecDepth 100000 in
theorem cancel_w (z u : Int) (a d g v : Nat) (HA : ∀ w, Calls Tryz.prog 43 #[.agg #[.int .u64 ((zl z : Nat) : Int), .string (zh z), .bool (zs z)]] w fun xe w' => xe = .returned (.agg #[.int .u64 ((lo a : Nat) : Int), .string (hs a)]) ∧ Below w.heap.size w w') (HG : ∀ w, Calls Tryz.prog 87 #[.agg #[.int .u64 ((lo a : Nat) : Int), .string (hs a)], .agg #[.int .u64 ((lo d : Nat) : Int), .string (hs d)]] w fun xe w' => xe = .returned (.agg #[.int .u64 ((lo g : Nat) : Int), .string (hs g)]) ∧ Below w.heap.size w w') (HP : ∀ w, Calls Tryz.prog 193 #[.agg #[.int .u64 ((zl z : Nat) : Int), .string (zh z), .bool (zs z)], .agg #[.int .u64 ((lo g : Nat) : Int), .string (hs g)]] w fun xe w' => xe = .returned (.agg #[.int .u64 ((zl u : Nat) : Int), .string (zh u), .bool (zs u)]) ∧ Below w.heap.size w w') (HQ : ∀ w, Calls Tryz.prog 192 #[.agg #[.int .u64 ((lo d : Nat) : Int), .string (hs d)], .agg #[.int .u64 ((lo g : Nat) : Int), .string (hs g)]] w fun xe w' => xe = .returned (.agg #[.int .u64 ((lo v : Nat) : Int), .string (hs v)]) ∧ Below w.heap.size w w') (w : World) :
    Calls Tryz.prog 148 #[.agg #[.int .u64 ((zl z : Nat) : Int), .string (zh z), .bool (zs z)], .agg #[.int .u64 ((lo d : Nat) : Int), .string (hs d)]] w fun xe w' => xe = .returned (.tuple #[.agg #[.int .u64 ((zl u : Nat) : Int), .string (zh u), .bool (zs u)], .agg #[.int .u64 ((lo v : Nat) : Int), .string (hs v)]]) ∧ Below w.heap.size w w' := by
  have hL0 : GL w w [] := GL.start w
  replace HA := Lib.hid HA
  replace HG := Lib.hid HG
  replace HP := Lib.hid HP
  replace HQ := Lib.hid HQ
  replace hL0 := ((((hL0.new rfl [.int .u64 ((zl z : Nat) : Int), .string (zh z), .bool (zs z)] 39).new (K := w.heap.size + 1) (szA _ _) [.int .u64 ((lo d : Nat) : Int), .string (hs d)] 32).new (K := w.heap.size + 1 + 1) (by simp only [World.size_alloc]) [.int .u64 0, .string ⟨#[]⟩, .bool false] 39).new (K := w.heap.size + 1 + 1 + 1) (by simp only [World.size_alloc]) [.int .u64 0, .string ⟨#[]⟩] 32)
  generalize hweq : ((((w.alloc (.cells #[.int .u64 ((zl z : Nat) : Int), .string (zh z), .bool (zs z)] 39)).alloc (.cells #[.int .u64 ((lo d : Nat) : Int), .string (hs d)] 32)).alloc (.cells #[.int .u64 0, .string ⟨#[]⟩, .bool false] 39)).alloc (.cells #[.int .u64 0, .string ⟨#[]⟩] 32)) = x1 at hL0
  go_enter Tryz.func148, Tryz.ntmps148
  go_upto_region 1 with fail
  clear hweq
  refine region_gh (by kernel_rfl) (by kernel_rfl) ?_
  refine lex_seg (gl := []) 4 (by kernel_rfl) ?_
  intro α iα F hF1 hF2
  have hq := GL.seg hF1 hL0
  simp only [fcC, cellsC, and_true, Nat.zero_add, Nat.reduceAdd] at hq
  simp only [List.take_succ_cons, List.take_zero, List.drop_succ_cons, List.drop_zero, List.take_nil, List.drop_nil]
  repeat (go_big_quiet_step (first | fail | (go_at_call 43; with_reducible exact seg_call hF2 HA.out _) | (go_at_call 87; with_reducible exact seg_call hF2 HG.out _)))
  refine wpQuiet_nil ?_
  clear hq hF1 hF2 iα F α
  refine lex_new [.int .u64 0, .string ⟨#[]⟩] 6 32 32 rfl rfl (of_decide_eq_true (by kernel_rfl)) (by kernel_rfl) rfl new_natc ?_
  simp only [Act.put, List.setIfInBounds_toArray, List.set_cons_succ, List.set_cons_zero]
  refine lex_put [.int .u64 ((lo g : Nat) : Int), .string (hs g)] [.int .u64 0, .string ⟨#[]⟩] 6 32 (.tmp 10) rfl (by kernel_rfl) (by simp [toG, upd]) rfl (fun w k h => put_natc _ _ _ _ w k h) ?_
  simp only [Act.put]
  refine lexG_nil ?_
  intro κ x2 hS
  replace hL0 := hL0.ghs hS [(6, [.int .u64 ((lo g : Nat) : Int), .string (hs g)])] (by simp) (by intro p hp; simp only [List.mem_cons, List.not_mem_nil, or_false] at hp; rcases hp with rfl <;> exact ⟨_, by simp only [toG, upd]; rfl⟩)
  simp only [List.map_cons, List.map_nil, List.cons_append, List.nil_append] at hL0
  simp only [over_toG, over_nil, Act.put, List.setIfInBounds_toArray, List.set_cons_succ, List.set_cons_zero]
  clear hS
  generalize κ 6 = k2_6 at *
  go_upto_region 2 with fail
  obtain ⟨α, iα, F, hF1, hF2⟩ := cls x2
  have hq0 := cls_box hF1 hL0 _ _ List.mem_cons_self
  simp only [cellsC, and_true, Nat.zero_add, Nat.reduceAdd] at hq0
  have hq1 := cls_box hF1 hL0 _ _ (List.mem_cons_of_mem _ (List.mem_cons_of_mem _ (List.mem_cons_of_mem _ List.mem_cons_self)))
  simp only [cellsC, and_true, Nat.zero_add, Nat.reduceAdd] at hq1
  have hq2 := cls_box hF1 hL0 _ _ (List.mem_cons_of_mem _ (List.mem_cons_of_mem _ (List.mem_cons_of_mem _ (List.mem_cons_of_mem _ List.mem_cons_self))))
  simp only [cellsC, and_true, Nat.zero_add, Nat.reduceAdd] at hq2
  refine region_qs 6 (C := fun w' => ∃ x, w' = F x) (by kernel_rfl) (by kernel_rfl) (cls_drew hF2) ?_
  simp only [List.take_succ_cons, List.take_zero, List.drop_succ_cons, List.drop_zero, List.take_nil, List.drop_nil]
  repeat (go_big_quiet_step (first | fail | (go_at_call 193; with_reducible exact cls_call hF1 hF2 HP.out _) | (go_at_call 192; with_reducible exact cls_call hF1 hF2 HQ.out _)))
  refine wpQuiet_nil ?_
  rintro wq ⟨xq, rfl⟩
  replace hL0 := hL0.call (hF1 xq)
  clear  hq0 hq1 hq2 hF2
  generalize F xq = x3 at hL0 ⊢
  clear hF1 xq iα F α
  have hA := hL0.fc
  simp only [fcG, cellsF, neK, and_true, ne_eq, Nat.zero_add, Nat.reduceAdd] at hA
  have hP := hL0.put 2 (w.heap.size + 1 + 1) _ rfl [.int .u64 ((zl u : Nat) : Int), .string (zh u), .bool (zs u)] rfl
  simp only [setAll, List.set_cons_zero, List.set_cons_succ] at hP
  generalize hput1 : (((x3.setCell ⟨w.heap.size + 1 + 1, 0, none⟩ (.int .u64 ((zl u : Nat) : Int))).setCell ⟨w.heap.size + 1 + 1, 1, none⟩ (.string (zh u))).setCell ⟨w.heap.size + 1 + 1, 2, none⟩ (.bool (zs u))) = x4 at hP
  have hB1 := hP.fc
  simp only [fcG, cellsF, neK, and_true, ne_eq, Nat.zero_add, Nat.reduceAdd] at hB1
  replace hL0 := hP
  have hP := hL0.put 1 (w.heap.size + 1 + 1 + 1) _ rfl [.int .u64 ((lo v : Nat) : Int), .string (hs v)] rfl
  simp only [setAll, List.set_cons_zero, List.set_cons_succ] at hP
  generalize hput2 : ((x4.setCell ⟨w.heap.size + 1 + 1 + 1, 0, none⟩ (.int .u64 ((lo v : Nat) : Int))).setCell ⟨w.heap.size + 1 + 1 + 1, 1, none⟩ (.string (hs v))) = x5 at hP
  have hB2 := hP.fc
  simp only [fcG, cellsF, neK, and_true, ne_eq, Nat.zero_add, Nat.reduceAdd] at hB2
  replace hL0 := hP
  go_wp2_with fail
  exact bodyPost_ret (v := .tuple #[.agg #[.int .u64 ((zl u : Nat) : Int), .string (zh u), .bool (zs u)], .agg #[.int .u64 ((lo v : Nat) : Int), .string (hs v)]]) (by simp [results, Tryz.results148, go_sem, hB2]) rfl ⟨rfl, hL0.bl⟩

set_option maxHeartbeats 4000000 in
set_option maxRecDepth 100000 in
theorem times_one (z : Int) (HO : ∀ w, Calls Tryz.prog 88 #[.int .u64 1] w fun xe w' => xe = .returned (.agg #[.int .u64 ((lo 1 : Nat) : Int), .string (hs 1)]) ∧ Below w.heap.size w w') (w : World) :
    Calls Tryz.prog 150 #[.agg #[.int .u64 ((zl z : Nat) : Int), .string (zh z), .bool (zs z)], .agg #[.int .u64 ((lo 1 : Nat) : Int), .string (hs 1)]] w fun xe w' => xe = .returned (.agg #[.int .u64 ((zl z : Nat) : Int), .string (zh z), .bool (zs z)]) ∧ Below w.heap.size w w' := by
  have hL0 : GL w w [] := GL.start w
  replace HO := Lib.hid HO
  replace hL0 := (((hL0.new rfl [.int .u64 ((zl z : Nat) : Int), .string (zh z), .bool (zs z)] 39).new (K := w.heap.size + 1) (szA _ _) [.int .u64 ((lo 1 : Nat) : Int), .string (hs 1)] 32).new (K := w.heap.size + 1 + 1) (by simp only [World.size_alloc]) [.int .u64 0, .string ⟨#[]⟩, .bool false] 39)
  generalize hweq : (((w.alloc (.cells #[.int .u64 ((zl z : Nat) : Int), .string (zh z), .bool (zs z)] 39)).alloc (.cells #[.int .u64 ((lo 1 : Nat) : Int), .string (hs 1)] 32)).alloc (.cells #[.int .u64 0, .string ⟨#[]⟩, .bool false] 39)) = x1 at hL0
  go_enter Tryz.func150, Tryz.ntmps150
  go_upto_region 1 with fail
  clear hweq
  obtain ⟨α, iα, F, hF1, hF2⟩ := cls x1
  have hq0 := cls_box hF1 hL0 _ _ (List.mem_cons_of_mem _ List.mem_cons_self)
  simp only [cellsC, and_true, Nat.zero_add, Nat.reduceAdd] at hq0
  refine region_qs 3 (C := fun w' => ∃ x, w' = F x) (by kernel_rfl) (by kernel_rfl) (cls_drew hF2) ?_
  simp only [List.take_succ_cons, List.take_zero, List.drop_succ_cons, List.drop_zero, List.take_nil, List.drop_nil]
  repeat (go_big_quiet_step (first | fail | (go_at_call 88; with_reducible exact cls_call hF1 hF2 HO.out _)))
  refine wpQuiet_nil ?_
  rintro wq ⟨xq, rfl⟩
  replace hL0 := hL0.call (hF1 xq)
  clear  hq0 hF2
  generalize F xq = x2 at hL0 ⊢
  clear hF1 xq iα F α
  have hA := hL0.fc
  simp only [fcG, cellsF, neK, and_true, ne_eq, Nat.zero_add, Nat.reduceAdd] at hA
  have hP := hL0.put 0 (w.heap.size + 1 + 1) _ rfl [.int .u64 ((zl z : Nat) : Int), .string (zh z), .bool (zs z)] rfl
  simp only [setAll, List.set_cons_zero, List.set_cons_succ] at hP
  generalize hput1 : (((x2.setCell ⟨w.heap.size + 1 + 1, 0, none⟩ (.int .u64 ((zl z : Nat) : Int))).setCell ⟨w.heap.size + 1 + 1, 1, none⟩ (.string (zh z))).setCell ⟨w.heap.size + 1 + 1, 2, none⟩ (.bool (zs z))) = x3 at hP
  have hB1 := hP.fc
  simp only [fcG, cellsF, neK, and_true, ne_eq, Nat.zero_add, Nat.reduceAdd] at hB1
  replace hL0 := hP
  go_wp2_with fail
  exact bodyPost_ret (v := .agg #[.int .u64 ((zl z : Nat) : Int), .string (zh z), .bool (zs z)]) (by simp [results, Tryz.results150, go_sem, hB1]) rfl ⟨rfl, hL0.bl⟩

set_option maxHeartbeats 4000000 in
set_option maxRecDepth 100000 in
theorem times_mul (z f p : Int) (d : Nat) (HO : ∀ w, Calls Tryz.prog 88 #[.int .u64 1] w fun xe w' => xe = .returned (.agg #[.int .u64 ((lo 1 : Nat) : Int), .string (hs 1)]) ∧ Below w.heap.size w w') (HF : ∀ w, Calls Tryz.prog 91 #[.bool false, .agg #[.int .u64 ((lo d : Nat) : Int), .string (hs d)]] w fun xe w' => xe = .returned (.agg #[.int .u64 ((zl f : Nat) : Int), .string (zh f), .bool (zs f)]) ∧ Below w.heap.size w w') (HM : ∀ w, Calls Tryz.prog 35 #[.agg #[.int .u64 ((zl z : Nat) : Int), .string (zh z), .bool (zs z)], .agg #[.int .u64 ((zl f : Nat) : Int), .string (zh f), .bool (zs f)]] w fun xe w' => xe = .returned (.agg #[.int .u64 ((zl p : Nat) : Int), .string (zh p), .bool (zs p)]) ∧ Below w.heap.size w w') (hd : d ≠ 1) (w : World) :
    Calls Tryz.prog 150 #[.agg #[.int .u64 ((zl z : Nat) : Int), .string (zh z), .bool (zs z)], .agg #[.int .u64 ((lo d : Nat) : Int), .string (hs d)]] w fun xe w' => xe = .returned (.agg #[.int .u64 ((zl p : Nat) : Int), .string (zh p), .bool (zs p)]) ∧ Below w.heap.size w w' := by
  have hL0 : GL w w [] := GL.start w
  replace HO := Lib.hid HO
  replace HF := Lib.hid HF
  replace HM := Lib.hid HM
  have hz := ne_nat hd
  clear hd
  rcases hz with e0 | ⟨e0, e1⟩
  all_goals (
    replace hL0 := (((hL0.new rfl [.int .u64 ((zl z : Nat) : Int), .string (zh z), .bool (zs z)] 39).new (K := w.heap.size + 1) (szA _ _) [.int .u64 ((lo d : Nat) : Int), .string (hs d)] 32).new (K := w.heap.size + 1 + 1) (by simp only [World.size_alloc]) [.int .u64 0, .string ⟨#[]⟩, .bool false] 39)
    generalize hweq : (((w.alloc (.cells #[.int .u64 ((zl z : Nat) : Int), .string (zh z), .bool (zs z)] 39)).alloc (.cells #[.int .u64 ((lo d : Nat) : Int), .string (hs d)] 32)).alloc (.cells #[.int .u64 0, .string ⟨#[]⟩, .bool false] 39)) = x1 at hL0
    go_enter Tryz.func150, Tryz.ntmps150
    go_upto_region 1 with fail
    clear hweq
    obtain ⟨α, iα, F, hF1, hF2⟩ := cls x1
    have hq0 := cls_box hF1 hL0 _ _ (List.mem_cons_of_mem _ List.mem_cons_self)
    simp only [cellsC, and_true, Nat.zero_add, Nat.reduceAdd] at hq0
    refine region_qs 3 (C := fun w' => ∃ x, w' = F x) (by kernel_rfl) (by kernel_rfl) (cls_drew hF2) ?_
    simp only [List.take_succ_cons, List.take_zero, List.drop_succ_cons, List.drop_zero, List.take_nil, List.drop_nil]
    repeat (go_big_quiet_step (first | fail | (go_at_call 88; with_reducible exact cls_call hF1 hF2 HO.out _)))
    refine wpQuiet_nil ?_
    rintro wq ⟨xq, rfl⟩
    replace hL0 := hL0.call (hF1 xq)
    clear  hq0 hF2
    generalize F xq = x2 at hL0 ⊢
    clear hF1 xq iα F α
    go_upto_region 3 with fail
    obtain ⟨α, iα, F, hF1, hF2⟩ := cls x2
    have hq0 := cls_box hF1 hL0 _ _ (List.mem_cons_of_mem _ List.mem_cons_self)
    simp only [cellsC, and_true, Nat.zero_add, Nat.reduceAdd] at hq0
    have hq1 := cls_box hF1 hL0 _ _ (List.mem_cons_of_mem _ (List.mem_cons_of_mem _ List.mem_cons_self))
    simp only [cellsC, and_true, Nat.zero_add, Nat.reduceAdd] at hq1
    refine region_qs 4 (C := fun w' => ∃ x, w' = F x) (by kernel_rfl) (by kernel_rfl) (cls_drew hF2) ?_
    simp only [List.take_succ_cons, List.take_zero, List.drop_succ_cons, List.drop_zero, List.take_nil, List.drop_nil]
    repeat (go_big_quiet_step (first | fail | (go_at_call 91; with_reducible exact cls_call hF1 hF2 HF.out _) | (go_at_call 35; with_reducible exact cls_call hF1 hF2 HM.out _)))
    refine wpQuiet_nil ?_
    rintro wq ⟨xq, rfl⟩
    replace hL0 := hL0.call (hF1 xq)
    clear  hq0 hq1 hF2
    generalize F xq = x3 at hL0 ⊢
    clear hF1 xq iα F α
    have hA := hL0.fc
    simp only [fcG, cellsF, neK, and_true, ne_eq, Nat.zero_add, Nat.reduceAdd] at hA
    have hP := hL0.put 0 (w.heap.size + 1 + 1) _ rfl [.int .u64 ((zl p : Nat) : Int), .string (zh p), .bool (zs p)] rfl
    simp only [setAll, List.set_cons_zero, List.set_cons_succ] at hP
    generalize hput1 : (((x3.setCell ⟨w.heap.size + 1 + 1, 0, none⟩ (.int .u64 ((zl p : Nat) : Int))).setCell ⟨w.heap.size + 1 + 1, 1, none⟩ (.string (zh p))).setCell ⟨w.heap.size + 1 + 1, 2, none⟩ (.bool (zs p))) = x4 at hP
    have hB1 := hP.fc
    simp only [fcG, cellsF, neK, and_true, ne_eq, Nat.zero_add, Nat.reduceAdd] at hB1
    replace hL0 := hP
    go_wp2_with fail
    exact bodyPost_ret (v := .agg #[.int .u64 ((zl p : Nat) : Int), .string (zh p), .bool (zs p)]) (by simp [results, Tryz.results150, go_sem, hB1]) rfl ⟨rfl, hL0.bl⟩)

set_option maxHeartbeats 4000000 in
set_option maxRecDepth 100000 in
theorem num_w (n : Int) (e : Nat) (w : World) :
    Calls Tryz.prog 84 #[.agg #[.int .u64 ((zl n : Nat) : Int), .string (zh n), .bool (zs n), .int .u64 ((lo e : Nat) : Int), .string (hs e)]] w fun xe w' => xe = .returned (.agg #[.int .u64 ((zl n : Nat) : Int), .string (zh n), .bool (zs n)]) ∧ Below w.heap.size w w' := by
  have hL0 : GL w w [] := GL.start w
  replace hL0 := ((hL0.new rfl [.int .u64 ((zl n : Nat) : Int), .string (zh n), .bool (zs n), .int .u64 ((lo e : Nat) : Int), .string (hs e)] 79).new (K := w.heap.size + 1) (szA _ _) [.int .u64 ((zl n : Nat) : Int), .string (zh n), .bool (zs n)] 39)
  generalize hweq : ((w.alloc (.cells #[.int .u64 ((zl n : Nat) : Int), .string (zh n), .bool (zs n), .int .u64 ((lo e : Nat) : Int), .string (hs e)] 79)).alloc (.cells #[.int .u64 ((zl n : Nat) : Int), .string (zh n), .bool (zs n)] 39)) = x1 at hL0
  go_enter Tryz.func84, Tryz.ntmps84
  have hN0 := cells_of _ 0 [] rfl (hL0.get _ _ List.mem_cons_self)
  simp only [cellsF, and_true, Nat.zero_add, Nat.reduceAdd] at hN0
  have hN1 := cells_of _ 0 [] rfl (hL0.get _ _ (List.mem_cons_of_mem _ List.mem_cons_self))
  simp only [cellsF, and_true, Nat.zero_add, Nat.reduceAdd] at hN1
  go_wp2_with fail
  exact bodyPost_ret (v := .agg #[.int .u64 ((zl n : Nat) : Int), .string (zh n), .bool (zs n)]) (by simp [results, Tryz.results84, go_sem, hN0 ,hN1]) rfl ⟨rfl, hL0.bl⟩

set_option maxHeartbeats 4000000 in
set_option maxRecDepth 100000 in
theorem int_w (k z : Int) (HO : ∀ w, Calls Tryz.prog 90 #[.int .i64 k] w fun xe w' => xe = .returned (.agg #[.int .u64 ((zl z : Nat) : Int), .string (zh z), .bool (zs z)]) ∧ Below w.heap.size w w') (w : World) :
    Calls Tryz.prog 94 #[.int .i64 k] w fun xe w' => xe = .returned (.agg #[.int .u64 ((zl z : Nat) : Int), .string (zh z), .bool (zs z), .int .u64 0, .string ⟨#[]⟩]) ∧ Below w.heap.size w w' := by
  have hL0 : GL w w [] := GL.start w
  replace HO := Lib.hid HO
  replace hL0 := (hL0.new rfl [.int .u64 0, .string ⟨#[]⟩, .bool false, .int .u64 0, .string ⟨#[]⟩] 79)
  generalize hweq : (w.alloc (.cells #[.int .u64 0, .string ⟨#[]⟩, .bool false, .int .u64 0, .string ⟨#[]⟩] 79)) = x1 at hL0
  go_enter Tryz.func94, Tryz.ntmps94
  go_wp2_with fail
  with_reducible refine Calls.mono (HO.out _) ?_
  rintro e x2 ⟨rfl, hb⟩
  replace hL0 := hL0.call hb
  clear hb hweq
  have hA := hL0.fc
  simp only [fcG, cellsF, neK, and_true, ne_eq, Nat.zero_add, Nat.reduceAdd] at hA
  have hP := hL0.put 0 (w.heap.size) _ rfl [.int .u64 ((zl z : Nat) : Int), .string (zh z), .bool (zs z), .int .u64 0, .string ⟨#[]⟩] rfl
  simp only [setAll, List.set_cons_zero, List.set_cons_succ] at hP
  generalize hput1 : (((((x2.setCell ⟨w.heap.size, 0, none⟩ (.int .u64 ((zl z : Nat) : Int))).setCell ⟨w.heap.size, 1, none⟩ (.string (zh z))).setCell ⟨w.heap.size, 2, none⟩ (.bool (zs z))).setCell ⟨w.heap.size, 3, none⟩ (.int .u64 0)).setCell ⟨w.heap.size, 4, none⟩ (.string ⟨#[]⟩)) = x3 at hP
  have hB1 := hP.fc
  simp only [fcG, cellsF, neK, and_true, ne_eq, Nat.zero_add, Nat.reduceAdd] at hB1
  replace hL0 := hP
  go_wp2_with fail
  exact bodyPost_ret (v := .agg #[.int .u64 ((zl z : Nat) : Int), .string (zh z), .bool (zs z), .int .u64 0, .string ⟨#[]⟩]) (by simp [results, Tryz.results94, go_sem, hB1]) rfl ⟨rfl, hL0.bl⟩

set_option maxHeartbeats 4000000 in
set_option maxRecDepth 100000 in
theorem fof_true (x y s z p : Int) (a b : Int) (d e : Nat) (c : Int) (HO : ∀ w, Calls Tryz.prog 90 #[.int .i64 a] w fun xe w' => xe = .returned (.agg #[.int .u64 ((zl x : Nat) : Int), .string (zh x), .bool (zs x)]) ∧ Below w.heap.size w w') (HQ : ∀ w, Calls Tryz.prog 90 #[.int .i64 b] w fun xe w' => xe = .returned (.agg #[.int .u64 ((zl y : Nat) : Int), .string (zh y), .bool (zs y)]) ∧ Below w.heap.size w w') (HS : ∀ w, Calls Tryz.prog 39 #[.agg #[.int .u64 ((zl y : Nat) : Int), .string (zh y), .bool (zs y)]] w fun xe w' => xe = .returned (.int .i64 s) ∧ Below w.heap.size w w') (HN : ∀ w, Calls Tryz.prog 37 #[.agg #[.int .u64 ((zl x : Nat) : Int), .string (zh x), .bool (zs x)]] w fun xe w' => xe = .returned (.agg #[.int .u64 ((zl z : Nat) : Int), .string (zh z), .bool (zs z)]) ∧ Below w.heap.size w w') (HA : ∀ w, Calls Tryz.prog 43 #[.agg #[.int .u64 ((zl y : Nat) : Int), .string (zh y), .bool (zs y)]] w fun xe w' => xe = .returned (.agg #[.int .u64 ((lo d : Nat) : Int), .string (hs d)]) ∧ Below w.heap.size w w') (HF : ∀ w, Calls Tryz.prog 86 #[.agg #[.int .u64 ((zl z : Nat) : Int), .string (zh z), .bool (zs z)], .agg #[.int .u64 ((lo d : Nat) : Int), .string (hs d)]] w fun xe w' => xe = .returned (.tuple #[.agg #[.int .u64 ((zl p : Nat) : Int), .string (zh p), .bool (zs p), .int .u64 ((lo e : Nat) : Int), .string (hs e)], .int .i64 c]) ∧ Below w.heap.size w w') (hsg : decide (s < 0) = true) (w : World) :
    Calls Tryz.prog 93 #[.int .i64 a, .int .i64 b] w fun xe w' => xe = .returned (.tuple #[.agg #[.int .u64 ((zl p : Nat) : Int), .string (zh p), .bool (zs p), .int .u64 ((lo e : Nat) : Int), .string (hs e)], .int .i64 c]) ∧ Below w.heap.size w w' := by
  have hL0 : GL w w [] := GL.start w
  replace HO := Lib.hid HO
  replace HQ := Lib.hid HQ
  replace HS := Lib.hid HS
  replace HN := Lib.hid HN
  replace HA := Lib.hid HA
  replace HF := Lib.hid HF
  replace hL0 := (hL0.new rfl [.int .u64 0, .string ⟨#[]⟩, .bool false, .int .u64 0, .string ⟨#[]⟩] 79)
  generalize hweq : (w.alloc (.cells #[.int .u64 0, .string ⟨#[]⟩, .bool false, .int .u64 0, .string ⟨#[]⟩] 79)) = x1 at hL0
  go_enter Tryz.func93, Tryz.ntmps93
  go_wp2_with fail
  with_reducible refine Calls.mono (HO.out _) ?_
  rintro e x2 ⟨rfl, hb⟩
  replace hL0 := hL0.call hb
  clear hb hweq
  go_wp2_with fail
  with_reducible refine Calls.mono (HQ.out _) ?_
  rintro e x3 ⟨rfl, hb⟩
  replace hL0 := hL0.call hb
  clear hb
  replace hL0 := ((hL0.new rfl [.int .u64 ((zl x : Nat) : Int), .string (zh x), .bool (zs x)] 39).new (K := x3.heap.size + 1) (szA _ _) [.int .u64 ((zl y : Nat) : Int), .string (zh y), .bool (zs y)] 39)
  generalize hweq : ((x3.alloc (.cells #[.int .u64 ((zl x : Nat) : Int), .string (zh x), .bool (zs x)] 39)).alloc (.cells #[.int .u64 ((zl y : Nat) : Int), .string (zh y), .bool (zs y)] 39)) = x4 at hL0
  have hN0 := cells_of _ 0 [] rfl (hL0.get _ _ List.mem_cons_self)
  simp only [cellsF, and_true, Nat.zero_add, Nat.reduceAdd] at hN0
  go_wp2_with fail
  clear hN0
  with_reducible refine Calls.mono (HS.out _) ?_
  rintro e x5 ⟨rfl, hb⟩
  replace hL0 := hL0.call hb
  clear hb hweq
  have hN0 := cells_of _ 0 [] rfl (hL0.get _ _ (List.mem_cons_of_mem _ List.mem_cons_self))
  simp only [cellsF, and_true, Nat.zero_add, Nat.reduceAdd] at hN0
  go_wp2_with fail
  clear hN0
  with_reducible refine Calls.mono (HN.out _) ?_
  rintro e x6 ⟨rfl, hb⟩
  replace hL0 := hL0.call hb
  clear hb
  have hA := hL0.fc
  simp only [fcG, cellsF, neK, and_true, ne_eq, Nat.zero_add, Nat.reduceAdd] at hA
  have hP := hL0.put 1 (x3.heap.size) _ rfl [.int .u64 ((zl z : Nat) : Int), .string (zh z), .bool (zs z)] rfl
  simp only [setAll, List.set_cons_zero, List.set_cons_succ] at hP
  generalize hput1 : (((x6.setCell ⟨x3.heap.size, 0, none⟩ (.int .u64 ((zl z : Nat) : Int))).setCell ⟨x3.heap.size, 1, none⟩ (.string (zh z))).setCell ⟨x3.heap.size, 2, none⟩ (.bool (zs z))) = x7 at hP
  have hB1 := hP.fc
  simp only [fcG, cellsF, neK, and_true, ne_eq, Nat.zero_add, Nat.reduceAdd] at hB1
  replace hL0 := hP
  go_upto_region 4 with fail
  clear hA
  clear hput1 hB1
  obtain ⟨α, iα, F, hF1, hF2⟩ := cls x7
  have hq0 := cls_box hF1 hL0 _ _ List.mem_cons_self
  simp only [cellsC, and_true, Nat.zero_add, Nat.reduceAdd] at hq0
  have hq1 := cls_box hF1 hL0 _ _ (List.mem_cons_of_mem _ List.mem_cons_self)
  simp only [cellsC, and_true, Nat.zero_add, Nat.reduceAdd] at hq1
  refine region_qs 6 (C := fun w' => ∃ x, w' = F x) (by kernel_rfl) (by kernel_rfl) (cls_drew hF2) ?_
  simp only [List.take_succ_cons, List.take_zero, List.drop_succ_cons, List.drop_zero, List.take_nil, List.drop_nil]
  repeat (go_big_quiet_step (first | fail | (go_at_call 43; with_reducible exact cls_call hF1 hF2 HA.out _) | (go_at_call 86; with_reducible exact cls_call hF1 hF2 HF.out _)))
  refine wpQuiet_nil ?_
  rintro wq ⟨xq, rfl⟩
  replace hL0 := hL0.call (hF1 xq)
  clear  hq0 hq1 hF2
  generalize F xq = x8 at hL0 ⊢
  clear hF1 xq iα F α
  have hA := hL0.fc
  simp only [fcG, cellsF, neK, and_true, ne_eq, Nat.zero_add, Nat.reduceAdd] at hA
  have hP := hL0.put 2 (w.heap.size) _ rfl [.int .u64 ((zl p : Nat) : Int), .string (zh p), .bool (zs p), .int .u64 ((lo e : Nat) : Int), .string (hs e)] rfl
  simp only [setAll, List.set_cons_zero, List.set_cons_succ] at hP
  generalize hput2 : (((((x8.setCell ⟨w.heap.size, 0, none⟩ (.int .u64 ((zl p : Nat) : Int))).setCell ⟨w.heap.size, 1, none⟩ (.string (zh p))).setCell ⟨w.heap.size, 2, none⟩ (.bool (zs p))).setCell ⟨w.heap.size, 3, none⟩ (.int .u64 ((lo e : Nat) : Int))).setCell ⟨w.heap.size, 4, none⟩ (.string (hs e))) = x9 at hP
  have hB2 := hP.fc
  simp only [fcG, cellsF, neK, and_true, ne_eq, Nat.zero_add, Nat.reduceAdd] at hB2
  replace hL0 := hP
  go_wp2_with fail
  exact bodyPost_ret (v := .tuple #[.agg #[.int .u64 ((zl p : Nat) : Int), .string (zh p), .bool (zs p), .int .u64 ((lo e : Nat) : Int), .string (hs e)], .int .i64 c]) (by simp [results, Tryz.results93, go_sem, hB2]) rfl ⟨rfl, hL0.bl⟩

set_option maxHeartbeats 4000000 in
set_option maxRecDepth 100000 in
theorem fof_false (x y s z p : Int) (a b : Int) (d e : Nat) (c : Int) (HO : ∀ w, Calls Tryz.prog 90 #[.int .i64 a] w fun xe w' => xe = .returned (.agg #[.int .u64 ((zl x : Nat) : Int), .string (zh x), .bool (zs x)]) ∧ Below w.heap.size w w') (HQ : ∀ w, Calls Tryz.prog 90 #[.int .i64 b] w fun xe w' => xe = .returned (.agg #[.int .u64 ((zl y : Nat) : Int), .string (zh y), .bool (zs y)]) ∧ Below w.heap.size w w') (HS : ∀ w, Calls Tryz.prog 39 #[.agg #[.int .u64 ((zl y : Nat) : Int), .string (zh y), .bool (zs y)]] w fun xe w' => xe = .returned (.int .i64 s) ∧ Below w.heap.size w w') (HA : ∀ w, Calls Tryz.prog 43 #[.agg #[.int .u64 ((zl y : Nat) : Int), .string (zh y), .bool (zs y)]] w fun xe w' => xe = .returned (.agg #[.int .u64 ((lo d : Nat) : Int), .string (hs d)]) ∧ Below w.heap.size w w') (HF : ∀ w, Calls Tryz.prog 86 #[.agg #[.int .u64 ((zl x : Nat) : Int), .string (zh x), .bool (zs x)], .agg #[.int .u64 ((lo d : Nat) : Int), .string (hs d)]] w fun xe w' => xe = .returned (.tuple #[.agg #[.int .u64 ((zl p : Nat) : Int), .string (zh p), .bool (zs p), .int .u64 ((lo e : Nat) : Int), .string (hs e)], .int .i64 c]) ∧ Below w.heap.size w w') (hsg : decide (s < 0) = false) (w : World) :
    Calls Tryz.prog 93 #[.int .i64 a, .int .i64 b] w fun xe w' => xe = .returned (.tuple #[.agg #[.int .u64 ((zl p : Nat) : Int), .string (zh p), .bool (zs p), .int .u64 ((lo e : Nat) : Int), .string (hs e)], .int .i64 c]) ∧ Below w.heap.size w w' := by
  have hL0 : GL w w [] := GL.start w
  replace HO := Lib.hid HO
  replace HQ := Lib.hid HQ
  replace HS := Lib.hid HS
  replace HA := Lib.hid HA
  replace HF := Lib.hid HF
  replace hL0 := (hL0.new rfl [.int .u64 0, .string ⟨#[]⟩, .bool false, .int .u64 0, .string ⟨#[]⟩] 79)
  generalize hweq : (w.alloc (.cells #[.int .u64 0, .string ⟨#[]⟩, .bool false, .int .u64 0, .string ⟨#[]⟩] 79)) = x1 at hL0
  go_enter Tryz.func93, Tryz.ntmps93
  go_wp2_with fail
  with_reducible refine Calls.mono (HO.out _) ?_
  rintro e x2 ⟨rfl, hb⟩
  replace hL0 := hL0.call hb
  clear hb hweq
  go_wp2_with fail
  with_reducible refine Calls.mono (HQ.out _) ?_
  rintro e x3 ⟨rfl, hb⟩
  replace hL0 := hL0.call hb
  clear hb
  replace hL0 := ((hL0.new rfl [.int .u64 ((zl x : Nat) : Int), .string (zh x), .bool (zs x)] 39).new (K := x3.heap.size + 1) (szA _ _) [.int .u64 ((zl y : Nat) : Int), .string (zh y), .bool (zs y)] 39)
  generalize hweq : ((x3.alloc (.cells #[.int .u64 ((zl x : Nat) : Int), .string (zh x), .bool (zs x)] 39)).alloc (.cells #[.int .u64 ((zl y : Nat) : Int), .string (zh y), .bool (zs y)] 39)) = x4 at hL0
  have hN0 := cells_of _ 0 [] rfl (hL0.get _ _ List.mem_cons_self)
  simp only [cellsF, and_true, Nat.zero_add, Nat.reduceAdd] at hN0
  go_wp2_with fail
  clear hN0
  with_reducible refine Calls.mono (HS.out _) ?_
  rintro e x5 ⟨rfl, hb⟩
  replace hL0 := hL0.call hb
  clear hb hweq
  go_upto_region 4 with fail
  obtain ⟨α, iα, F, hF1, hF2⟩ := cls x5
  have hq0 := cls_box hF1 hL0 _ _ List.mem_cons_self
  simp only [cellsC, and_true, Nat.zero_add, Nat.reduceAdd] at hq0
  have hq1 := cls_box hF1 hL0 _ _ (List.mem_cons_of_mem _ List.mem_cons_self)
  simp only [cellsC, and_true, Nat.zero_add, Nat.reduceAdd] at hq1
  refine region_qs 6 (C := fun w' => ∃ x, w' = F x) (by kernel_rfl) (by kernel_rfl) (cls_drew hF2) ?_
  simp only [List.take_succ_cons, List.take_zero, List.drop_succ_cons, List.drop_zero, List.take_nil, List.drop_nil]
  repeat (go_big_quiet_step (first | fail | (go_at_call 43; with_reducible exact cls_call hF1 hF2 HA.out _) | (go_at_call 86; with_reducible exact cls_call hF1 hF2 HF.out _)))
  refine wpQuiet_nil ?_
  rintro wq ⟨xq, rfl⟩
  replace hL0 := hL0.call (hF1 xq)
  clear  hq0 hq1 hF2
  generalize F xq = x6 at hL0 ⊢
  clear hF1 xq iα F α
  have hA := hL0.fc
  simp only [fcG, cellsF, neK, and_true, ne_eq, Nat.zero_add, Nat.reduceAdd] at hA
  have hP := hL0.put 2 (w.heap.size) _ rfl [.int .u64 ((zl p : Nat) : Int), .string (zh p), .bool (zs p), .int .u64 ((lo e : Nat) : Int), .string (hs e)] rfl
  simp only [setAll, List.set_cons_zero, List.set_cons_succ] at hP
  generalize hput1 : (((((x6.setCell ⟨w.heap.size, 0, none⟩ (.int .u64 ((zl p : Nat) : Int))).setCell ⟨w.heap.size, 1, none⟩ (.string (zh p))).setCell ⟨w.heap.size, 2, none⟩ (.bool (zs p))).setCell ⟨w.heap.size, 3, none⟩ (.int .u64 ((lo e : Nat) : Int))).setCell ⟨w.heap.size, 4, none⟩ (.string (hs e))) = x7 at hP
  have hB1 := hP.fc
  simp only [fcG, cellsF, neK, and_true, ne_eq, Nat.zero_add, Nat.reduceAdd] at hB1
  replace hL0 := hP
  go_wp2_with fail
  exact bodyPost_ret (v := .tuple #[.agg #[.int .u64 ((zl p : Nat) : Int), .string (zh p), .bool (zs p), .int .u64 ((lo e : Nat) : Int), .string (hs e)], .int .i64 c]) (by simp [results, Tryz.results93, go_sem, hB1]) rfl ⟨rfl, hL0.bl⟩

set_option maxHeartbeats 4000000 in
set_option maxRecDepth 100000 in
theorem floor_w (n y q r : Int) (e d : Nat) (HD : ∀ w, Calls Tryz.prog 85 #[.agg #[.int .u64 ((zl n : Nat) : Int), .string (zh n), .bool (zs n), .int .u64 ((lo e : Nat) : Int), .string (hs e)]] w fun xe w' => xe = .returned (.agg #[.int .u64 ((lo d : Nat) : Int), .string (hs d)]) ∧ Below w.heap.size w w') (HF : ∀ w, Calls Tryz.prog 91 #[.bool false, .agg #[.int .u64 ((lo d : Nat) : Int), .string (hs d)]] w fun xe w' => xe = .returned (.agg #[.int .u64 ((zl y : Nat) : Int), .string (zh y), .bool (zs y)]) ∧ Below w.heap.size w w') (HV : ∀ w, Calls Tryz.prog 47 #[.agg #[.int .u64 ((zl n : Nat) : Int), .string (zh n), .bool (zs n)], .agg #[.int .u64 ((zl y : Nat) : Int), .string (zh y), .bool (zs y)]] w fun xe w' => xe = .returned (.tuple #[.agg #[.int .u64 ((zl q : Nat) : Int), .string (zh q), .bool (zs q)], .agg #[.int .u64 ((zl r : Nat) : Int), .string (zh r), .bool (zs r)], .bool true]) ∧ Below w.heap.size w w') (w : World) :
    Calls Tryz.prog 78 #[.agg #[.int .u64 ((zl n : Nat) : Int), .string (zh n), .bool (zs n), .int .u64 ((lo e : Nat) : Int), .string (hs e)]] w fun xe w' => xe = .returned (.agg #[.int .u64 ((zl q : Nat) : Int), .string (zh q), .bool (zs q)]) ∧ Below w.heap.size w w' := by
  have hL0 : GL w w [] := GL.start w
  replace HD := Lib.hid HD
  replace HF := Lib.hid HF
  replace HV := Lib.hid HV
  replace hL0 := ((hL0.new rfl [.int .u64 ((zl n : Nat) : Int), .string (zh n), .bool (zs n), .int .u64 ((lo e : Nat) : Int), .string (hs e)] 79).new (K := w.heap.size + 1) (szA _ _) [.int .u64 0, .string ⟨#[]⟩, .bool false] 39)
  generalize hweq : ((w.alloc (.cells #[.int .u64 ((zl n : Nat) : Int), .string (zh n), .bool (zs n), .int .u64 ((lo e : Nat) : Int), .string (hs e)] 79)).alloc (.cells #[.int .u64 0, .string ⟨#[]⟩, .bool false] 39)) = x1 at hL0
  go_enter Tryz.func78, Tryz.ntmps78
  go_upto_region 1 with fail
  clear hweq
  refine region_gh (by kernel_rfl) (by kernel_rfl) ?_
  refine lex_seg (gl := []) 10 (by kernel_rfl) ?_
  intro α iα F hF1 hF2
  have hq := GL.seg hF1 hL0
  simp only [fcC, cellsC, and_true, Nat.zero_add, Nat.reduceAdd] at hq
  simp only [List.take_succ_cons, List.take_zero, List.drop_succ_cons, List.drop_zero, List.take_nil, List.drop_nil]
  repeat (go_big_quiet_step (first | fail | (go_at_call 85; with_reducible exact seg_call hF2 HD.out _) | (go_at_call 91; with_reducible exact seg_call hF2 HF.out _) | (go_at_call 47; with_reducible exact seg_call hF2 HV.out _)))
  refine wpQuiet_nil ?_
  clear hq hF1 hF2 iα F α
  refine lex_new [.int .u64 0, .string ⟨#[]⟩, .bool false] 3 39 39 rfl rfl (of_decide_eq_true (by kernel_rfl)) (by kernel_rfl) rfl new_int ?_
  simp only [Act.put, List.setIfInBounds_toArray, List.set_cons_succ, List.set_cons_zero]
  refine lex_new [.int .u64 0, .string ⟨#[]⟩, .bool false] 4 39 39 rfl rfl (of_decide_eq_true (by kernel_rfl)) (by kernel_rfl) rfl new_int ?_
  simp only [Act.put, List.setIfInBounds_toArray, List.set_cons_succ, List.set_cons_zero]
  refine lex_put [.int .u64 ((zl q : Nat) : Int), .string (zh q), .bool (zs q)] [.int .u64 0, .string ⟨#[]⟩, .bool false] 3 39 (.tmp 13) rfl (by kernel_rfl) (by simp [toG, upd]) rfl (fun w k h => put_int _ _ _ _ _ _ w k h) ?_
  simp only [Act.put]
  refine lex_put [.int .u64 ((zl r : Nat) : Int), .string (zh r), .bool (zs r)] [.int .u64 0, .string ⟨#[]⟩, .bool false] 4 39 (.tmp 14) rfl (by kernel_rfl) (by simp [toG, upd]) rfl (fun w k h => put_int _ _ _ _ _ _ w k h) ?_
  simp only [Act.put]
  refine lex_seg (gl := [(4, [.int .u64 ((zl r : Nat) : Int), .string (zh r), .bool (zs r)], true), (3, [.int .u64 ((zl q : Nat) : Int), .string (zh q), .bool (zs q)], true), (4, [.int .u64 0, .string ⟨#[]⟩, .bool false], false), (3, [.int .u64 0, .string ⟨#[]⟩, .bool false], false)]) 1 (by kernel_rfl) ?_
  intro α iα F hF1 hF2
  have hq := GL.seg hF1 hL0
  simp only [fcC, cellsC, and_true, Nat.zero_add, Nat.reduceAdd] at hq
  simp only [List.take_succ_cons, List.take_zero, List.drop_succ_cons, List.drop_zero, List.take_nil, List.drop_nil]
  repeat (go_big_quiet_step (first | fail | (go_at_call 85; with_reducible exact seg_call hF2 HD.out _) | (go_at_call 91; with_reducible exact seg_call hF2 HF.out _) | (go_at_call 47; with_reducible exact seg_call hF2 HV.out _)))
  refine wpQuiet_nil ?_
  clear hq hF1 hF2 iα F α
  refine lexG_nil ?_
  intro κ x2 hS
  replace hL0 := hL0.ghs hS [(4, [.int .u64 ((zl r : Nat) : Int), .string (zh r), .bool (zs r)]), (3, [.int .u64 ((zl q : Nat) : Int), .string (zh q), .bool (zs q)])] (by simp) (by intro p hp; simp only [List.mem_cons, List.not_mem_nil, or_false] at hp; rcases hp with rfl | rfl <;> exact ⟨_, by simp only [toG, upd]; rfl⟩)
  simp only [List.map_cons, List.map_nil, List.cons_append, List.nil_append] at hL0
  simp only [over_toG, over_nil, Act.put, List.setIfInBounds_toArray, List.set_cons_succ, List.set_cons_zero]
  clear hS
  generalize κ 4 = k2_4 at *
  generalize κ 3 = k2_3 at *
  have hA := hL0.fc
  simp only [fcG, cellsF, neK, and_true, ne_eq, Nat.zero_add, Nat.reduceAdd] at hA
  have hP := hL0.put 2 (w.heap.size + 1) _ rfl [.int .u64 ((zl q : Nat) : Int), .string (zh q), .bool (zs q)] rfl
  simp only [setAll, List.set_cons_zero, List.set_cons_succ] at hP
  generalize hput1 : (((x2.setCell ⟨w.heap.size + 1, 0, none⟩ (.int .u64 ((zl q : Nat) : Int))).setCell ⟨w.heap.size + 1, 1, none⟩ (.string (zh q))).setCell ⟨w.heap.size + 1, 2, none⟩ (.bool (zs q))) = x3 at hP
  have hB1 := hP.fc
  simp only [fcG, cellsF, neK, and_true, ne_eq, Nat.zero_add, Nat.reduceAdd] at hB1
  replace hL0 := hP
  go_wp2_with fail
  exact bodyPost_ret (v := .agg #[.int .u64 ((zl q : Nat) : Int), .string (zh q), .bool (zs q)]) (by simp [results, Tryz.results78, go_sem, hB1]) rfl ⟨rfl, hL0.bl⟩

set_option maxHeartbeats 4000000 in
set_option maxRecDepth 100000 in
theorem ceil_w (n m q p : Int) (e : Nat) (HN : ∀ w, Calls Tryz.prog 71 #[.agg #[.int .u64 ((zl n : Nat) : Int), .string (zh n), .bool (zs n), .int .u64 ((lo e : Nat) : Int), .string (hs e)]] w fun xe w' => xe = .returned (.agg #[.int .u64 ((zl m : Nat) : Int), .string (zh m), .bool (zs m), .int .u64 ((lo e : Nat) : Int), .string (hs e)]) ∧ Below w.heap.size w w') (HF : ∀ w, Calls Tryz.prog 78 #[.agg #[.int .u64 ((zl m : Nat) : Int), .string (zh m), .bool (zs m), .int .u64 ((lo e : Nat) : Int), .string (hs e)]] w fun xe w' => xe = .returned (.agg #[.int .u64 ((zl q : Nat) : Int), .string (zh q), .bool (zs q)]) ∧ Below w.heap.size w w') (HG : ∀ w, Calls Tryz.prog 37 #[.agg #[.int .u64 ((zl q : Nat) : Int), .string (zh q), .bool (zs q)]] w fun xe w' => xe = .returned (.agg #[.int .u64 ((zl p : Nat) : Int), .string (zh p), .bool (zs p)]) ∧ Below w.heap.size w w') (w : World) :
    Calls Tryz.prog 95 #[.agg #[.int .u64 ((zl n : Nat) : Int), .string (zh n), .bool (zs n), .int .u64 ((lo e : Nat) : Int), .string (hs e)]] w fun xe w' => xe = .returned (.agg #[.int .u64 ((zl p : Nat) : Int), .string (zh p), .bool (zs p)]) ∧ Below w.heap.size w w' := by
  have hL0 : GL w w [] := GL.start w
  replace HN := Lib.hid HN
  replace HF := Lib.hid HF
  replace HG := Lib.hid HG
  replace hL0 := ((hL0.new rfl [.int .u64 ((zl n : Nat) : Int), .string (zh n), .bool (zs n), .int .u64 ((lo e : Nat) : Int), .string (hs e)] 79).new (K := w.heap.size + 1) (szA _ _) [.int .u64 0, .string ⟨#[]⟩, .bool false] 39)
  generalize hweq : ((w.alloc (.cells #[.int .u64 ((zl n : Nat) : Int), .string (zh n), .bool (zs n), .int .u64 ((lo e : Nat) : Int), .string (hs e)] 79)).alloc (.cells #[.int .u64 0, .string ⟨#[]⟩, .bool false] 39)) = x1 at hL0
  go_enter Tryz.func95, Tryz.ntmps95
  have hN0 := cells_of _ 0 [] rfl (hL0.get _ _ (List.mem_cons_of_mem _ List.mem_cons_self))
  simp only [cellsF, and_true, Nat.zero_add, Nat.reduceAdd] at hN0
  go_wp2_with fail
  clear hN0
  with_reducible refine Calls.mono (HN.out _) ?_
  rintro e x2 ⟨rfl, hb⟩
  replace hL0 := hL0.call hb
  clear hb hweq
  go_wp2_with fail
  with_reducible refine Calls.mono (HF.out _) ?_
  rintro e x3 ⟨rfl, hb⟩
  replace hL0 := hL0.call hb
  clear hb
  go_wp2_with fail
  with_reducible refine Calls.mono (HG.out _) ?_
  rintro e x4 ⟨rfl, hb⟩
  replace hL0 := hL0.call hb
  clear hb
  have hA := hL0.fc
  simp only [fcG, cellsF, neK, and_true, ne_eq, Nat.zero_add, Nat.reduceAdd] at hA
  have hP := hL0.put 0 (w.heap.size + 1) _ rfl [.int .u64 ((zl p : Nat) : Int), .string (zh p), .bool (zs p)] rfl
  simp only [setAll, List.set_cons_zero, List.set_cons_succ] at hP
  generalize hput1 : (((x4.setCell ⟨w.heap.size + 1, 0, none⟩ (.int .u64 ((zl p : Nat) : Int))).setCell ⟨w.heap.size + 1, 1, none⟩ (.string (zh p))).setCell ⟨w.heap.size + 1, 2, none⟩ (.bool (zs p))) = x5 at hP
  have hB1 := hP.fc
  simp only [fcG, cellsF, neK, and_true, ne_eq, Nat.zero_add, Nat.reduceAdd] at hB1
  replace hL0 := hP
  go_wp2_with fail
  exact bodyPost_ret (v := .agg #[.int .u64 ((zl p : Nat) : Int), .string (zh p), .bool (zs p)]) (by simp [results, Tryz.results95, go_sem, hB1]) rfl ⟨rfl, hL0.bl⟩

set_option maxHeartbeats 4000000 in
set_option maxRecDepth 100000 in
theorem fneg_w (n m : Int) (e : Nat) (HN : ∀ w, Calls Tryz.prog 37 #[.agg #[.int .u64 ((zl n : Nat) : Int), .string (zh n), .bool (zs n)]] w fun xe w' => xe = .returned (.agg #[.int .u64 ((zl m : Nat) : Int), .string (zh m), .bool (zs m)]) ∧ Below w.heap.size w w') (w : World) :
    Calls Tryz.prog 71 #[.agg #[.int .u64 ((zl n : Nat) : Int), .string (zh n), .bool (zs n), .int .u64 ((lo e : Nat) : Int), .string (hs e)]] w fun xe w' => xe = .returned (.agg #[.int .u64 ((zl m : Nat) : Int), .string (zh m), .bool (zs m), .int .u64 ((lo e : Nat) : Int), .string (hs e)]) ∧ Below w.heap.size w w' := by
  have hL0 : GL w w [] := GL.start w
  replace HN := Lib.hid HN
  replace hL0 := ((hL0.new rfl [.int .u64 ((zl n : Nat) : Int), .string (zh n), .bool (zs n), .int .u64 ((lo e : Nat) : Int), .string (hs e)] 79).new (K := w.heap.size + 1) (szA _ _) [.int .u64 0, .string ⟨#[]⟩, .bool false, .int .u64 0, .string ⟨#[]⟩] 79)
  generalize hweq : ((w.alloc (.cells #[.int .u64 ((zl n : Nat) : Int), .string (zh n), .bool (zs n), .int .u64 ((lo e : Nat) : Int), .string (hs e)] 79)).alloc (.cells #[.int .u64 0, .string ⟨#[]⟩, .bool false, .int .u64 0, .string ⟨#[]⟩] 79)) = x1 at hL0
  go_enter Tryz.func71, Tryz.ntmps71
  go_upto_region 1 with fail
  clear hweq
  obtain ⟨α, iα, F, hF1, hF2⟩ := cls x1
  have hq0 := cls_box hF1 hL0 _ _ (List.mem_cons_of_mem _ List.mem_cons_self)
  simp only [cellsC, and_true, Nat.zero_add, Nat.reduceAdd] at hq0
  refine region_qs 6 (C := fun w' => ∃ x, w' = F x) (by kernel_rfl) (by kernel_rfl) (cls_drew hF2) ?_
  simp only [List.take_succ_cons, List.take_zero, List.drop_succ_cons, List.drop_zero, List.take_nil, List.drop_nil]
  repeat (go_big_quiet_step (first | fail | (go_at_call 37; with_reducible exact cls_call hF1 hF2 HN.out _)))
  refine wpQuiet_nil ?_
  rintro wq ⟨xq, rfl⟩
  replace hL0 := hL0.call (hF1 xq)
  clear  hq0 hF2
  generalize F xq = x2 at hL0 ⊢
  clear hF1 xq iα F α
  have hA := hL0.fc
  simp only [fcG, cellsF, neK, and_true, ne_eq, Nat.zero_add, Nat.reduceAdd] at hA
  have hP := hL0.put 0 (w.heap.size + 1) _ rfl [.int .u64 ((zl m : Nat) : Int), .string (zh m), .bool (zs m), .int .u64 ((lo e : Nat) : Int), .string (hs e)] rfl
  simp only [setAll, List.set_cons_zero, List.set_cons_succ] at hP
  generalize hput1 : (((((x2.setCell ⟨w.heap.size + 1, 0, none⟩ (.int .u64 ((zl m : Nat) : Int))).setCell ⟨w.heap.size + 1, 1, none⟩ (.string (zh m))).setCell ⟨w.heap.size + 1, 2, none⟩ (.bool (zs m))).setCell ⟨w.heap.size + 1, 3, none⟩ (.int .u64 ((lo e : Nat) : Int))).setCell ⟨w.heap.size + 1, 4, none⟩ (.string (hs e))) = x3 at hP
  have hB1 := hP.fc
  simp only [fcG, cellsF, neK, and_true, ne_eq, Nat.zero_add, Nat.reduceAdd] at hB1
  replace hL0 := hP
  go_wp2_with fail
  exact bodyPost_ret (v := .agg #[.int .u64 ((zl m : Nat) : Int), .string (zh m), .bool (zs m), .int .u64 ((lo e : Nat) : Int), .string (hs e)]) (by simp [results, Tryz.results71, go_sem, hB1]) rfl ⟨rfl, hL0.bl⟩

set_option maxHeartbeats 4000000 in
set_option maxRecDepth 100000 in
theorem fabs_w (n m : Int) (a e : Nat) (HA : ∀ w, Calls Tryz.prog 43 #[.agg #[.int .u64 ((zl n : Nat) : Int), .string (zh n), .bool (zs n)]] w fun xe w' => xe = .returned (.agg #[.int .u64 ((lo a : Nat) : Int), .string (hs a)]) ∧ Below w.heap.size w w') (HF : ∀ w, Calls Tryz.prog 91 #[.bool false, .agg #[.int .u64 ((lo a : Nat) : Int), .string (hs a)]] w fun xe w' => xe = .returned (.agg #[.int .u64 ((zl m : Nat) : Int), .string (zh m), .bool (zs m)]) ∧ Below w.heap.size w w') (w : World) :
    Calls Tryz.prog 73 #[.agg #[.int .u64 ((zl n : Nat) : Int), .string (zh n), .bool (zs n), .int .u64 ((lo e : Nat) : Int), .string (hs e)]] w fun xe w' => xe = .returned (.agg #[.int .u64 ((zl m : Nat) : Int), .string (zh m), .bool (zs m), .int .u64 ((lo e : Nat) : Int), .string (hs e)]) ∧ Below w.heap.size w w' := by
  have hL0 : GL w w [] := GL.start w
  replace HA := Lib.hid HA
  replace HF := Lib.hid HF
  replace hL0 := ((hL0.new rfl [.int .u64 ((zl n : Nat) : Int), .string (zh n), .bool (zs n), .int .u64 ((lo e : Nat) : Int), .string (hs e)] 79).new (K := w.heap.size + 1) (szA _ _) [.int .u64 0, .string ⟨#[]⟩, .bool false, .int .u64 0, .string ⟨#[]⟩] 79)
  generalize hweq : ((w.alloc (.cells #[.int .u64 ((zl n : Nat) : Int), .string (zh n), .bool (zs n), .int .u64 ((lo e : Nat) : Int), .string (hs e)] 79)).alloc (.cells #[.int .u64 0, .string ⟨#[]⟩, .bool false, .int .u64 0, .string ⟨#[]⟩] 79)) = x1 at hL0
  go_enter Tryz.func73, Tryz.ntmps73
  go_upto_region 1 with fail
  clear hweq
  obtain ⟨α, iα, F, hF1, hF2⟩ := cls x1
  have hq0 := cls_box hF1 hL0 _ _ (List.mem_cons_of_mem _ List.mem_cons_self)
  simp only [cellsC, and_true, Nat.zero_add, Nat.reduceAdd] at hq0
  refine region_qs 7 (C := fun w' => ∃ x, w' = F x) (by kernel_rfl) (by kernel_rfl) (cls_drew hF2) ?_
  simp only [List.take_succ_cons, List.take_zero, List.drop_succ_cons, List.drop_zero, List.take_nil, List.drop_nil]
  repeat (go_big_quiet_step (first | fail | (go_at_call 43; with_reducible exact cls_call hF1 hF2 HA.out _) | (go_at_call 91; with_reducible exact cls_call hF1 hF2 HF.out _)))
  refine wpQuiet_nil ?_
  rintro wq ⟨xq, rfl⟩
  replace hL0 := hL0.call (hF1 xq)
  clear  hq0 hF2
  generalize F xq = x2 at hL0 ⊢
  clear hF1 xq iα F α
  have hA := hL0.fc
  simp only [fcG, cellsF, neK, and_true, ne_eq, Nat.zero_add, Nat.reduceAdd] at hA
  have hP := hL0.put 0 (w.heap.size + 1) _ rfl [.int .u64 ((zl m : Nat) : Int), .string (zh m), .bool (zs m), .int .u64 ((lo e : Nat) : Int), .string (hs e)] rfl
  simp only [setAll, List.set_cons_zero, List.set_cons_succ] at hP
  generalize hput1 : (((((x2.setCell ⟨w.heap.size + 1, 0, none⟩ (.int .u64 ((zl m : Nat) : Int))).setCell ⟨w.heap.size + 1, 1, none⟩ (.string (zh m))).setCell ⟨w.heap.size + 1, 2, none⟩ (.bool (zs m))).setCell ⟨w.heap.size + 1, 3, none⟩ (.int .u64 ((lo e : Nat) : Int))).setCell ⟨w.heap.size + 1, 4, none⟩ (.string (hs e))) = x3 at hP
  have hB1 := hP.fc
  simp only [fcG, cellsF, neK, and_true, ne_eq, Nat.zero_add, Nat.reduceAdd] at hB1
  replace hL0 := hP
  go_wp2_with fail
  exact bodyPost_ret (v := .agg #[.int .u64 ((zl m : Nat) : Int), .string (zh m), .bool (zs m), .int .u64 ((lo e : Nat) : Int), .string (hs e)]) (by simp [results, Tryz.results73, go_sem, hB1]) rfl ⟨rfl, hL0.bl⟩

set_option maxHeartbeats 4000000 in
set_option maxRecDepth 100000 in
theorem fsign_w (n s : Int) (e : Nat) (HS : ∀ w, Calls Tryz.prog 39 #[.agg #[.int .u64 ((zl n : Nat) : Int), .string (zh n), .bool (zs n)]] w fun xe w' => xe = .returned (.int .i64 s) ∧ Below w.heap.size w w') (w : World) :
    Calls Tryz.prog 75 #[.agg #[.int .u64 ((zl n : Nat) : Int), .string (zh n), .bool (zs n), .int .u64 ((lo e : Nat) : Int), .string (hs e)]] w fun xe w' => xe = .returned (.int .i64 s) ∧ Below w.heap.size w w' := by
  have hL0 : GL w w [] := GL.start w
  replace HS := Lib.hid HS
  replace hL0 := (hL0.new rfl [.int .u64 ((zl n : Nat) : Int), .string (zh n), .bool (zs n), .int .u64 ((lo e : Nat) : Int), .string (hs e)] 79)
  generalize hweq : (w.alloc (.cells #[.int .u64 ((zl n : Nat) : Int), .string (zh n), .bool (zs n), .int .u64 ((lo e : Nat) : Int), .string (hs e)] 79)) = x1 at hL0
  go_enter Tryz.func75, Tryz.ntmps75
  have hN0 := cells_of _ 0 [] rfl (hL0.get _ _ List.mem_cons_self)
  simp only [cellsF, and_true, Nat.zero_add, Nat.reduceAdd] at hN0
  go_wp2_with fail
  clear hN0
  with_reducible refine Calls.mono (HS.out _) ?_
  rintro e x2 ⟨rfl, hb⟩
  replace hL0 := hL0.call hb
  clear hb hweq
  go_wp2_with fail
  exact bodyPost_ret (v := .int .i64 s) (by simp [results, Tryz.results75, go_sem]) rfl ⟨rfl, hL0.bl⟩

end Go.Proofs.YtecdnohhengfaaaGreatDoor

/-
  Layer 3, walks: the operations of fractions.
-/
namespace Go.Proofs.YtecdnohhengfaaaGreatDoor
open Go.RowKit
attribute [local irreducible] lo hs sm s64 c64 d64 b64 mh ml pd pc qd qc val hiB str cmpI srD lz nb isq decB zl zh zs

set_option maxHeartbeats 4000000 in
set_option maxRecDepth 100000 in
theorem fcmp_w (m n x y c : Int) (d e p q : Nat) (HD : ∀ w, Calls Tryz.prog 85 #[.agg #[.int .u64 ((zl m : Nat) : Int), .string (zh m), .bool (zs m), .int .u64 ((lo d : Nat) : Int), .string (hs d)]] w fun xe w' => xe = .returned (.agg #[.int .u64 ((lo p : Nat) : Int), .string (hs p)]) ∧ Below w.heap.size w w') (HE : ∀ w, Calls Tryz.prog 85 #[.agg #[.int .u64 ((zl n : Nat) : Int), .string (zh n), .bool (zs n), .int .u64 ((lo e : Nat) : Int), .string (hs e)]] w fun xe w' => xe = .returned (.agg #[.int .u64 ((lo q : Nat) : Int), .string (hs q)]) ∧ Below w.heap.size w w') (HS : ∀ w, Calls Tryz.prog 150 #[.agg #[.int .u64 ((zl m : Nat) : Int), .string (zh m), .bool (zs m)], .agg #[.int .u64 ((lo q : Nat) : Int), .string (hs q)]] w fun xe w' => xe = .returned (.agg #[.int .u64 ((zl x : Nat) : Int), .string (zh x), .bool (zs x)]) ∧ Below w.heap.size w w') (HT : ∀ w, Calls Tryz.prog 150 #[.agg #[.int .u64 ((zl n : Nat) : Int), .string (zh n), .bool (zs n)], .agg #[.int .u64 ((lo p : Nat) : Int), .string (hs p)]] w fun xe w' => xe = .returned (.agg #[.int .u64 ((zl y : Nat) : Int), .string (zh y), .bool (zs y)]) ∧ Below w.heap.size w w') (HC : ∀ w, Calls Tryz.prog 41 #[.agg #[.int .u64 ((zl x : Nat) : Int), .string (zh x), .bool (zs x)], .agg #[.int .u64 ((zl y : Nat) : Int), .string (zh y), .bool (zs y)]] w fun xe w' => xe = .returned (.int .i64 c) ∧ Below w.heap.size w w') (w : World) :
    Calls Tryz.prog 76 #[.agg #[.int .u64 ((zl m : Nat) : Int), .string (zh m), .bool (zs m), .int .u64 ((lo d : Nat) : Int), .string (hs d)], .agg #[.int .u64 ((zl n : Nat) : Int), .string (zh n), .bool (zs n), .int .u64 ((lo e : Nat) : Int), .string (hs e)]] w fun xe w' => xe = .returned (.int .i64 c) ∧ Below w.heap.size w w' := by
  have hL0 : GL w w [] := GL.start w
  replace HD := Lib.hid HD
  replace HE := Lib.hid HE
  replace HS := Lib.hid HS
  replace HT := Lib.hid HT
  replace HC := Lib.hid HC
  replace hL0 := ((hL0.new rfl [.int .u64 ((zl m : Nat) : Int), .string (zh m), .bool (zs m), .int .u64 ((lo d : Nat) : Int), .string (hs d)] 79).new (K := w.heap.size + 1) (szA _ _) [.int .u64 ((zl n : Nat) : Int), .string (zh n), .bool (zs n), .int .u64 ((lo e : Nat) : Int), .string (hs e)] 79)
  generalize hweq : ((w.alloc (.cells #[.int .u64 ((zl m : Nat) : Int), .string (zh m), .bool (zs m), .int .u64 ((lo d : Nat) : Int), .string (hs d)] 79)).alloc (.cells #[.int .u64 ((zl n : Nat) : Int), .string (zh n), .bool (zs n), .int .u64 ((lo e : Nat) : Int), .string (hs e)] 79)) = x1 at hL0
  go_enter Tryz.func76, Tryz.ntmps76
  go_upto_region 1 with fail
  clear hweq
  obtain ⟨α, iα, F, hF1, hF2⟩ := cls x1
  have hq0 := cls_box hF1 hL0 _ _ List.mem_cons_self
  simp only [cellsC, and_true, Nat.zero_add, Nat.reduceAdd] at hq0
  have hq1 := cls_box hF1 hL0 _ _ (List.mem_cons_of_mem _ List.mem_cons_self)
  simp only [cellsC, and_true, Nat.zero_add, Nat.reduceAdd] at hq1
  refine region_qs 12 (C := fun w' => ∃ x, w' = F x) (by kernel_rfl) (by kernel_rfl) (cls_drew hF2) ?_
  simp only [List.take_succ_cons, List.take_zero, List.drop_succ_cons, List.drop_zero, List.take_nil, List.drop_nil]
  repeat (go_big_quiet_step (first | fail | (go_at_call 85; with_reducible exact cls_call hF1 hF2 HE.out _) | (go_at_call 150; with_reducible exact cls_call hF1 hF2 HS.out _) | (go_at_call 85; with_reducible exact cls_call hF1 hF2 HD.out _) | (go_at_call 150; with_reducible exact cls_call hF1 hF2 HT.out _) | (go_at_call 41; with_reducible exact cls_call hF1 hF2 HC.out _)))
  refine wpQuiet_nil ?_
  rintro wq ⟨xq, rfl⟩
  replace hL0 := hL0.call (hF1 xq)
  clear  hq0 hq1 hF2
  generalize F xq = x2 at hL0 ⊢
  clear hF1 xq iα F α
  go_wp2_with fail
  exact bodyPost_ret (v := .int .i64 c) (by simp [results, Tryz.results76, go_sem]) rfl ⟨rfl, hL0.bl⟩

set_option maxHeartbeats 4000000 in
set_option maxRecDepth 100000 in
theorem fsquare_w (n m x : Int) (e d p f : Nat) (HM : ∀ w, Calls Tryz.prog 35 #[.agg #[.int .u64 ((zl n : Nat) : Int), .string (zh n), .bool (zs n)], .agg #[.int .u64 ((zl n : Nat) : Int), .string (zh n), .bool (zs n)]] w fun xe w' => xe = .returned (.agg #[.int .u64 ((zl m : Nat) : Int), .string (zh m), .bool (zs m)]) ∧ Below w.heap.size w w') (HD : ∀ w, Calls Tryz.prog 85 #[.agg #[.int .u64 ((zl n : Nat) : Int), .string (zh n), .bool (zs n), .int .u64 ((lo e : Nat) : Int), .string (hs e)]] w fun xe w' => xe = .returned (.agg #[.int .u64 ((lo d : Nat) : Int), .string (hs d)]) ∧ Below w.heap.size w w') (HP : ∀ w, Calls Tryz.prog 92 #[.agg #[.int .u64 ((lo d : Nat) : Int), .string (hs d)], .agg #[.int .u64 ((lo d : Nat) : Int), .string (hs d)]] w fun xe w' => xe = .returned (.agg #[.int .u64 ((lo p : Nat) : Int), .string (hs p)]) ∧ Below w.heap.size w w') (HL : ∀ w, Calls Tryz.prog 149 #[.agg #[.int .u64 ((zl m : Nat) : Int), .string (zh m), .bool (zs m)], .agg #[.int .u64 ((lo p : Nat) : Int), .string (hs p)]] w fun xe w' => xe = .returned (.agg #[.int .u64 ((zl x : Nat) : Int), .string (zh x), .bool (zs x), .int .u64 ((lo f : Nat) : Int), .string (hs f)]) ∧ Below w.heap.size w w') (w : World) :
    Calls Tryz.prog 83 #[.agg #[.int .u64 ((zl n : Nat) : Int), .string (zh n), .bool (zs n), .int .u64 ((lo e : Nat) : Int), .string (hs e)]] w fun xe w' => xe = .returned (.agg #[.int .u64 ((zl x : Nat) : Int), .string (zh x), .bool (zs x), .int .u64 ((lo f : Nat) : Int), .string (hs f)]) ∧ Below w.heap.size w w' := by
  have hL0 : GL w w [] := GL.start w
  replace HM := Lib.hid HM
  replace HD := Lib.hid HD
  replace HP := Lib.hid HP
  replace HL := Lib.hid HL
  replace hL0 := ((hL0.new rfl [.int .u64 ((zl n : Nat) : Int), .string (zh n), .bool (zs n), .int .u64 ((lo e : Nat) : Int), .string (hs e)] 79).new (K := w.heap.size + 1) (szA _ _) [.int .u64 0, .string ⟨#[]⟩, .bool false, .int .u64 0, .string ⟨#[]⟩] 79)
  generalize hweq : ((w.alloc (.cells #[.int .u64 ((zl n : Nat) : Int), .string (zh n), .bool (zs n), .int .u64 ((lo e : Nat) : Int), .string (hs e)] 79)).alloc (.cells #[.int .u64 0, .string ⟨#[]⟩, .bool false, .int .u64 0, .string ⟨#[]⟩] 79)) = x1 at hL0
  go_enter Tryz.func83, Tryz.ntmps83
  go_upto_region 1 with fail
  clear hweq
  obtain ⟨α, iα, F, hF1, hF2⟩ := cls x1
  have hq0 := cls_box hF1 hL0 _ _ (List.mem_cons_of_mem _ List.mem_cons_self)
  simp only [cellsC, and_true, Nat.zero_add, Nat.reduceAdd] at hq0
  refine region_qs 11 (C := fun w' => ∃ x, w' = F x) (by kernel_rfl) (by kernel_rfl) (cls_drew hF2) ?_
  simp only [List.take_succ_cons, List.take_zero, List.drop_succ_cons, List.drop_zero, List.take_nil, List.drop_nil]
  repeat (go_big_quiet_step (first | fail | (go_at_call 35; with_reducible exact cls_call hF1 hF2 HM.out _) | (go_at_call 85; with_reducible exact cls_call hF1 hF2 HD.out _) | (go_at_call 92; with_reducible exact cls_call hF1 hF2 HP.out _) | (go_at_call 149; with_reducible exact cls_call hF1 hF2 HL.out _)))
  refine wpQuiet_nil ?_
  rintro wq ⟨xq, rfl⟩
  replace hL0 := hL0.call (hF1 xq)
  clear  hq0 hF2
  generalize F xq = x2 at hL0 ⊢
  clear hF1 xq iα F α
  have hA := hL0.fc
  simp only [fcG, cellsF, neK, and_true, ne_eq, Nat.zero_add, Nat.reduceAdd] at hA
  have hP := hL0.put 0 (w.heap.size + 1) _ rfl [.int .u64 ((zl x : Nat) : Int), .string (zh x), .bool (zs x), .int .u64 ((lo f : Nat) : Int), .string (hs f)] rfl
  simp only [setAll, List.set_cons_zero, List.set_cons_succ] at hP
  generalize hput1 : (((((x2.setCell ⟨w.heap.size + 1, 0, none⟩ (.int .u64 ((zl x : Nat) : Int))).setCell ⟨w.heap.size + 1, 1, none⟩ (.string (zh x))).setCell ⟨w.heap.size + 1, 2, none⟩ (.bool (zs x))).setCell ⟨w.heap.size + 1, 3, none⟩ (.int .u64 ((lo f : Nat) : Int))).setCell ⟨w.heap.size + 1, 4, none⟩ (.string (hs f))) = x3 at hP
  have hB1 := hP.fc
  simp only [fcG, cellsF, neK, and_true, ne_eq, Nat.zero_add, Nat.reduceAdd] at hB1
  replace hL0 := hP
  go_wp2_with fail
  exact bodyPost_ret (v := .agg #[.int .u64 ((zl x : Nat) : Int), .string (zh x), .bool (zs x), .int .u64 ((lo f : Nat) : Int), .string (hs f)]) (by simp [results, Tryz.results83, go_sem, hB1]) rfl ⟨rfl, hL0.bl⟩

set_option maxHeartbeats 4000000 in
set_option maxRecDepth 100000 in
theorem finv_true (n s m x : Int) (e d a f : Nat) (HS : ∀ w, Calls Tryz.prog 75 #[.agg #[.int .u64 ((zl n : Nat) : Int), .string (zh n), .bool (zs n), .int .u64 ((lo e : Nat) : Int), .string (hs e)]] w fun xe w' => xe = .returned (.int .i64 s) ∧ Below w.heap.size w w') (HD : ∀ w, Calls Tryz.prog 85 #[.agg #[.int .u64 ((zl n : Nat) : Int), .string (zh n), .bool (zs n), .int .u64 ((lo e : Nat) : Int), .string (hs e)]] w fun xe w' => xe = .returned (.agg #[.int .u64 ((lo d : Nat) : Int), .string (hs d)]) ∧ Below w.heap.size w w') (HF : ∀ w, Calls Tryz.prog 91 #[.bool true, .agg #[.int .u64 ((lo d : Nat) : Int), .string (hs d)]] w fun xe w' => xe = .returned (.agg #[.int .u64 ((zl m : Nat) : Int), .string (zh m), .bool (zs m)]) ∧ Below w.heap.size w w') (HA : ∀ w, Calls Tryz.prog 43 #[.agg #[.int .u64 ((zl n : Nat) : Int), .string (zh n), .bool (zs n)]] w fun xe w' => xe = .returned (.agg #[.int .u64 ((lo a : Nat) : Int), .string (hs a)]) ∧ Below w.heap.size w w') (HL : ∀ w, Calls Tryz.prog 149 #[.agg #[.int .u64 ((zl m : Nat) : Int), .string (zh m), .bool (zs m)], .agg #[.int .u64 ((lo a : Nat) : Int), .string (hs a)]] w fun xe w' => xe = .returned (.agg #[.int .u64 ((zl x : Nat) : Int), .string (zh x), .bool (zs x), .int .u64 ((lo f : Nat) : Int), .string (hs f)]) ∧ Below w.heap.size w w') (hsg : decide (s < 0) = true) (w : World) :
    Calls Tryz.prog 143 #[.agg #[.int .u64 ((zl n : Nat) : Int), .string (zh n), .bool (zs n), .int .u64 ((lo e : Nat) : Int), .string (hs e)]] w fun xe w' => xe = .returned (.agg #[.int .u64 ((zl x : Nat) : Int), .string (zh x), .bool (zs x), .int .u64 ((lo f : Nat) : Int), .string (hs f)]) ∧ Below w.heap.size w w' := by
  have hL0 : GL w w [] := GL.start w
  replace HS := Lib.hid HS
  replace HD := Lib.hid HD
  replace HF := Lib.hid HF
  replace HA := Lib.hid HA
  replace HL := Lib.hid HL
  replace hL0 := ((hL0.new rfl [.int .u64 ((zl n : Nat) : Int), .string (zh n), .bool (zs n), .int .u64 ((lo e : Nat) : Int), .string (hs e)] 79).new (K := w.heap.size + 1) (szA _ _) [.int .u64 0, .string ⟨#[]⟩, .bool false, .int .u64 0, .string ⟨#[]⟩] 79)
  generalize hweq : ((w.alloc (.cells #[.int .u64 ((zl n : Nat) : Int), .string (zh n), .bool (zs n), .int .u64 ((lo e : Nat) : Int), .string (hs e)] 79)).alloc (.cells #[.int .u64 0, .string ⟨#[]⟩, .bool false, .int .u64 0, .string ⟨#[]⟩] 79)) = x1 at hL0
  go_enter Tryz.func143, Tryz.ntmps143
  go_upto_region 1 with fail
  clear hweq
  obtain ⟨α, iα, F, hF1, hF2⟩ := cls x1
  have hq0 := cls_box hF1 hL0 _ _ (List.mem_cons_of_mem _ List.mem_cons_self)
  simp only [cellsC, and_true, Nat.zero_add, Nat.reduceAdd] at hq0
  refine region_qs 10 (C := fun w' => ∃ x, w' = F x) (by kernel_rfl) (by kernel_rfl) (cls_drew hF2) ?_
  simp only [List.take_succ_cons, List.take_zero, List.drop_succ_cons, List.drop_zero, List.take_nil, List.drop_nil]
  repeat (go_big_quiet_step (first | fail | (go_at_call 75; with_reducible exact cls_call hF1 hF2 HS.out _) | (go_at_call 85; with_reducible exact cls_call hF1 hF2 HD.out _) | (go_at_call 91; with_reducible exact cls_call hF1 hF2 HF.out _) | (go_at_call 43; with_reducible exact cls_call hF1 hF2 HA.out _) | (go_at_call 149; with_reducible exact cls_call hF1 hF2 HL.out _)))
  refine wpQuiet_nil ?_
  rintro wq ⟨xq, rfl⟩
  replace hL0 := hL0.call (hF1 xq)
  clear  hq0 hF2
  generalize F xq = x2 at hL0 ⊢
  clear hF1 xq iα F α
  have hA := hL0.fc
  simp only [fcG, cellsF, neK, and_true, ne_eq, Nat.zero_add, Nat.reduceAdd] at hA
  have hP := hL0.put 0 (w.heap.size + 1) _ rfl [.int .u64 ((zl x : Nat) : Int), .string (zh x), .bool (zs x), .int .u64 ((lo f : Nat) : Int), .string (hs f)] rfl
  simp only [setAll, List.set_cons_zero, List.set_cons_succ] at hP
  generalize hput1 : (((((x2.setCell ⟨w.heap.size + 1, 0, none⟩ (.int .u64 ((zl x : Nat) : Int))).setCell ⟨w.heap.size + 1, 1, none⟩ (.string (zh x))).setCell ⟨w.heap.size + 1, 2, none⟩ (.bool (zs x))).setCell ⟨w.heap.size + 1, 3, none⟩ (.int .u64 ((lo f : Nat) : Int))).setCell ⟨w.heap.size + 1, 4, none⟩ (.string (hs f))) = x3 at hP
  have hB1 := hP.fc
  simp only [fcG, cellsF, neK, and_true, ne_eq, Nat.zero_add, Nat.reduceAdd] at hB1
  replace hL0 := hP
  go_wp2_with fail
  exact bodyPost_ret (v := .agg #[.int .u64 ((zl x : Nat) : Int), .string (zh x), .bool (zs x), .int .u64 ((lo f : Nat) : Int), .string (hs f)]) (by simp [results, Tryz.results143, go_sem, hB1]) rfl ⟨rfl, hL0.bl⟩

set_option maxHeartbeats 4000000 in
set_option maxRecDepth 100000 in
theorem finv_false (n s m x : Int) (e d a f : Nat) (HS : ∀ w, Calls Tryz.prog 75 #[.agg #[.int .u64 ((zl n : Nat) : Int), .string (zh n), .bool (zs n), .int .u64 ((lo e : Nat) : Int), .string (hs e)]] w fun xe w' => xe = .returned (.int .i64 s) ∧ Below w.heap.size w w') (HD : ∀ w, Calls Tryz.prog 85 #[.agg #[.int .u64 ((zl n : Nat) : Int), .string (zh n), .bool (zs n), .int .u64 ((lo e : Nat) : Int), .string (hs e)]] w fun xe w' => xe = .returned (.agg #[.int .u64 ((lo d : Nat) : Int), .string (hs d)]) ∧ Below w.heap.size w w') (HF : ∀ w, Calls Tryz.prog 91 #[.bool false, .agg #[.int .u64 ((lo d : Nat) : Int), .string (hs d)]] w fun xe w' => xe = .returned (.agg #[.int .u64 ((zl m : Nat) : Int), .string (zh m), .bool (zs m)]) ∧ Below w.heap.size w w') (HA : ∀ w, Calls Tryz.prog 43 #[.agg #[.int .u64 ((zl n : Nat) : Int), .string (zh n), .bool (zs n)]] w fun xe w' => xe = .returned (.agg #[.int .u64 ((lo a : Nat) : Int), .string (hs a)]) ∧ Below w.heap.size w w') (HL : ∀ w, Calls Tryz.prog 149 #[.agg #[.int .u64 ((zl m : Nat) : Int), .string (zh m), .bool (zs m)], .agg #[.int .u64 ((lo a : Nat) : Int), .string (hs a)]] w fun xe w' => xe = .returned (.agg #[.int .u64 ((zl x : Nat) : Int), .string (zh x), .bool (zs x), .int .u64 ((lo f : Nat) : Int), .string (hs f)]) ∧ Below w.heap.size w w') (hsg : decide (s < 0) = false) (w : World) :
    Calls Tryz.prog 143 #[.agg #[.int .u64 ((zl n : Nat) : Int), .string (zh n), .bool (zs n), .int .u64 ((lo e : Nat) : Int), .string (hs e)]] w fun xe w' => xe = .returned (.agg #[.int .u64 ((zl x : Nat) : Int), .string (zh x), .bool (zs x), .int .u64 ((lo f : Nat) : Int), .string (hs f)]) ∧ Below w.heap.size w w' := by
  have hL0 : GL w w [] := GL.start w
  replace HS := Lib.hid HS
  replace HD := Lib.hid HD
  replace HF := Lib.hid HF
  replace HA := Lib.hid HA
  replace HL := Lib.hid HL
  replace hL0 := ((hL0.new rfl [.int .u64 ((zl n : Nat) : Int), .string (zh n), .bool (zs n), .int .u64 ((lo e : Nat) : Int), .string (hs e)] 79).new (K := w.heap.size + 1) (szA _ _) [.int .u64 0, .string ⟨#[]⟩, .bool false, .int .u64 0, .string ⟨#[]⟩] 79)
  generalize hweq : ((w.alloc (.cells #[.int .u64 ((zl n : Nat) : Int), .string (zh n), .bool (zs n), .int .u64 ((lo e : Nat) : Int), .string (hs e)] 79)).alloc (.cells #[.int .u64 0, .string ⟨#[]⟩, .bool false, .int .u64 0, .string ⟨#[]⟩] 79)) = x1 at hL0
  go_enter Tryz.func143, Tryz.ntmps143
  go_upto_region 1 with fail
  clear hweq
  obtain ⟨α, iα, F, hF1, hF2⟩ := cls x1
  have hq0 := cls_box hF1 hL0 _ _ (List.mem_cons_of_mem _ List.mem_cons_self)
  simp only [cellsC, and_true, Nat.zero_add, Nat.reduceAdd] at hq0
  refine region_qs 10 (C := fun w' => ∃ x, w' = F x) (by kernel_rfl) (by kernel_rfl) (cls_drew hF2) ?_
  simp only [List.take_succ_cons, List.take_zero, List.drop_succ_cons, List.drop_zero, List.take_nil, List.drop_nil]
  repeat (go_big_quiet_step (first | fail | (go_at_call 75; with_reducible exact cls_call hF1 hF2 HS.out _) | (go_at_call 85; with_reducible exact cls_call hF1 hF2 HD.out _) | (go_at_call 91; with_reducible exact cls_call hF1 hF2 HF.out _) | (go_at_call 43; with_reducible exact cls_call hF1 hF2 HA.out _) | (go_at_call 149; with_reducible exact cls_call hF1 hF2 HL.out _)))
  refine wpQuiet_nil ?_
  rintro wq ⟨xq, rfl⟩
  replace hL0 := hL0.call (hF1 xq)
  clear  hq0 hF2
  generalize F xq = x2 at hL0 ⊢
  clear hF1 xq iα F α
  have hA := hL0.fc
  simp only [fcG, cellsF, neK, and_true, ne_eq, Nat.zero_add, Nat.reduceAdd] at hA
  have hP := hL0.put 0 (w.heap.size + 1) _ rfl [.int .u64 ((zl x : Nat) : Int), .string (zh x), .bool (zs x), .int .u64 ((lo f : Nat) : Int), .string (hs f)] rfl
  simp only [setAll, List.set_cons_zero, List.set_cons_succ] at hP
  generalize hput1 : (((((x2.setCell ⟨w.heap.size + 1, 0, none⟩ (.int .u64 ((zl x : Nat) : Int))).setCell ⟨w.heap.size + 1, 1, none⟩ (.string (zh x))).setCell ⟨w.heap.size + 1, 2, none⟩ (.bool (zs x))).setCell ⟨w.heap.size + 1, 3, none⟩ (.int .u64 ((lo f : Nat) : Int))).setCell ⟨w.heap.size + 1, 4, none⟩ (.string (hs f))) = x3 at hP
  have hB1 := hP.fc
  simp only [fcG, cellsF, neK, and_true, ne_eq, Nat.zero_add, Nat.reduceAdd] at hB1
  replace hL0 := hP
  go_wp2_with fail
  exact bodyPost_ret (v := .agg #[.int .u64 ((zl x : Nat) : Int), .string (zh x), .bool (zs x), .int .u64 ((lo f : Nat) : Int), .string (hs f)]) (by simp [results, Tryz.results143, go_sem, hB1]) rfl ⟨rfl, hL0.bl⟩

set_option maxHeartbeats 4000000 in
set_option maxRecDepth 100000 in
theorem fmul_w (m n u v x y : Int) (d e p q g h k f : Nat) (HD : ∀ w, Calls Tryz.prog 85 #[.agg #[.int .u64 ((zl m : Nat) : Int), .string (zh m), .bool (zs m), .int .u64 ((lo d : Nat) : Int), .string (hs d)]] w fun xe w' => xe = .returned (.agg #[.int .u64 ((lo p : Nat) : Int), .string (hs p)]) ∧ Below w.heap.size w w') (HE : ∀ w, Calls Tryz.prog 85 #[.agg #[.int .u64 ((zl n : Nat) : Int), .string (zh n), .bool (zs n), .int .u64 ((lo e : Nat) : Int), .string (hs e)]] w fun xe w' => xe = .returned (.agg #[.int .u64 ((lo q : Nat) : Int), .string (hs q)]) ∧ Below w.heap.size w w') (HX : ∀ w, Calls Tryz.prog 148 #[.agg #[.int .u64 ((zl m : Nat) : Int), .string (zh m), .bool (zs m)], .agg #[.int .u64 ((lo q : Nat) : Int), .string (hs q)]] w fun xe w' => xe = .returned (.tuple #[.agg #[.int .u64 ((zl u : Nat) : Int), .string (zh u), .bool (zs u)], .agg #[.int .u64 ((lo g : Nat) : Int), .string (hs g)]]) ∧ Below w.heap.size w w') (HY : ∀ w, Calls Tryz.prog 148 #[.agg #[.int .u64 ((zl n : Nat) : Int), .string (zh n), .bool (zs n)], .agg #[.int .u64 ((lo p : Nat) : Int), .string (hs p)]] w fun xe w' => xe = .returned (.tuple #[.agg #[.int .u64 ((zl v : Nat) : Int), .string (zh v), .bool (zs v)], .agg #[.int .u64 ((lo h : Nat) : Int), .string (hs h)]]) ∧ Below w.heap.size w w') (HM : ∀ w, Calls Tryz.prog 35 #[.agg #[.int .u64 ((zl u : Nat) : Int), .string (zh u), .bool (zs u)], .agg #[.int .u64 ((zl v : Nat) : Int), .string (zh v), .bool (zs v)]] w fun xe w' => xe = .returned (.agg #[.int .u64 ((zl x : Nat) : Int), .string (zh x), .bool (zs x)]) ∧ Below w.heap.size w w') (HP : ∀ w, Calls Tryz.prog 92 #[.agg #[.int .u64 ((lo h : Nat) : Int), .string (hs h)], .agg #[.int .u64 ((lo g : Nat) : Int), .string (hs g)]] w fun xe w' => xe = .returned (.agg #[.int .u64 ((lo k : Nat) : Int), .string (hs k)]) ∧ Below w.heap.size w w') (HL : ∀ w, Calls Tryz.prog 149 #[.agg #[.int .u64 ((zl x : Nat) : Int), .string (zh x), .bool (zs x)], .agg #[.int .u64 ((lo k : Nat) : Int), .string (hs k)]] w fun xe w' => xe = .returned (.agg #[.int .u64 ((zl y : Nat) : Int), .string (zh y), .bool (zs y), .int .u64 ((lo f : Nat) : Int), .string (hs f)]) ∧ Below w.heap.size w w') (w : World) :
    Calls Tryz.prog 68 #[.agg #[.int .u64 ((zl m : Nat) : Int), .string (zh m), .bool (zs m), .int .u64 ((lo d : Nat) : Int), .string (hs d)], .agg #[.int .u64 ((zl n : Nat) : Int), .string (zh n), .bool (zs n), .int .u64 ((lo e : Nat) : Int), .string (hs e)]] w fun xe w' => xe = .returned (.agg #[.int .u64 ((zl y : Nat) : Int), .string (zh y), .bool (zs y), .int .u64 ((lo f : Nat) : Int), .string (hs f)]) ∧ Below w.heap.size w w' := by
  have hL0 : GL w w [] := GL.start w
  replace HD := Lib.hid HD
  replace HE := Lib.hid HE
  replace HX := Lib.hid HX
  replace HY := Lib.hid HY
  replace HM := Lib.hid HM
  replace HP := Lib.hid HP
  replace HL := Lib.hid HL
  replace hL0 := (((hL0.new rfl [.int .u64 ((zl m : Nat) : Int), .string (zh m), .bool (zs m), .int .u64 ((lo d : Nat) : Int), .string (hs d)] 79).new (K := w.heap.size + 1) (szA _ _) [.int .u64 ((zl n : Nat) : Int), .string (zh n), .bool (zs n), .int .u64 ((lo e : Nat) : Int), .string (hs e)] 79).new (K := w.heap.size + 1 + 1) (by simp only [World.size_alloc]) [.int .u64 0, .string ⟨#[]⟩, .bool false, .int .u64 0, .string ⟨#[]⟩] 79)
  generalize hweq : (((w.alloc (.cells #[.int .u64 ((zl m : Nat) : Int), .string (zh m), .bool (zs m), .int .u64 ((lo d : Nat) : Int), .string (hs d)] 79)).alloc (.cells #[.int .u64 ((zl n : Nat) : Int), .string (zh n), .bool (zs n), .int .u64 ((lo e : Nat) : Int), .string (hs e)] 79)).alloc (.cells #[.int .u64 0, .string ⟨#[]⟩, .bool false, .int .u64 0, .string ⟨#[]⟩] 79)) = x1 at hL0
  go_enter Tryz.func68, Tryz.ntmps68
  go_upto_region 1 with fail
  clear hweq
  refine region_gh (by kernel_rfl) (by kernel_rfl) ?_
  refine lex_seg (gl := []) 8 (by kernel_rfl) ?_
  intro α iα F hF1 hF2
  have hq := GL.seg hF1 hL0
  simp only [fcC, cellsC, and_true, Nat.zero_add, Nat.reduceAdd] at hq
  simp only [List.take_succ_cons, List.take_zero, List.drop_succ_cons, List.drop_zero, List.take_nil, List.drop_nil]
  repeat (go_big_quiet_step (first | fail | (go_at_call 85; with_reducible exact seg_call hF2 HE.out _) | (go_at_call 148; with_reducible exact seg_call hF2 HX.out _)))
  refine wpQuiet_nil ?_
  clear hq hF1 hF2 iα F α
  refine lex_new [.int .u64 0, .string ⟨#[]⟩, .bool false] 5 39 39 rfl rfl (of_decide_eq_true (by kernel_rfl)) (by kernel_rfl) rfl new_int ?_
  simp only [Act.put, List.setIfInBounds_toArray, List.set_cons_succ, List.set_cons_zero]
  refine lex_new [.int .u64 0, .string ⟨#[]⟩] 6 32 32 rfl rfl (of_decide_eq_true (by kernel_rfl)) (by kernel_rfl) rfl new_natc ?_
  simp only [Act.put, List.setIfInBounds_toArray, List.set_cons_succ, List.set_cons_zero]
  refine lex_put [.int .u64 ((zl u : Nat) : Int), .string (zh u), .bool (zs u)] [.int .u64 0, .string ⟨#[]⟩, .bool false] 5 39 (.tmp 15) rfl (by kernel_rfl) (by simp [toG, upd]) rfl (fun w k h => put_int _ _ _ _ _ _ w k h) ?_
  simp only [Act.put]
  refine lex_put [.int .u64 ((lo g : Nat) : Int), .string (hs g)] [.int .u64 0, .string ⟨#[]⟩] 6 32 (.tmp 16) rfl (by kernel_rfl) (by simp [toG, upd]) rfl (fun w k h => put_natc _ _ _ _ w k h) ?_
  simp only [Act.put]
  refine lexG_nil ?_
  intro κ x2 hS
  replace hL0 := hL0.ghs hS [(6, [.int .u64 ((lo g : Nat) : Int), .string (hs g)]), (5, [.int .u64 ((zl u : Nat) : Int), .string (zh u), .bool (zs u)])] (by simp) (by intro p hp; simp only [List.mem_cons, List.not_mem_nil, or_false] at hp; rcases hp with rfl | rfl <;> exact ⟨_, by simp only [toG, upd]; rfl⟩)
  simp only [List.map_cons, List.map_nil, List.cons_append, List.nil_append] at hL0
  simp only [over_toG, over_nil, Act.put, List.setIfInBounds_toArray, List.set_cons_succ, List.set_cons_zero]
  clear hS
  generalize κ 6 = k2_6 at *
  generalize κ 5 = k2_5 at *
  go_upto_region 2 with fail
  refine region_gh (by kernel_rfl) (by kernel_rfl) ?_
  refine lex_seg (gl := []) 8 (by kernel_rfl) ?_
  intro α iα F hF1 hF2
  have hq := GL.seg hF1 hL0
  simp only [fcC, cellsC, and_true, Nat.zero_add, Nat.reduceAdd] at hq
  simp only [List.take_succ_cons, List.take_zero, List.drop_succ_cons, List.drop_zero, List.take_nil, List.drop_nil]
  repeat (go_big_quiet_step (first | fail | (go_at_call 85; with_reducible exact seg_call hF2 HD.out _) | (go_at_call 148; with_reducible exact seg_call hF2 HY.out _)))
  refine wpQuiet_nil ?_
  clear hq hF1 hF2 iα F α
  refine lex_new [.int .u64 0, .string ⟨#[]⟩, .bool false] 7 39 39 rfl rfl (of_decide_eq_true (by kernel_rfl)) (by kernel_rfl) rfl new_int ?_
  simp only [Act.put, List.setIfInBounds_toArray, List.set_cons_succ, List.set_cons_zero]
  refine lex_new [.int .u64 0, .string ⟨#[]⟩] 8 32 32 rfl rfl (of_decide_eq_true (by kernel_rfl)) (by kernel_rfl) rfl new_natc ?_
  simp only [Act.put, List.setIfInBounds_toArray, List.set_cons_succ, List.set_cons_zero]
  refine lex_put [.int .u64 ((zl v : Nat) : Int), .string (zh v), .bool (zs v)] [.int .u64 0, .string ⟨#[]⟩, .bool false] 7 39 (.tmp 23) rfl (by kernel_rfl) (by simp [toG, upd]) rfl (fun w k h => put_int _ _ _ _ _ _ w k h) ?_
  simp only [Act.put]
  refine lex_put [.int .u64 ((lo h : Nat) : Int), .string (hs h)] [.int .u64 0, .string ⟨#[]⟩] 8 32 (.tmp 24) rfl (by kernel_rfl) (by simp [toG, upd]) rfl (fun w k h => put_natc _ _ _ _ w k h) ?_
  simp only [Act.put]
  refine lexG_nil ?_
  intro κ x3 hS
  replace hL0 := hL0.ghs hS [(8, [.int .u64 ((lo h : Nat) : Int), .string (hs h)]), (7, [.int .u64 ((zl v : Nat) : Int), .string (zh v), .bool (zs v)])] (by simp) (by intro p hp; simp only [List.mem_cons, List.not_mem_nil, or_false] at hp; rcases hp with rfl | rfl <;> exact ⟨_, by simp only [toG, upd]; rfl⟩)
  simp only [List.map_cons, List.map_nil, List.cons_append, List.nil_append] at hL0
  simp only [over_toG, over_nil, Act.put, List.setIfInBounds_toArray, List.set_cons_succ, List.set_cons_zero]
  clear hS
  generalize κ 8 = k3_8 at *
  generalize κ 7 = k3_7 at *
  go_upto_region 3 with fail
  obtain ⟨α, iα, F, hF1, hF2⟩ := cls x3
  have hq0 := cls_box hF1 hL0 _ _ List.mem_cons_self
  simp only [cellsC, and_true, Nat.zero_add, Nat.reduceAdd] at hq0
  have hq1 := cls_box hF1 hL0 _ _ (List.mem_cons_of_mem _ List.mem_cons_self)
  simp only [cellsC, and_true, Nat.zero_add, Nat.reduceAdd] at hq1
  have hq2 := cls_box hF1 hL0 _ _ (List.mem_cons_of_mem _ (List.mem_cons_of_mem _ List.mem_cons_self))
  simp only [cellsC, and_true, Nat.zero_add, Nat.reduceAdd] at hq2
  have hq3 := cls_box hF1 hL0 _ _ (List.mem_cons_of_mem _ (List.mem_cons_of_mem _ (List.mem_cons_of_mem _ List.mem_cons_self)))
  simp only [cellsC, and_true, Nat.zero_add, Nat.reduceAdd] at hq3
  refine region_qs 7 (C := fun w' => ∃ x, w' = F x) (by kernel_rfl) (by kernel_rfl) (cls_drew hF2) ?_
  simp only [List.take_succ_cons, List.take_zero, List.drop_succ_cons, List.drop_zero, List.take_nil, List.drop_nil]
  repeat (go_big_quiet_step (first | fail | (go_at_call 35; with_reducible exact cls_call hF1 hF2 HM.out _) | (go_at_call 92; with_reducible exact cls_call hF1 hF2 HP.out _) | (go_at_call 149; with_reducible exact cls_call hF1 hF2 HL.out _)))
  refine wpQuiet_nil ?_
  rintro wq ⟨xq, rfl⟩
  replace hL0 := hL0.call (hF1 xq)
  clear  hq0 hq1 hq2 hq3 hF2
  generalize F xq = x4 at hL0 ⊢
  clear hF1 xq iα F α
  have hA := hL0.fc
  simp only [fcG, cellsF, neK, and_true, ne_eq, Nat.zero_add, Nat.reduceAdd] at hA
  have hP := hL0.put 4 (w.heap.size + 1 + 1) _ rfl [.int .u64 ((zl y : Nat) : Int), .string (zh y), .bool (zs y), .int .u64 ((lo f : Nat) : Int), .string (hs f)] rfl
  simp only [setAll, List.set_cons_zero, List.set_cons_succ] at hP
  generalize hput1 : (((((x4.setCell ⟨w.heap.size + 1 + 1, 0, none⟩ (.int .u64 ((zl y : Nat) : Int))).setCell ⟨w.heap.size + 1 + 1, 1, none⟩ (.string (zh y))).setCell ⟨w.heap.size + 1 + 1, 2, none⟩ (.bool (zs y))).setCell ⟨w.heap.size + 1 + 1, 3, none⟩ (.int .u64 ((lo f : Nat) : Int))).setCell ⟨w.heap.size + 1 + 1, 4, none⟩ (.string (hs f))) = x5 at hP
  have hB1 := hP.fc
  simp only [fcG, cellsF, neK, and_true, ne_eq, Nat.zero_add, Nat.reduceAdd] at hB1
  replace hL0 := hP
  go_wp2_with fail
  exact bodyPost_ret (v := .agg #[.int .u64 ((zl y : Nat) : Int), .string (zh y), .bool (zs y), .int .u64 ((lo f : Nat) : Int), .string (hs f)]) (by simp [results, Tryz.results68, go_sem, hB1]) rfl ⟨rfl, hL0.bl⟩

set_option maxHeartbeats 4000000 in
set_option maxRecDepth 100000 in
theorem fdiv_zero (m : Int) (d : Nat) (HI : ∀ w, Calls Tryz.prog 94 #[.int .i64 0] w fun xe w' => xe = .returned (.agg #[.int .u64 ((zl 0 : Nat) : Int), .string (zh 0), .bool (zs 0), .int .u64 ((lo 0 : Nat) : Int), .string (hs 0)]) ∧ Below w.heap.size w w') (w : World) :
    Calls Tryz.prog 61 #[.agg #[.int .u64 ((zl m : Nat) : Int), .string (zh m), .bool (zs m), .int .u64 ((lo d : Nat) : Int), .string (hs d)], .agg #[.int .u64 ((zl 0 : Nat) : Int), .string (zh 0), .bool (zs 0), .int .u64 ((lo 0 : Nat) : Int), .string (hs 0)]] w fun xe w' => xe = .returned (.tuple #[.agg #[.int .u64 0, .string ⟨#[]⟩, .bool false, .int .u64 0, .string ⟨#[]⟩], .int .i64 5]) ∧ Below w.heap.size w w' := by
  have hL0 : GL w w [] := GL.start w
  replace HI := Lib.hid HI
  replace hL0 := (((hL0.new rfl [.int .u64 ((zl m : Nat) : Int), .string (zh m), .bool (zs m), .int .u64 ((lo d : Nat) : Int), .string (hs d)] 79).new (K := w.heap.size + 1) (szA _ _) [.int .u64 ((zl 0 : Nat) : Int), .string (zh 0), .bool (zs 0), .int .u64 ((lo 0 : Nat) : Int), .string (hs 0)] 79).new (K := w.heap.size + 1 + 1) (by simp only [World.size_alloc]) [.int .u64 0, .string ⟨#[]⟩, .bool false, .int .u64 0, .string ⟨#[]⟩] 79)
  generalize hweq : (((w.alloc (.cells #[.int .u64 ((zl m : Nat) : Int), .string (zh m), .bool (zs m), .int .u64 ((lo d : Nat) : Int), .string (hs d)] 79)).alloc (.cells #[.int .u64 ((zl 0 : Nat) : Int), .string (zh 0), .bool (zs 0), .int .u64 ((lo 0 : Nat) : Int), .string (hs 0)] 79)).alloc (.cells #[.int .u64 0, .string ⟨#[]⟩, .bool false, .int .u64 0, .string ⟨#[]⟩] 79)) = x1 at hL0
  go_enter Tryz.func61, Tryz.ntmps61
  go_upto_region 1 with fail
  clear hweq
  obtain ⟨α, iα, F, hF1, hF2⟩ := cls x1
  have hq0 := cls_box hF1 hL0 _ _ (List.mem_cons_of_mem _ List.mem_cons_self)
  simp only [cellsC, and_true, Nat.zero_add, Nat.reduceAdd] at hq0
  refine region_qs 3 (C := fun w' => ∃ x, w' = F x) (by kernel_rfl) (by kernel_rfl) (cls_drew hF2) ?_
  simp only [List.take_succ_cons, List.take_zero, List.drop_succ_cons, List.drop_zero, List.take_nil, List.drop_nil]
  repeat (go_big_quiet_step (first | fail | (go_at_call 94; with_reducible exact cls_call hF1 hF2 HI.out _)))
  refine wpQuiet_nil ?_
  rintro wq ⟨xq, rfl⟩
  replace hL0 := hL0.call (hF1 xq)
  clear  hq0 hF2
  generalize F xq = x2 at hL0 ⊢
  clear hF1 xq iα F α
  have hA := hL0.fc
  simp only [fcG, cellsF, neK, and_true, ne_eq, Nat.zero_add, Nat.reduceAdd] at hA
  have hP := hL0.put 0 (w.heap.size + 1 + 1) _ rfl [.int .u64 0, .string ⟨#[]⟩, .bool false, .int .u64 0, .string ⟨#[]⟩] rfl
  simp only [setAll, List.set_cons_zero, List.set_cons_succ] at hP
  generalize hput1 : (((((x2.setCell ⟨w.heap.size + 1 + 1, 0, none⟩ (.int .u64 0)).setCell ⟨w.heap.size + 1 + 1, 1, none⟩ (.string ⟨#[]⟩)).setCell ⟨w.heap.size + 1 + 1, 2, none⟩ (.bool false)).setCell ⟨w.heap.size + 1 + 1, 3, none⟩ (.int .u64 0)).setCell ⟨w.heap.size + 1 + 1, 4, none⟩ (.string ⟨#[]⟩)) = x3 at hP
  have hB1 := hP.fc
  simp only [fcG, cellsF, neK, and_true, ne_eq, Nat.zero_add, Nat.reduceAdd] at hB1
  replace hL0 := hP
  go_wp2_with fail
  exact bodyPost_ret (v := .tuple #[.agg #[.int .u64 0, .string ⟨#[]⟩, .bool false, .int .u64 0, .string ⟨#[]⟩], .int .i64 5]) (by simp [results, Tryz.results61, go_sem, hB1]) rfl ⟨rfl, hL0.bl⟩

set_option maxHeartbeats 4000000 in
set_option maxRecDepth 100000 in
theorem fdiv_w (m n x y : Int) (d e f g : Nat) (HI : ∀ w, Calls Tryz.prog 94 #[.int .i64 0] w fun xe w' => xe = .returned (.agg #[.int .u64 ((zl 0 : Nat) : Int), .string (zh 0), .bool (zs 0), .int .u64 ((lo 0 : Nat) : Int), .string (hs 0)]) ∧ Below w.heap.size w w') (HV : ∀ w, Calls Tryz.prog 143 #[.agg #[.int .u64 ((zl n : Nat) : Int), .string (zh n), .bool (zs n), .int .u64 ((lo e : Nat) : Int), .string (hs e)]] w fun xe w' => xe = .returned (.agg #[.int .u64 ((zl x : Nat) : Int), .string (zh x), .bool (zs x), .int .u64 ((lo f : Nat) : Int), .string (hs f)]) ∧ Below w.heap.size w w') (HM : ∀ w, Calls Tryz.prog 68 #[.agg #[.int .u64 ((zl m : Nat) : Int), .string (zh m), .bool (zs m), .int .u64 ((lo d : Nat) : Int), .string (hs d)], .agg #[.int .u64 ((zl x : Nat) : Int), .string (zh x), .bool (zs x), .int .u64 ((lo f : Nat) : Int), .string (hs f)]] w fun xe w' => xe = .returned (.agg #[.int .u64 ((zl y : Nat) : Int), .string (zh y), .bool (zs y), .int .u64 ((lo g : Nat) : Int), .string (hs g)]) ∧ Below w.heap.size w w') (hn : n ≠ 0) (w : World) :
    Calls Tryz.prog 61 #[.agg #[.int .u64 ((zl m : Nat) : Int), .string (zh m), .bool (zs m), .int .u64 ((lo d : Nat) : Int), .string (hs d)], .agg #[.int .u64 ((zl n : Nat) : Int), .string (zh n), .bool (zs n), .int .u64 ((lo e : Nat) : Int), .string (hs e)]] w fun xe w' => xe = .returned (.tuple #[.agg #[.int .u64 ((zl y : Nat) : Int), .string (zh y), .bool (zs y), .int .u64 ((lo g : Nat) : Int), .string (hs g)], .int .i64 0]) ∧ Below w.heap.size w w' := by
  have hL0 : GL w w [] := GL.start w
  replace HI := Lib.hid HI
  replace HV := Lib.hid HV
  replace HM := Lib.hid HM
  have hz := ne_int hn
  clear hn
  rcases hz with e0 | ⟨e0, e1⟩ | ⟨e0, e1, e2⟩
  all_goals (
    replace hL0 := (((hL0.new rfl [.int .u64 ((zl m : Nat) : Int), .string (zh m), .bool (zs m), .int .u64 ((lo d : Nat) : Int), .string (hs d)] 79).new (K := w.heap.size + 1) (szA _ _) [.int .u64 ((zl n : Nat) : Int), .string (zh n), .bool (zs n), .int .u64 ((lo e : Nat) : Int), .string (hs e)] 79).new (K := w.heap.size + 1 + 1) (by simp only [World.size_alloc]) [.int .u64 0, .string ⟨#[]⟩, .bool false, .int .u64 0, .string ⟨#[]⟩] 79)
    generalize hweq : (((w.alloc (.cells #[.int .u64 ((zl m : Nat) : Int), .string (zh m), .bool (zs m), .int .u64 ((lo d : Nat) : Int), .string (hs d)] 79)).alloc (.cells #[.int .u64 ((zl n : Nat) : Int), .string (zh n), .bool (zs n), .int .u64 ((lo e : Nat) : Int), .string (hs e)] 79)).alloc (.cells #[.int .u64 0, .string ⟨#[]⟩, .bool false, .int .u64 0, .string ⟨#[]⟩] 79)) = x1 at hL0
    go_enter Tryz.func61, Tryz.ntmps61
    go_upto_region 1 with fail
    clear hweq
    obtain ⟨α, iα, F, hF1, hF2⟩ := cls x1
    have hq0 := cls_box hF1 hL0 _ _ (List.mem_cons_of_mem _ List.mem_cons_self)
    simp only [cellsC, and_true, Nat.zero_add, Nat.reduceAdd] at hq0
    refine region_qs 3 (C := fun w' => ∃ x, w' = F x) (by kernel_rfl) (by kernel_rfl) (cls_drew hF2) ?_
    simp only [List.take_succ_cons, List.take_zero, List.drop_succ_cons, List.drop_zero, List.take_nil, List.drop_nil]
    repeat (go_big_quiet_step (first | fail | (go_at_call 94; with_reducible exact cls_call hF1 hF2 HI.out _)))
    refine wpQuiet_nil ?_
    rintro wq ⟨xq, rfl⟩
    replace hL0 := hL0.call (hF1 xq)
    clear  hq0 hF2
    generalize F xq = x2 at hL0 ⊢
    clear hF1 xq iα F α
    go_upto_region 3 with fail
    obtain ⟨α, iα, F, hF1, hF2⟩ := cls x2
    have hq0 := cls_box hF1 hL0 _ _ (List.mem_cons_of_mem _ List.mem_cons_self)
    simp only [cellsC, and_true, Nat.zero_add, Nat.reduceAdd] at hq0
    have hq1 := cls_box hF1 hL0 _ _ (List.mem_cons_of_mem _ (List.mem_cons_of_mem _ List.mem_cons_self))
    simp only [cellsC, and_true, Nat.zero_add, Nat.reduceAdd] at hq1
    refine region_qs 4 (C := fun w' => ∃ x, w' = F x) (by kernel_rfl) (by kernel_rfl) (cls_drew hF2) ?_
    simp only [List.take_succ_cons, List.take_zero, List.drop_succ_cons, List.drop_zero, List.take_nil, List.drop_nil]
    repeat (go_big_quiet_step (first | fail | (go_at_call 143; with_reducible exact cls_call hF1 hF2 HV.out _) | (go_at_call 68; with_reducible exact cls_call hF1 hF2 HM.out _)))
    refine wpQuiet_nil ?_
    rintro wq ⟨xq, rfl⟩
    replace hL0 := hL0.call (hF1 xq)
    clear  hq0 hq1 hF2
    generalize F xq = x3 at hL0 ⊢
    clear hF1 xq iα F α
    have hA := hL0.fc
    simp only [fcG, cellsF, neK, and_true, ne_eq, Nat.zero_add, Nat.reduceAdd] at hA
    have hP := hL0.put 0 (w.heap.size + 1 + 1) _ rfl [.int .u64 ((zl y : Nat) : Int), .string (zh y), .bool (zs y), .int .u64 ((lo g : Nat) : Int), .string (hs g)] rfl
    simp only [setAll, List.set_cons_zero, List.set_cons_succ] at hP
    generalize hput1 : (((((x3.setCell ⟨w.heap.size + 1 + 1, 0, none⟩ (.int .u64 ((zl y : Nat) : Int))).setCell ⟨w.heap.size + 1 + 1, 1, none⟩ (.string (zh y))).setCell ⟨w.heap.size + 1 + 1, 2, none⟩ (.bool (zs y))).setCell ⟨w.heap.size + 1 + 1, 3, none⟩ (.int .u64 ((lo g : Nat) : Int))).setCell ⟨w.heap.size + 1 + 1, 4, none⟩ (.string (hs g))) = x4 at hP
    have hB1 := hP.fc
    simp only [fcG, cellsF, neK, and_true, ne_eq, Nat.zero_add, Nat.reduceAdd] at hB1
    replace hL0 := hP
    go_wp2_with fail
    exact bodyPost_ret (v := .tuple #[.agg #[.int .u64 ((zl y : Nat) : Int), .string (zh y), .bool (zs y), .int .u64 ((lo g : Nat) : Int), .string (hs g)], .int .i64 0]) (by simp [results, Tryz.results61, go_sem, hB1]) rfl ⟨rfl, hL0.bl⟩)

set_option maxHeartbeats 4000000 in
set_option maxRecDepth 100000 in
theorem fcombine_add (m n x y s u z : Int) (d e p0 q0 g p q r t v f : Nat) (HD : ∀ w, Calls Tryz.prog 85 #[.agg #[.int .u64 ((zl m : Nat) : Int), .string (zh m), .bool (zs m), .int .u64 ((lo d : Nat) : Int), .string (hs d)]] w fun xe w' => xe = .returned (.agg #[.int .u64 ((lo p0 : Nat) : Int), .string (hs p0)]) ∧ Below w.heap.size w w') (HE : ∀ w, Calls Tryz.prog 85 #[.agg #[.int .u64 ((zl n : Nat) : Int), .string (zh n), .bool (zs n), .int .u64 ((lo e : Nat) : Int), .string (hs e)]] w fun xe w' => xe = .returned (.agg #[.int .u64 ((lo q0 : Nat) : Int), .string (hs q0)]) ∧ Below w.heap.size w w') (HG : ∀ w, Calls Tryz.prog 87 #[.agg #[.int .u64 ((lo p0 : Nat) : Int), .string (hs p0)], .agg #[.int .u64 ((lo q0 : Nat) : Int), .string (hs q0)]] w fun xe w' => xe = .returned (.agg #[.int .u64 ((lo g : Nat) : Int), .string (hs g)]) ∧ Below w.heap.size w w') (HP : ∀ w, Calls Tryz.prog 192 #[.agg #[.int .u64 ((lo p0 : Nat) : Int), .string (hs p0)], .agg #[.int .u64 ((lo g : Nat) : Int), .string (hs g)]] w fun xe w' => xe = .returned (.agg #[.int .u64 ((lo p : Nat) : Int), .string (hs p)]) ∧ Below w.heap.size w w') (HQ : ∀ w, Calls Tryz.prog 192 #[.agg #[.int .u64 ((lo q0 : Nat) : Int), .string (hs q0)], .agg #[.int .u64 ((lo g : Nat) : Int), .string (hs g)]] w fun xe w' => xe = .returned (.agg #[.int .u64 ((lo q : Nat) : Int), .string (hs q)]) ∧ Below w.heap.size w w') (HS : ∀ w, Calls Tryz.prog 150 #[.agg #[.int .u64 ((zl m : Nat) : Int), .string (zh m), .bool (zs m)], .agg #[.int .u64 ((lo q : Nat) : Int), .string (hs q)]] w fun xe w' => xe = .returned (.agg #[.int .u64 ((zl x : Nat) : Int), .string (zh x), .bool (zs x)]) ∧ Below w.heap.size w w') (HT : ∀ w, Calls Tryz.prog 150 #[.agg #[.int .u64 ((zl n : Nat) : Int), .string (zh n), .bool (zs n)], .agg #[.int .u64 ((lo p : Nat) : Int), .string (hs p)]] w fun xe w' => xe = .returned (.agg #[.int .u64 ((zl y : Nat) : Int), .string (zh y), .bool (zs y)]) ∧ Below w.heap.size w w') (HB : ∀ w, Calls Tryz.prog 31 #[.agg #[.int .u64 ((zl x : Nat) : Int), .string (zh x), .bool (zs x)], .agg #[.int .u64 ((zl y : Nat) : Int), .string (zh y), .bool (zs y)]] w fun xe w' => xe = .returned (.agg #[.int .u64 ((zl s : Nat) : Int), .string (zh s), .bool (zs s)]) ∧ Below w.heap.size w w') (HC : ∀ w, Calls Tryz.prog 148 #[.agg #[.int .u64 ((zl s : Nat) : Int), .string (zh s), .bool (zs s)], .agg #[.int .u64 ((lo g : Nat) : Int), .string (hs g)]] w fun xe w' => xe = .returned (.tuple #[.agg #[.int .u64 ((zl u : Nat) : Int), .string (zh u), .bool (zs u)], .agg #[.int .u64 ((lo r : Nat) : Int), .string (hs r)]]) ∧ Below w.heap.size w w') (HU : ∀ w, Calls Tryz.prog 92 #[.agg #[.int .u64 ((lo p : Nat) : Int), .string (hs p)], .agg #[.int .u64 ((lo q : Nat) : Int), .string (hs q)]] w fun xe w' => xe = .returned (.agg #[.int .u64 ((lo t : Nat) : Int), .string (hs t)]) ∧ Below w.heap.size w w') (HV : ∀ w, Calls Tryz.prog 92 #[.agg #[.int .u64 ((lo t : Nat) : Int), .string (hs t)], .agg #[.int .u64 ((lo r : Nat) : Int), .string (hs r)]] w fun xe w' => xe = .returned (.agg #[.int .u64 ((lo v : Nat) : Int), .string (hs v)]) ∧ Below w.heap.size w w') (HL : ∀ w, Calls Tryz.prog 149 #[.agg #[.int .u64 ((zl u : Nat) : Int), .string (zh u), .bool (zs u)], .agg #[.int .u64 ((lo v : Nat) : Int), .string (hs v)]] w fun xe w' => xe = .returned (.agg #[.int .u64 ((zl z : Nat) : Int), .string (zh z), .bool (zs z), .int .u64 ((lo f : Nat) : Int), .string (hs f)]) ∧ Below w.heap.size w w') (w : World) :
    Calls Tryz.prog 146 #[.agg #[.int .u64 ((zl m : Nat) : Int), .string (zh m), .bool (zs m), .int .u64 ((lo d : Nat) : Int), .string (hs d)], .agg #[.int .u64 ((zl n : Nat) : Int), .string (zh n), .bool (zs n), .int .u64 ((lo e : Nat) : Int), .string (hs e)], .func (.func 31) #[] #[]] w fun xe w' => xe = .returned (.agg #[.int .u64 ((zl z : Nat) : Int), .string (zh z), .bool (zs z), .int .u64 ((lo f : Nat) : Int), .string (hs f)]) ∧ Below w.heap.size w w' := by
  have hL0 : GL w w [] := GL.start w
  replace HD := Lib.hid HD
  replace HE := Lib.hid HE
  replace HG := Lib.hid HG
  replace HP := Lib.hid HP
  replace HQ := Lib.hid HQ
  replace HS := Lib.hid HS
  replace HT := Lib.hid HT
  replace HB := Lib.hid HB
  replace HC := Lib.hid HC
  replace HU := Lib.hid HU
  replace HV := Lib.hid HV
  replace HL := Lib.hid HL
  replace hL0 := (((hL0.new rfl [.int .u64 ((zl m : Nat) : Int), .string (zh m), .bool (zs m), .int .u64 ((lo d : Nat) : Int), .string (hs d)] 79).new (K := w.heap.size + 1) (szA _ _) [.int .u64 ((zl n : Nat) : Int), .string (zh n), .bool (zs n), .int .u64 ((lo e : Nat) : Int), .string (hs e)] 79).new (K := w.heap.size + 1 + 1) (by simp only [World.size_alloc]) [.int .u64 0, .string ⟨#[]⟩, .bool false, .int .u64 0, .string ⟨#[]⟩] 79)
  generalize hweq : (((w.alloc (.cells #[.int .u64 ((zl m : Nat) : Int), .string (zh m), .bool (zs m), .int .u64 ((lo d : Nat) : Int), .string (hs d)] 79)).alloc (.cells #[.int .u64 ((zl n : Nat) : Int), .string (zh n), .bool (zs n), .int .u64 ((lo e : Nat) : Int), .string (hs e)] 79)).alloc (.cells #[.int .u64 0, .string ⟨#[]⟩, .bool false, .int .u64 0, .string ⟨#[]⟩] 79)) = x1 at hL0
  go_enter Tryz.func146, Tryz.ntmps146
  go_upto_region 1 with fail
  clear hweq
  refine region_gh (by kernel_rfl) (by kernel_rfl) ?_
  refine lex_seg (gl := []) 5 (by kernel_rfl) ?_
  intro α iα F hF1 hF2
  have hq := GL.seg hF1 hL0
  simp only [fcC, cellsC, and_true, Nat.zero_add, Nat.reduceAdd] at hq
  simp only [List.take_succ_cons, List.take_zero, List.drop_succ_cons, List.drop_zero, List.take_nil, List.drop_nil]
  repeat (go_big_quiet_step (first | fail | (go_at_call 85; with_reducible exact seg_call hF2 HD.out _) | (go_at_call 85; with_reducible exact seg_call hF2 HE.out _) | (go_at_call 87; with_reducible exact seg_call hF2 HG.out _)))
  refine wpQuiet_nil ?_
  clear hq hF1 hF2 iα F α
  refine lex_new [.int .u64 0, .string ⟨#[]⟩] 7 32 32 rfl rfl (of_decide_eq_true (by kernel_rfl)) (by kernel_rfl) rfl new_natc ?_
  simp only [Act.put, List.setIfInBounds_toArray, List.set_cons_succ, List.set_cons_zero]
  refine lex_put [.int .u64 ((lo g : Nat) : Int), .string (hs g)] [.int .u64 0, .string ⟨#[]⟩] 7 32 (.tmp 16) rfl (by kernel_rfl) (by simp [toG, upd]) rfl (fun w k h => put_natc _ _ _ _ w k h) ?_
  simp only [Act.put]
  refine lexG_nil ?_
  intro κ x2 hS
  replace hL0 := hL0.ghs hS [(7, [.int .u64 ((lo g : Nat) : Int), .string (hs g)])] (by simp) (by intro p hp; simp only [List.mem_cons, List.not_mem_nil, or_false] at hp; rcases hp with rfl <;> exact ⟨_, by simp only [toG, upd]; rfl⟩)
  simp only [List.map_cons, List.map_nil, List.cons_append, List.nil_append] at hL0
  simp only [over_toG, over_nil, Act.put, List.setIfInBounds_toArray, List.set_cons_succ, List.set_cons_zero]
  clear hS
  generalize κ 7 = k2_7 at *
  go_upto_region 2 with fail
  refine region_gh (by kernel_rfl) (by kernel_rfl) ?_
  refine lex_seg (gl := []) 8 (by kernel_rfl) ?_
  intro α iα F hF1 hF2
  have hq := GL.seg hF1 hL0
  simp only [fcC, cellsC, and_true, Nat.zero_add, Nat.reduceAdd] at hq
  simp only [List.take_succ_cons, List.take_zero, List.drop_succ_cons, List.drop_zero, List.take_nil, List.drop_nil]
  repeat (go_big_quiet_step (first | fail | (go_at_call 85; with_reducible exact seg_call hF2 HD.out _) | (go_at_call 192; with_reducible exact seg_call hF2 HP.out _) | (go_at_call 85; with_reducible exact seg_call hF2 HE.out _) | (go_at_call 192; with_reducible exact seg_call hF2 HQ.out _)))
  refine wpQuiet_nil ?_
  clear hq hF1 hF2 iα F α
  refine lex_new [.int .u64 0, .string ⟨#[]⟩] 8 32 32 rfl rfl (of_decide_eq_true (by kernel_rfl)) (by kernel_rfl) rfl new_natc ?_
  simp only [Act.put, List.setIfInBounds_toArray, List.set_cons_succ, List.set_cons_zero]
  refine lex_new [.int .u64 0, .string ⟨#[]⟩] 9 32 32 rfl rfl (of_decide_eq_true (by kernel_rfl)) (by kernel_rfl) rfl new_natc ?_
  simp only [Act.put, List.setIfInBounds_toArray, List.set_cons_succ, List.set_cons_zero]
  refine lex_put [.int .u64 ((lo p : Nat) : Int), .string (hs p)] [.int .u64 0, .string ⟨#[]⟩] 8 32 (.tmp 20) rfl (by kernel_rfl) (by simp [toG, upd]) rfl (fun w k h => put_natc _ _ _ _ w k h) ?_
  simp only [Act.put]
  refine lex_put [.int .u64 ((lo q : Nat) : Int), .string (hs q)] [.int .u64 0, .string ⟨#[]⟩] 9 32 (.tmp 24) rfl (by kernel_rfl) (by simp [toG, upd]) rfl (fun w k h => put_natc _ _ _ _ w k h) ?_
  simp only [Act.put]
  refine lexG_nil ?_
  intro κ x3 hS
  replace hL0 := hL0.ghs hS [(9, [.int .u64 ((lo q : Nat) : Int), .string (hs q)]), (8, [.int .u64 ((lo p : Nat) : Int), .string (hs p)])] (by simp) (by intro p hp; simp only [List.mem_cons, List.not_mem_nil, or_false] at hp; rcases hp with rfl | rfl <;> exact ⟨_, by simp only [toG, upd]; rfl⟩)
  simp only [List.map_cons, List.map_nil, List.cons_append, List.nil_append] at hL0
  simp only [over_toG, over_nil, Act.put, List.setIfInBounds_toArray, List.set_cons_succ, List.set_cons_zero]
  clear hS
  generalize κ 9 = k3_9 at *
  generalize κ 8 = k3_8 at *
  go_upto_region 3 with fail
  refine region_gh (by kernel_rfl) (by kernel_rfl) ?_
  refine lex_seg (gl := []) 15 (by kernel_rfl) ?_
  intro α iα F hF1 hF2
  have hq := GL.seg hF1 hL0
  simp only [fcC, cellsC, and_true, Nat.zero_add, Nat.reduceAdd] at hq
  simp only [List.take_succ_cons, List.take_zero, List.drop_succ_cons, List.drop_zero, List.take_nil, List.drop_nil]
  repeat (go_big_quiet_step (first | fail | (go_at_call 150; with_reducible exact seg_call hF2 HS.out _) | (go_at_call 150; with_reducible exact seg_call hF2 HT.out _) | (go_at_call 31; with_reducible exact seg_call hF2 HB.out _) | (go_at_call 148; with_reducible exact seg_call hF2 HC.out _)))
  refine wpQuiet_nil ?_
  clear hq hF1 hF2 iα F α
  refine lex_new [.int .u64 0, .string ⟨#[]⟩, .bool false] 10 39 39 rfl rfl (of_decide_eq_true (by kernel_rfl)) (by kernel_rfl) rfl new_int ?_
  simp only [Act.put, List.setIfInBounds_toArray, List.set_cons_succ, List.set_cons_zero]
  refine lex_new [.int .u64 0, .string ⟨#[]⟩] 11 32 32 rfl rfl (of_decide_eq_true (by kernel_rfl)) (by kernel_rfl) rfl new_natc ?_
  simp only [Act.put, List.setIfInBounds_toArray, List.set_cons_succ, List.set_cons_zero]
  refine lex_put [.int .u64 ((zl u : Nat) : Int), .string (zh u), .bool (zs u)] [.int .u64 0, .string ⟨#[]⟩, .bool false] 10 39 (.tmp 38) rfl (by kernel_rfl) (by simp [toG, upd]) rfl (fun w k h => put_int _ _ _ _ _ _ w k h) ?_
  simp only [Act.put]
  refine lex_put [.int .u64 ((lo r : Nat) : Int), .string (hs r)] [.int .u64 0, .string ⟨#[]⟩] 11 32 (.tmp 39) rfl (by kernel_rfl) (by simp [toG, upd]) rfl (fun w k h => put_natc _ _ _ _ w k h) ?_
  simp only [Act.put]
  refine lexG_nil ?_
  intro κ x4 hS
  replace hL0 := hL0.ghs hS [(11, [.int .u64 ((lo r : Nat) : Int), .string (hs r)]), (10, [.int .u64 ((zl u : Nat) : Int), .string (zh u), .bool (zs u)])] (by simp) (by intro p hp; simp only [List.mem_cons, List.not_mem_nil, or_false] at hp; rcases hp with rfl | rfl <;> exact ⟨_, by simp only [toG, upd]; rfl⟩)
  simp only [List.map_cons, List.map_nil, List.cons_append, List.nil_append] at hL0
  simp only [over_toG, over_nil, Act.put, List.setIfInBounds_toArray, List.set_cons_succ, List.set_cons_zero]
  clear hS
  generalize κ 11 = k4_11 at *
  generalize κ 10 = k4_10 at *
  go_upto_region 4 with fail
  obtain ⟨α, iα, F, hF1, hF2⟩ := cls x4
  have hq0 := cls_box hF1 hL0 _ _ List.mem_cons_self
  simp only [cellsC, and_true, Nat.zero_add, Nat.reduceAdd] at hq0
  have hq1 := cls_box hF1 hL0 _ _ (List.mem_cons_of_mem _ List.mem_cons_self)
  simp only [cellsC, and_true, Nat.zero_add, Nat.reduceAdd] at hq1
  have hq2 := cls_box hF1 hL0 _ _ (List.mem_cons_of_mem _ (List.mem_cons_of_mem _ List.mem_cons_self))
  simp only [cellsC, and_true, Nat.zero_add, Nat.reduceAdd] at hq2
  have hq3 := cls_box hF1 hL0 _ _ (List.mem_cons_of_mem _ (List.mem_cons_of_mem _ (List.mem_cons_of_mem _ List.mem_cons_self)))
  simp only [cellsC, and_true, Nat.zero_add, Nat.reduceAdd] at hq3
  refine region_qs 7 (C := fun w' => ∃ x, w' = F x) (by kernel_rfl) (by kernel_rfl) (cls_drew hF2) ?_
  simp only [List.take_succ_cons, List.take_zero, List.drop_succ_cons, List.drop_zero, List.take_nil, List.drop_nil]
  repeat (go_big_quiet_step (first | fail | (go_at_call 92; with_reducible exact cls_call hF1 hF2 HU.out _) | (go_at_call 92; with_reducible exact cls_call hF1 hF2 HV.out _) | (go_at_call 149; with_reducible exact cls_call hF1 hF2 HL.out _)))
  refine wpQuiet_nil ?_
  rintro wq ⟨xq, rfl⟩
  replace hL0 := hL0.call (hF1 xq)
  clear  hq0 hq1 hq2 hq3 hF2
  generalize F xq = x5 at hL0 ⊢
  clear hF1 xq iα F α
  have hA := hL0.fc
  simp only [fcG, cellsF, neK, and_true, ne_eq, Nat.zero_add, Nat.reduceAdd] at hA
  have hP := hL0.put 5 (w.heap.size + 1 + 1) _ rfl [.int .u64 ((zl z : Nat) : Int), .string (zh z), .bool (zs z), .int .u64 ((lo f : Nat) : Int), .string (hs f)] rfl
  simp only [setAll, List.set_cons_zero, List.set_cons_succ] at hP
  generalize hput1 : (((((x5.setCell ⟨w.heap.size + 1 + 1, 0, none⟩ (.int .u64 ((zl z : Nat) : Int))).setCell ⟨w.heap.size + 1 + 1, 1, none⟩ (.string (zh z))).setCell ⟨w.heap.size + 1 + 1, 2, none⟩ (.bool (zs z))).setCell ⟨w.heap.size + 1 + 1, 3, none⟩ (.int .u64 ((lo f : Nat) : Int))).setCell ⟨w.heap.size + 1 + 1, 4, none⟩ (.string (hs f))) = x6 at hP
  have hB1 := hP.fc
  simp only [fcG, cellsF, neK, and_true, ne_eq, Nat.zero_add, Nat.reduceAdd] at hB1
  replace hL0 := hP
  go_wp2_with fail
  exact bodyPost_ret (v := .agg #[.int .u64 ((zl z : Nat) : Int), .string (zh z), .bool (zs z), .int .u64 ((lo f : Nat) : Int), .string (hs f)]) (by simp [results, Tryz.results146, go_sem, hB1]) rfl ⟨rfl, hL0.bl⟩

set_option maxHeartbeats 4000000 in
set_option maxRecDepth 100000 in
theorem fadd_w (m n z : Int) (d e f : Nat) (HC : ∀ w, Calls Tryz.prog 146 #[.agg #[.int .u64 ((zl m : Nat) : Int), .string (zh m), .bool (zs m), .int .u64 ((lo d : Nat) : Int), .string (hs d)], .agg #[.int .u64 ((zl n : Nat) : Int), .string (zh n), .bool (zs n), .int .u64 ((lo e : Nat) : Int), .string (hs e)], .func (.func 31) #[] #[]] w fun xe w' => xe = .returned (.agg #[.int .u64 ((zl z : Nat) : Int), .string (zh z), .bool (zs z), .int .u64 ((lo f : Nat) : Int), .string (hs f)]) ∧ Below w.heap.size w w') (w : World) :
    Calls Tryz.prog 64 #[.agg #[.int .u64 ((zl m : Nat) : Int), .string (zh m), .bool (zs m), .int .u64 ((lo d : Nat) : Int), .string (hs d)], .agg #[.int .u64 ((zl n : Nat) : Int), .string (zh n), .bool (zs n), .int .u64 ((lo e : Nat) : Int), .string (hs e)]] w fun xe w' => xe = .returned (.agg #[.int .u64 ((zl z : Nat) : Int), .string (zh z), .bool (zs z), .int .u64 ((lo f : Nat) : Int), .string (hs f)]) ∧ Below w.heap.size w w' := by
  have hL0 : GL w w [] := GL.start w
  replace HC := Lib.hid HC
  replace hL0 := (((hL0.new rfl [.int .u64 ((zl m : Nat) : Int), .string (zh m), .bool (zs m), .int .u64 ((lo d : Nat) : Int), .string (hs d)] 79).new (K := w.heap.size + 1) (szA _ _) [.int .u64 ((zl n : Nat) : Int), .string (zh n), .bool (zs n), .int .u64 ((lo e : Nat) : Int), .string (hs e)] 79).new (K := w.heap.size + 1 + 1) (by simp only [World.size_alloc]) [.int .u64 0, .string ⟨#[]⟩, .bool false, .int .u64 0, .string ⟨#[]⟩] 79)
  generalize hweq : (((w.alloc (.cells #[.int .u64 ((zl m : Nat) : Int), .string (zh m), .bool (zs m), .int .u64 ((lo d : Nat) : Int), .string (hs d)] 79)).alloc (.cells #[.int .u64 ((zl n : Nat) : Int), .string (zh n), .bool (zs n), .int .u64 ((lo e : Nat) : Int), .string (hs e)] 79)).alloc (.cells #[.int .u64 0, .string ⟨#[]⟩, .bool false, .int .u64 0, .string ⟨#[]⟩] 79)) = x1 at hL0
  go_enter Tryz.func64, Tryz.ntmps64
  have hN0 := cells_of _ 0 [] rfl (hL0.get _ _ (List.mem_cons_of_mem _ List.mem_cons_self))
  simp only [cellsF, and_true, Nat.zero_add, Nat.reduceAdd] at hN0
  have hN1 := cells_of _ 0 [] rfl (hL0.get _ _ (List.mem_cons_of_mem _ (List.mem_cons_of_mem _ List.mem_cons_self)))
  simp only [cellsF, and_true, Nat.zero_add, Nat.reduceAdd] at hN1
  go_wp2_with fail
  clear hN0 hN1
  with_reducible refine Calls.mono (HC.out _) ?_
  rintro e x2 ⟨rfl, hb⟩
  replace hL0 := hL0.call hb
  clear hb hweq
  have hA := hL0.fc
  simp only [fcG, cellsF, neK, and_true, ne_eq, Nat.zero_add, Nat.reduceAdd] at hA
  have hP := hL0.put 0 (w.heap.size + 1 + 1) _ rfl [.int .u64 ((zl z : Nat) : Int), .string (zh z), .bool (zs z), .int .u64 ((lo f : Nat) : Int), .string (hs f)] rfl
  simp only [setAll, List.set_cons_zero, List.set_cons_succ] at hP
  generalize hput1 : (((((x2.setCell ⟨w.heap.size + 1 + 1, 0, none⟩ (.int .u64 ((zl z : Nat) : Int))).setCell ⟨w.heap.size + 1 + 1, 1, none⟩ (.string (zh z))).setCell ⟨w.heap.size + 1 + 1, 2, none⟩ (.bool (zs z))).setCell ⟨w.heap.size + 1 + 1, 3, none⟩ (.int .u64 ((lo f : Nat) : Int))).setCell ⟨w.heap.size + 1 + 1, 4, none⟩ (.string (hs f))) = x3 at hP
  have hB1 := hP.fc
  simp only [fcG, cellsF, neK, and_true, ne_eq, Nat.zero_add, Nat.reduceAdd] at hB1
  replace hL0 := hP
  go_wp2_with fail
  exact bodyPost_ret (v := .agg #[.int .u64 ((zl z : Nat) : Int), .string (zh z), .bool (zs z), .int .u64 ((lo f : Nat) : Int), .string (hs f)]) (by simp [results, Tryz.results64, go_sem, hB1]) rfl ⟨rfl, hL0.bl⟩

set_option maxHeartbeats 4000000 in
set_option maxRecDepth 100000 in
theorem fcombine_sub (m n x y s u z : Int) (d e p0 q0 g p q r t v f : Nat) (HD : ∀ w, Calls Tryz.prog 85 #[.agg #[.int .u64 ((zl m : Nat) : Int), .string (zh m), .bool (zs m), .int .u64 ((lo d : Nat) : Int), .string (hs d)]] w fun xe w' => xe = .returned (.agg #[.int .u64 ((lo p0 : Nat) : Int), .string (hs p0)]) ∧ Below w.heap.size w w') (HE : ∀ w, Calls Tryz.prog 85 #[.agg #[.int .u64 ((zl n : Nat) : Int), .string (zh n), .bool (zs n), .int .u64 ((lo e : Nat) : Int), .string (hs e)]] w fun xe w' => xe = .returned (.agg #[.int .u64 ((lo q0 : Nat) : Int), .string (hs q0)]) ∧ Below w.heap.size w w') (HG : ∀ w, Calls Tryz.prog 87 #[.agg #[.int .u64 ((lo p0 : Nat) : Int), .string (hs p0)], .agg #[.int .u64 ((lo q0 : Nat) : Int), .string (hs q0)]] w fun xe w' => xe = .returned (.agg #[.int .u64 ((lo g : Nat) : Int), .string (hs g)]) ∧ Below w.heap.size w w') (HP : ∀ w, Calls Tryz.prog 192 #[.agg #[.int .u64 ((lo p0 : Nat) : Int), .string (hs p0)], .agg #[.int .u64 ((lo g : Nat) : Int), .string (hs g)]] w fun xe w' => xe = .returned (.agg #[.int .u64 ((lo p : Nat) : Int), .string (hs p)]) ∧ Below w.heap.size w w') (HQ : ∀ w, Calls Tryz.prog 192 #[.agg #[.int .u64 ((lo q0 : Nat) : Int), .string (hs q0)], .agg #[.int .u64 ((lo g : Nat) : Int), .string (hs g)]] w fun xe w' => xe = .returned (.agg #[.int .u64 ((lo q : Nat) : Int), .string (hs q)]) ∧ Below w.heap.size w w') (HS : ∀ w, Calls Tryz.prog 150 #[.agg #[.int .u64 ((zl m : Nat) : Int), .string (zh m), .bool (zs m)], .agg #[.int .u64 ((lo q : Nat) : Int), .string (hs q)]] w fun xe w' => xe = .returned (.agg #[.int .u64 ((zl x : Nat) : Int), .string (zh x), .bool (zs x)]) ∧ Below w.heap.size w w') (HT : ∀ w, Calls Tryz.prog 150 #[.agg #[.int .u64 ((zl n : Nat) : Int), .string (zh n), .bool (zs n)], .agg #[.int .u64 ((lo p : Nat) : Int), .string (hs p)]] w fun xe w' => xe = .returned (.agg #[.int .u64 ((zl y : Nat) : Int), .string (zh y), .bool (zs y)]) ∧ Below w.heap.size w w') (HB : ∀ w, Calls Tryz.prog 33 #[.agg #[.int .u64 ((zl x : Nat) : Int), .string (zh x), .bool (zs x)], .agg #[.int .u64 ((zl y : Nat) : Int), .string (zh y), .bool (zs y)]] w fun xe w' => xe = .returned (.agg #[.int .u64 ((zl s : Nat) : Int), .string (zh s), .bool (zs s)]) ∧ Below w.heap.size w w') (HC : ∀ w, Calls Tryz.prog 148 #[.agg #[.int .u64 ((zl s : Nat) : Int), .string (zh s), .bool (zs s)], .agg #[.int .u64 ((lo g : Nat) : Int), .string (hs g)]] w fun xe w' => xe = .returned (.tuple #[.agg #[.int .u64 ((zl u : Nat) : Int), .string (zh u), .bool (zs u)], .agg #[.int .u64 ((lo r : Nat) : Int), .string (hs r)]]) ∧ Below w.heap.size w w') (HU : ∀ w, Calls Tryz.prog 92 #[.agg #[.int .u64 ((lo p : Nat) : Int), .string (hs p)], .agg #[.int .u64 ((lo q : Nat) : Int), .string (hs q)]] w fun xe w' => xe = .returned (.agg #[.int .u64 ((lo t : Nat) : Int), .string (hs t)]) ∧ Below w.heap.size w w') (HV : ∀ w, Calls Tryz.prog 92 #[.agg #[.int .u64 ((lo t : Nat) : Int), .string (hs t)], .agg #[.int .u64 ((lo r : Nat) : Int), .string (hs r)]] w fun xe w' => xe = .returned (.agg #[.int .u64 ((lo v : Nat) : Int), .string (hs v)]) ∧ Below w.heap.size w w') (HL : ∀ w, Calls Tryz.prog 149 #[.agg #[.int .u64 ((zl u : Nat) : Int), .string (zh u), .bool (zs u)], .agg #[.int .u64 ((lo v : Nat) : Int), .string (hs v)]] w fun xe w' => xe = .returned (.agg #[.int .u64 ((zl z : Nat) : Int), .string (zh z), .bool (zs z), .int .u64 ((lo f : Nat) : Int), .string (hs f)]) ∧ Below w.heap.size w w') (w : World) :
    Calls Tryz.prog 146 #[.agg #[.int .u64 ((zl m : Nat) : Int), .string (zh m), .bool (zs m), .int .u64 ((lo d : Nat) : Int), .string (hs d)], .agg #[.int .u64 ((zl n : Nat) : Int), .string (zh n), .bool (zs n), .int .u64 ((lo e : Nat) : Int), .string (hs e)], .func (.func 33) #[] #[]] w fun xe w' => xe = .returned (.agg #[.int .u64 ((zl z : Nat) : Int), .string (zh z), .bool (zs z), .int .u64 ((lo f : Nat) : Int), .string (hs f)]) ∧ Below w.heap.size w w' := by
  have hL0 : GL w w [] := GL.start w
  replace HD := Lib.hid HD
  replace HE := Lib.hid HE
  replace HG := Lib.hid HG
  replace HP := Lib.hid HP
  replace HQ := Lib.hid HQ
  replace HS := Lib.hid HS
  replace HT := Lib.hid HT
  replace HB := Lib.hid HB
  replace HC := Lib.hid HC
  replace HU := Lib.hid HU
  replace HV := Lib.hid HV
  replace HL := Lib.hid HL
  replace hL0 := (((hL0.new rfl [.int .u64 ((zl m : Nat) : Int), .string (zh m), .bool (zs m), .int .u64 ((lo d : Nat) : Int), .string (hs d)] 79).new (K := w.heap.size + 1) (szA _ _) [.int .u64 ((zl n : Nat) : Int), .string (zh n), .bool (zs n), .int .u64 ((lo e : Nat) : Int), .string (hs e)] 79).new (K := w.heap.size + 1 + 1) (by simp only [World.size_alloc]) [.int .u64 0, .string ⟨#[]⟩, .bool false, .int .u64 0, .string ⟨#[]⟩] 79)
  generalize hweq : (((w.alloc (.cells #[.int .u64 ((zl m : Nat) : Int), .string (zh m), .bool (zs m), .int .u64 ((lo d : Nat) : Int), .string (hs d)] 79)).alloc (.cells #[.int .u64 ((zl n : Nat) : Int), .string (zh n), .bool (zs n), .int .u64 ((lo e : Nat) : Int), .string (hs e)] 79)).alloc (.cells #[.int .u64 0, .string ⟨#[]⟩, .bool false, .int .u64 0, .string ⟨#[]⟩] 79)) = x1 at hL0
  go_enter Tryz.func146, Tryz.ntmps146
  go_upto_region 1 with fail
  clear hweq
  refine region_gh (by kernel_rfl) (by kernel_rfl) ?_
  refine lex_seg (gl := []) 5 (by kernel_rfl) ?_
  intro α iα F hF1 hF2
  have hq := GL.seg hF1 hL0
  simp only [fcC, cellsC, and_true, Nat.zero_add, Nat.reduceAdd] at hq
  simp only [List.take_succ_cons, List.take_zero, List.drop_succ_cons, List.drop_zero, List.take_nil, List.drop_nil]
  repeat (go_big_quiet_step (first | fail | (go_at_call 85; with_reducible exact seg_call hF2 HD.out _) | (go_at_call 85; with_reducible exact seg_call hF2 HE.out _) | (go_at_call 87; with_reducible exact seg_call hF2 HG.out _)))
  refine wpQuiet_nil ?_
  clear hq hF1 hF2 iα F α
  refine lex_new [.int .u64 0, .string ⟨#[]⟩] 7 32 32 rfl rfl (of_decide_eq_true (by kernel_rfl)) (by kernel_rfl) rfl new_natc ?_
  simp only [Act.put, List.setIfInBounds_toArray, List.set_cons_succ, List.set_cons_zero]
  refine lex_put [.int .u64 ((lo g : Nat) : Int), .string (hs g)] [.int .u64 0, .string ⟨#[]⟩] 7 32 (.tmp 16) rfl (by kernel_rfl) (by simp [toG, upd]) rfl (fun w k h => put_natc _ _ _ _ w k h) ?_
  simp only [Act.put]
  refine lexG_nil ?_
  intro κ x2 hS
  replace hL0 := hL0.ghs hS [(7, [.int .u64 ((lo g : Nat) : Int), .string (hs g)])] (by simp) (by intro p hp; simp only [List.mem_cons, List.not_mem_nil, or_false] at hp; rcases hp with rfl <;> exact ⟨_, by simp only [toG, upd]; rfl⟩)
  simp only [List.map_cons, List.map_nil, List.cons_append, List.nil_append] at hL0
  simp only [over_toG, over_nil, Act.put, List.setIfInBounds_toArray, List.set_cons_succ, List.set_cons_zero]
  clear hS
  generalize κ 7 = k2_7 at *
  go_upto_region 2 with fail
  refine region_gh (by kernel_rfl) (by kernel_rfl) ?_
  refine lex_seg (gl := []) 8 (by kernel_rfl) ?_
  intro α iα F hF1 hF2
  have hq := GL.seg hF1 hL0
  simp only [fcC, cellsC, and_true, Nat.zero_add, Nat.reduceAdd] at hq
  simp only [List.take_succ_cons, List.take_zero, List.drop_succ_cons, List.drop_zero, List.take_nil, List.drop_nil]
  repeat (go_big_quiet_step (first | fail | (go_at_call 85; with_reducible exact seg_call hF2 HD.out _) | (go_at_call 192; with_reducible exact seg_call hF2 HP.out _) | (go_at_call 85; with_reducible exact seg_call hF2 HE.out _) | (go_at_call 192; with_reducible exact seg_call hF2 HQ.out _)))
  refine wpQuiet_nil ?_
  clear hq hF1 hF2 iα F α
  refine lex_new [.int .u64 0, .string ⟨#[]⟩] 8 32 32 rfl rfl (of_decide_eq_true (by kernel_rfl)) (by kernel_rfl) rfl new_natc ?_
  simp only [Act.put, List.setIfInBounds_toArray, List.set_cons_succ, List.set_cons_zero]
  refine lex_new [.int .u64 0, .string ⟨#[]⟩] 9 32 32 rfl rfl (of_decide_eq_true (by kernel_rfl)) (by kernel_rfl) rfl new_natc ?_
  simp only [Act.put, List.setIfInBounds_toArray, List.set_cons_succ, List.set_cons_zero]
  refine lex_put [.int .u64 ((lo p : Nat) : Int), .string (hs p)] [.int .u64 0, .string ⟨#[]⟩] 8 32 (.tmp 20) rfl (by kernel_rfl) (by simp [toG, upd]) rfl (fun w k h => put_natc _ _ _ _ w k h) ?_
  simp only [Act.put]
  refine lex_put [.int .u64 ((lo q : Nat) : Int), .string (hs q)] [.int .u64 0, .string ⟨#[]⟩] 9 32 (.tmp 24) rfl (by kernel_rfl) (by simp [toG, upd]) rfl (fun w k h => put_natc _ _ _ _ w k h) ?_
  simp only [Act.put]
  refine lexG_nil ?_
  intro κ x3 hS
  replace hL0 := hL0.ghs hS [(9, [.int .u64 ((lo q : Nat) : Int), .string (hs q)]), (8, [.int .u64 ((lo p : Nat) : Int), .string (hs p)])] (by simp) (by intro p hp; simp only [List.mem_cons, List.not_mem_nil, or_false] at hp; rcases hp with rfl | rfl <;> exact ⟨_, by simp only [toG, upd]; rfl⟩)
  simp only [List.map_cons, List.map_nil, List.cons_append, List.nil_append] at hL0
  simp only [over_toG, over_nil, Act.put, List.setIfInBounds_toArray, List.set_cons_succ, List.set_cons_zero]
  clear hS
  generalize κ 9 = k3_9 at *
  generalize κ 8 = k3_8 at *
  go_upto_region 3 with fail
  refine region_gh (by kernel_rfl) (by kernel_rfl) ?_
  refine lex_seg (gl := []) 15 (by kernel_rfl) ?_
  intro α iα F hF1 hF2
  have hq := GL.seg hF1 hL0
  simp only [fcC, cellsC, and_true, Nat.zero_add, Nat.reduceAdd] at hq
  simp only [List.take_succ_cons, List.take_zero, List.drop_succ_cons, List.drop_zero, List.take_nil, List.drop_nil]
  repeat (go_big_quiet_step (first | fail | (go_at_call 150; with_reducible exact seg_call hF2 HS.out _) | (go_at_call 150; with_reducible exact seg_call hF2 HT.out _) | (go_at_call 33; with_reducible exact seg_call hF2 HB.out _) | (go_at_call 148; with_reducible exact seg_call hF2 HC.out _)))
  refine wpQuiet_nil ?_
  clear hq hF1 hF2 iα F α
  refine lex_new [.int .u64 0, .string ⟨#[]⟩, .bool false] 10 39 39 rfl rfl (of_decide_eq_true (by kernel_rfl)) (by kernel_rfl) rfl new_int ?_
  simp only [Act.put, List.setIfInBounds_toArray, List.set_cons_succ, List.set_cons_zero]
  refine lex_new [.int .u64 0, .string ⟨#[]⟩] 11 32 32 rfl rfl (of_decide_eq_true (by kernel_rfl)) (by kernel_rfl) rfl new_natc ?_
  simp only [Act.put, List.setIfInBounds_toArray, List.set_cons_succ, List.set_cons_zero]
  refine lex_put [.int .u64 ((zl u : Nat) : Int), .string (zh u), .bool (zs u)] [.int .u64 0, .string ⟨#[]⟩, .bool false] 10 39 (.tmp 38) rfl (by kernel_rfl) (by simp [toG, upd]) rfl (fun w k h => put_int _ _ _ _ _ _ w k h) ?_
  simp only [Act.put]
  refine lex_put [.int .u64 ((lo r : Nat) : Int), .string (hs r)] [.int .u64 0, .string ⟨#[]⟩] 11 32 (.tmp 39) rfl (by kernel_rfl) (by simp [toG, upd]) rfl (fun w k h => put_natc _ _ _ _ w k h) ?_
  simp only [Act.put]
  refine lexG_nil ?_
  intro κ x4 hS
  replace hL0 := hL0.ghs hS [(11, [.int .u64 ((lo r : Nat) : Int), .string (hs r)]), (10, [.int .u64 ((zl u : Nat) : Int), .string (zh u), .bool (zs u)])] (by simp) (by intro p hp; simp only [List.mem_cons, List.not_mem_nil, or_false] at hp; rcases hp with rfl | rfl <;> exact ⟨_, by simp only [toG, upd]; rfl⟩)
  simp only [List.map_cons, List.map_nil, List.cons_append, List.nil_append] at hL0
  simp only [over_toG, over_nil, Act.put, List.setIfInBounds_toArray, List.set_cons_succ, List.set_cons_zero]
  clear hS
  generalize κ 11 = k4_11 at *
  generalize κ 10 = k4_10 at *
  go_upto_region 4 with fail
  obtain ⟨α, iα, F, hF1, hF2⟩ := cls x4
  have hq0 := cls_box hF1 hL0 _ _ List.mem_cons_self
  simp only [cellsC, and_true, Nat.zero_add, Nat.reduceAdd] at hq0
  have hq1 := cls_box hF1 hL0 _ _ (List.mem_cons_of_mem _ List.mem_cons_self)
  simp only [cellsC, and_true, Nat.zero_add, Nat.reduceAdd] at hq1
  have hq2 := cls_box hF1 hL0 _ _ (List.mem_cons_of_mem _ (List.mem_cons_of_mem _ List.mem_cons_self))
  simp only [cellsC, and_true, Nat.zero_add, Nat.reduceAdd] at hq2
  have hq3 := cls_box hF1 hL0 _ _ (List.mem_cons_of_mem _ (List.mem_cons_of_mem _ (List.mem_cons_of_mem _ List.mem_cons_self)))
  simp only [cellsC, and_true, Nat.zero_add, Nat.reduceAdd] at hq3
  refine region_qs 7 (C := fun w' => ∃ x, w' = F x) (by kernel_rfl) (by kernel_rfl) (cls_drew hF2) ?_
  simp only [List.take_succ_cons, List.take_zero, List.drop_succ_cons, List.drop_zero, List.take_nil, List.drop_nil]
  repeat (go_big_quiet_step (first | fail | (go_at_call 92; with_reducible exact cls_call hF1 hF2 HU.out _) | (go_at_call 92; with_reducible exact cls_call hF1 hF2 HV.out _) | (go_at_call 149; with_reducible exact cls_call hF1 hF2 HL.out _)))
  refine wpQuiet_nil ?_
  rintro wq ⟨xq, rfl⟩
  replace hL0 := hL0.call (hF1 xq)
  clear  hq0 hq1 hq2 hq3 hF2
  generalize F xq = x5 at hL0 ⊢
  clear hF1 xq iα F α
  have hA := hL0.fc
  simp only [fcG, cellsF, neK, and_true, ne_eq, Nat.zero_add, Nat.reduceAdd] at hA
  have hP := hL0.put 5 (w.heap.size + 1 + 1) _ rfl [.int .u64 ((zl z : Nat) : Int), .string (zh z), .bool (zs z), .int .u64 ((lo f : Nat) : Int), .string (hs f)] rfl
  simp only [setAll, List.set_cons_zero, List.set_cons_succ] at hP
  generalize hput1 : (((((x5.setCell ⟨w.heap.size + 1 + 1, 0, none⟩ (.int .u64 ((zl z : Nat) : Int))).setCell ⟨w.heap.size + 1 + 1, 1, none⟩ (.string (zh z))).setCell ⟨w.heap.size + 1 + 1, 2, none⟩ (.bool (zs z))).setCell ⟨w.heap.size + 1 + 1, 3, none⟩ (.int .u64 ((lo f : Nat) : Int))).setCell ⟨w.heap.size + 1 + 1, 4, none⟩ (.string (hs f))) = x6 at hP
  have hB1 := hP.fc
  simp only [fcG, cellsF, neK, and_true, ne_eq, Nat.zero_add, Nat.reduceAdd] at hB1
  replace hL0 := hP
  go_wp2_with fail
  exact bodyPost_ret (v := .agg #[.int .u64 ((zl z : Nat) : Int), .string (zh z), .bool (zs z), .int .u64 ((lo f : Nat) : Int), .string (hs f)]) (by simp [results, Tryz.results146, go_sem, hB1]) rfl ⟨rfl, hL0.bl⟩

set_option maxHeartbeats 4000000 in
set_option maxRecDepth 100000 in
theorem fsub_w (m n z : Int) (d e f : Nat) (HC : ∀ w, Calls Tryz.prog 146 #[.agg #[.int .u64 ((zl m : Nat) : Int), .string (zh m), .bool (zs m), .int .u64 ((lo d : Nat) : Int), .string (hs d)], .agg #[.int .u64 ((zl n : Nat) : Int), .string (zh n), .bool (zs n), .int .u64 ((lo e : Nat) : Int), .string (hs e)], .func (.func 33) #[] #[]] w fun xe w' => xe = .returned (.agg #[.int .u64 ((zl z : Nat) : Int), .string (zh z), .bool (zs z), .int .u64 ((lo f : Nat) : Int), .string (hs f)]) ∧ Below w.heap.size w w') (w : World) :
    Calls Tryz.prog 66 #[.agg #[.int .u64 ((zl m : Nat) : Int), .string (zh m), .bool (zs m), .int .u64 ((lo d : Nat) : Int), .string (hs d)], .agg #[.int .u64 ((zl n : Nat) : Int), .string (zh n), .bool (zs n), .int .u64 ((lo e : Nat) : Int), .string (hs e)]] w fun xe w' => xe = .returned (.agg #[.int .u64 ((zl z : Nat) : Int), .string (zh z), .bool (zs z), .int .u64 ((lo f : Nat) : Int), .string (hs f)]) ∧ Below w.heap.size w w' := by
  have hL0 : GL w w [] := GL.start w
  replace HC := Lib.hid HC
  replace hL0 := (((hL0.new rfl [.int .u64 ((zl m : Nat) : Int), .string (zh m), .bool (zs m), .int .u64 ((lo d : Nat) : Int), .string (hs d)] 79).new (K := w.heap.size + 1) (szA _ _) [.int .u64 ((zl n : Nat) : Int), .string (zh n), .bool (zs n), .int .u64 ((lo e : Nat) : Int), .string (hs e)] 79).new (K := w.heap.size + 1 + 1) (by simp only [World.size_alloc]) [.int .u64 0, .string ⟨#[]⟩, .bool false, .int .u64 0, .string ⟨#[]⟩] 79)
  generalize hweq : (((w.alloc (.cells #[.int .u64 ((zl m : Nat) : Int), .string (zh m), .bool (zs m), .int .u64 ((lo d : Nat) : Int), .string (hs d)] 79)).alloc (.cells #[.int .u64 ((zl n : Nat) : Int), .string (zh n), .bool (zs n), .int .u64 ((lo e : Nat) : Int), .string (hs e)] 79)).alloc (.cells #[.int .u64 0, .string ⟨#[]⟩, .bool false, .int .u64 0, .string ⟨#[]⟩] 79)) = x1 at hL0
  go_enter Tryz.func66, Tryz.ntmps66
  have hN0 := cells_of _ 0 [] rfl (hL0.get _ _ (List.mem_cons_of_mem _ List.mem_cons_self))
  simp only [cellsF, and_true, Nat.zero_add, Nat.reduceAdd] at hN0
  have hN1 := cells_of _ 0 [] rfl (hL0.get _ _ (List.mem_cons_of_mem _ (List.mem_cons_of_mem _ List.mem_cons_self)))
  simp only [cellsF, and_true, Nat.zero_add, Nat.reduceAdd] at hN1
  go_wp2_with fail
  clear hN0 hN1
  with_reducible refine Calls.mono (HC.out _) ?_
  rintro e x2 ⟨rfl, hb⟩
  replace hL0 := hL0.call hb
  clear hb hweq
  have hA := hL0.fc
  simp only [fcG, cellsF, neK, and_true, ne_eq, Nat.zero_add, Nat.reduceAdd] at hA
  have hP := hL0.put 0 (w.heap.size + 1 + 1) _ rfl [.int .u64 ((zl z : Nat) : Int), .string (zh z), .bool (zs z), .int .u64 ((lo f : Nat) : Int), .string (hs f)] rfl
  simp only [setAll, List.set_cons_zero, List.set_cons_succ] at hP
  generalize hput1 : (((((x2.setCell ⟨w.heap.size + 1 + 1, 0, none⟩ (.int .u64 ((zl z : Nat) : Int))).setCell ⟨w.heap.size + 1 + 1, 1, none⟩ (.string (zh z))).setCell ⟨w.heap.size + 1 + 1, 2, none⟩ (.bool (zs z))).setCell ⟨w.heap.size + 1 + 1, 3, none⟩ (.int .u64 ((lo f : Nat) : Int))).setCell ⟨w.heap.size + 1 + 1, 4, none⟩ (.string (hs f))) = x3 at hP
  have hB1 := hP.fc
  simp only [fcG, cellsF, neK, and_true, ne_eq, Nat.zero_add, Nat.reduceAdd] at hB1
  replace hL0 := hP
  go_wp2_with fail
  exact bodyPost_ret (v := .agg #[.int .u64 ((zl z : Nat) : Int), .string (zh z), .bool (zs z), .int .u64 ((lo f : Nat) : Int), .string (hs f)]) (by simp [results, Tryz.results66, go_sem, hB1]) rfl ⟨rfl, hL0.bl⟩

end Go.Proofs.YtecdnohhengfaaaGreatDoor

/-
  Layer 3, walks: powers, texts.
-/
namespace Go.Proofs.YtecdnohhengfaaaGreatDoor
open Go.RowKit
attribute [local irreducible] lo hs sm s64 c64 d64 b64 mh ml pd pc qd qc val hiB str cmpI srD lz nb isq decB zl zh zs

set_option maxHeartbeats 4000000 in
set_option maxRecDepth 100000 in
theorem ffrom_zero (n : Int) (HO : ∀ w, Calls Tryz.prog 88 #[.int .u64 0] w fun xe w' => xe = .returned (.agg #[.int .u64 ((lo 0 : Nat) : Int), .string (hs 0)]) ∧ Below w.heap.size w w') (w : World) :
    Calls Tryz.prog 86 #[.agg #[.int .u64 ((zl n : Nat) : Int), .string (zh n), .bool (zs n)], .agg #[.int .u64 ((lo 0 : Nat) : Int), .string (hs 0)]] w fun xe w' => xe = .returned (.tuple #[.agg #[.int .u64 0, .string ⟨#[]⟩, .bool false, .int .u64 0, .string ⟨#[]⟩], .int .i64 5]) ∧ Below w.heap.size w w' := by
  have hL0 : GL w w [] := GL.start w
  replace HO := Lib.hid HO
  replace hL0 := (((hL0.new rfl [.int .u64 ((zl n : Nat) : Int), .string (zh n), .bool (zs n)] 39).new (K := w.heap.size + 1) (szA _ _) [.int .u64 ((lo 0 : Nat) : Int), .string (hs 0)] 32).new (K := w.heap.size + 1 + 1) (by simp only [World.size_alloc]) [.int .u64 0, .string ⟨#[]⟩, .bool false, .int .u64 0, .string ⟨#[]⟩] 79)
  generalize hweq : (((w.alloc (.cells #[.int .u64 ((zl n : Nat) : Int), .string (zh n), .bool (zs n)] 39)).alloc (.cells #[.int .u64 ((lo 0 : Nat) : Int), .string (hs 0)] 32)).alloc (.cells #[.int .u64 0, .string ⟨#[]⟩, .bool false, .int .u64 0, .string ⟨#[]⟩] 79)) = x1 at hL0
  go_enter Tryz.func86, Tryz.ntmps86
  go_upto_region 1 with fail
  clear hweq
  obtain ⟨α, iα, F, hF1, hF2⟩ := cls x1
  have hq0 := cls_box hF1 hL0 _ _ (List.mem_cons_of_mem _ List.mem_cons_self)
  simp only [cellsC, and_true, Nat.zero_add, Nat.reduceAdd] at hq0
  refine region_qs 3 (C := fun w' => ∃ x, w' = F x) (by kernel_rfl) (by kernel_rfl) (cls_drew hF2) ?_
  simp only [List.take_succ_cons, List.take_zero, List.drop_succ_cons, List.drop_zero, List.take_nil, List.drop_nil]
  repeat (go_big_quiet_step (first | fail | (go_at_call 88; with_reducible exact cls_call hF1 hF2 HO.out _)))
  refine wpQuiet_nil ?_
  rintro wq ⟨xq, rfl⟩
  replace hL0 := hL0.call (hF1 xq)
  clear  hq0 hF2
  generalize F xq = x2 at hL0 ⊢
  clear hF1 xq iα F α
  have hA := hL0.fc
  simp only [fcG, cellsF, neK, and_true, ne_eq, Nat.zero_add, Nat.reduceAdd] at hA
  have hP := hL0.put 0 (w.heap.size + 1 + 1) _ rfl [.int .u64 0, .string ⟨#[]⟩, .bool false, .int .u64 0, .string ⟨#[]⟩] rfl
  simp only [setAll, List.set_cons_zero, List.set_cons_succ] at hP
  generalize hput1 : (((((x2.setCell ⟨w.heap.size + 1 + 1, 0, none⟩ (.int .u64 0)).setCell ⟨w.heap.size + 1 + 1, 1, none⟩ (.string ⟨#[]⟩)).setCell ⟨w.heap.size + 1 + 1, 2, none⟩ (.bool false)).setCell ⟨w.heap.size + 1 + 1, 3, none⟩ (.int .u64 0)).setCell ⟨w.heap.size + 1 + 1, 4, none⟩ (.string ⟨#[]⟩)) = x3 at hP
  have hB1 := hP.fc
  simp only [fcG, cellsF, neK, and_true, ne_eq, Nat.zero_add, Nat.reduceAdd] at hB1
  replace hL0 := hP
  go_wp2_with fail
  exact bodyPost_ret (v := .tuple #[.agg #[.int .u64 0, .string ⟨#[]⟩, .bool false, .int .u64 0, .string ⟨#[]⟩], .int .i64 5]) (by simp [results, Tryz.results86, go_sem, hB1]) rfl ⟨rfl, hL0.bl⟩

set_option maxHeartbeats 4000000 in
set_option maxRecDepth 100000 in
theorem ffrom_w (n u z : Int) (d v f : Nat) (HO : ∀ w, Calls Tryz.prog 88 #[.int .u64 0] w fun xe w' => xe = .returned (.agg #[.int .u64 ((lo 0 : Nat) : Int), .string (hs 0)]) ∧ Below w.heap.size w w') (HC : ∀ w, Calls Tryz.prog 148 #[.agg #[.int .u64 ((zl n : Nat) : Int), .string (zh n), .bool (zs n)], .agg #[.int .u64 ((lo d : Nat) : Int), .string (hs d)]] w fun xe w' => xe = .returned (.tuple #[.agg #[.int .u64 ((zl u : Nat) : Int), .string (zh u), .bool (zs u)], .agg #[.int .u64 ((lo v : Nat) : Int), .string (hs v)]]) ∧ Below w.heap.size w w') (HL : ∀ w, Calls Tryz.prog 149 #[.agg #[.int .u64 ((zl u : Nat) : Int), .string (zh u), .bool (zs u)], .agg #[.int .u64 ((lo v : Nat) : Int), .string (hs v)]] w fun xe w' => xe = .returned (.agg #[.int .u64 ((zl z : Nat) : Int), .string (zh z), .bool (zs z), .int .u64 ((lo f : Nat) : Int), .string (hs f)]) ∧ Below w.heap.size w w') (hd : d ≠ 0) (w : World) :
    Calls Tryz.prog 86 #[.agg #[.int .u64 ((zl n : Nat) : Int), .string (zh n), .bool (zs n)], .agg #[.int .u64 ((lo d : Nat) : Int), .string (hs d)]] w fun xe w' => xe = .returned (.tuple #[.agg #[.int .u64 ((zl z : Nat) : Int), .string (zh z), .bool (zs z), .int .u64 ((lo f : Nat) : Int), .string (hs f)], .int .i64 0]) ∧ Below w.heap.size w w' := by
  have hL0 : GL w w [] := GL.start w
  replace HO := Lib.hid HO
  replace HC := Lib.hid HC
  replace HL := Lib.hid HL
  have hz := ne_nat hd
  clear hd
  rcases hz with e0 | ⟨e0, e1⟩
  all_goals (
    replace hL0 := (((hL0.new rfl [.int .u64 ((zl n : Nat) : Int), .string (zh n), .bool (zs n)] 39).new (K := w.heap.size + 1) (szA _ _) [.int .u64 ((lo d : Nat) : Int), .string (hs d)] 32).new (K := w.heap.size + 1 + 1) (by simp only [World.size_alloc]) [.int .u64 0, .string ⟨#[]⟩, .bool false, .int .u64 0, .string ⟨#[]⟩] 79)
    generalize hweq : (((w.alloc (.cells #[.int .u64 ((zl n : Nat) : Int), .string (zh n), .bool (zs n)] 39)).alloc (.cells #[.int .u64 ((lo d : Nat) : Int), .string (hs d)] 32)).alloc (.cells #[.int .u64 0, .string ⟨#[]⟩, .bool false, .int .u64 0, .string ⟨#[]⟩] 79)) = x1 at hL0
    go_enter Tryz.func86, Tryz.ntmps86
    go_upto_region 1 with fail
    clear hweq
    obtain ⟨α, iα, F, hF1, hF2⟩ := cls x1
    have hq0 := cls_box hF1 hL0 _ _ (List.mem_cons_of_mem _ List.mem_cons_self)
    simp only [cellsC, and_true, Nat.zero_add, Nat.reduceAdd] at hq0
    refine region_qs 3 (C := fun w' => ∃ x, w' = F x) (by kernel_rfl) (by kernel_rfl) (cls_drew hF2) ?_
    simp only [List.take_succ_cons, List.take_zero, List.drop_succ_cons, List.drop_zero, List.take_nil, List.drop_nil]
    repeat (go_big_quiet_step (first | fail | (go_at_call 88; with_reducible exact cls_call hF1 hF2 HO.out _)))
    refine wpQuiet_nil ?_
    rintro wq ⟨xq, rfl⟩
    replace hL0 := hL0.call (hF1 xq)
    clear  hq0 hF2
    generalize F xq = x2 at hL0 ⊢
    clear hF1 xq iα F α
    have hN0 := cells_of _ 0 [] rfl (hL0.get _ _ (List.mem_cons_of_mem _ List.mem_cons_self))
    simp only [cellsF, and_true, Nat.zero_add, Nat.reduceAdd] at hN0
    have hN1 := cells_of _ 0 [] rfl (hL0.get _ _ (List.mem_cons_of_mem _ (List.mem_cons_of_mem _ List.mem_cons_self)))
    simp only [cellsF, and_true, Nat.zero_add, Nat.reduceAdd] at hN1
    go_wp2_with fail
    clear hN0 hN1
    with_reducible refine Calls.mono (HC.out _) ?_
    rintro e x3 ⟨rfl, hb⟩
    replace hL0 := hL0.call hb
    clear hb
    go_wp2_with fail
    with_reducible refine Calls.mono (HL.out _) ?_
    rintro e x4 ⟨rfl, hb⟩
    replace hL0 := hL0.call hb
    clear hb
    have hA := hL0.fc
    simp only [fcG, cellsF, neK, and_true, ne_eq, Nat.zero_add, Nat.reduceAdd] at hA
    have hP := hL0.put 0 (w.heap.size + 1 + 1) _ rfl [.int .u64 ((zl z : Nat) : Int), .string (zh z), .bool (zs z), .int .u64 ((lo f : Nat) : Int), .string (hs f)] rfl
    simp only [setAll, List.set_cons_zero, List.set_cons_succ] at hP
    generalize hput1 : (((((x4.setCell ⟨w.heap.size + 1 + 1, 0, none⟩ (.int .u64 ((zl z : Nat) : Int))).setCell ⟨w.heap.size + 1 + 1, 1, none⟩ (.string (zh z))).setCell ⟨w.heap.size + 1 + 1, 2, none⟩ (.bool (zs z))).setCell ⟨w.heap.size + 1 + 1, 3, none⟩ (.int .u64 ((lo f : Nat) : Int))).setCell ⟨w.heap.size + 1 + 1, 4, none⟩ (.string (hs f))) = x5 at hP
    have hB1 := hP.fc
    simp only [fcG, cellsF, neK, and_true, ne_eq, Nat.zero_add, Nat.reduceAdd] at hB1
    replace hL0 := hP
    go_wp2_with fail
    exact bodyPost_ret (v := .tuple #[.agg #[.int .u64 ((zl z : Nat) : Int), .string (zh z), .bool (zs z), .int .u64 ((lo f : Nat) : Int), .string (hs f)], .int .i64 0]) (by simp [results, Tryz.results86, go_sem, hB1]) rfl ⟨rfl, hL0.bl⟩)

set_option maxHeartbeats 4000000 in
set_option maxRecDepth 100000 in
theorem fpower_num (n : Int) (e a x : Nat) (k : Int) (HA : ∀ w, Calls Tryz.prog 43 #[.agg #[.int .u64 ((zl n : Nat) : Int), .string (zh n), .bool (zs n)]] w fun xe w' => xe = .returned (.agg #[.int .u64 ((lo a : Nat) : Int), .string (hs a)]) ∧ Below w.heap.size w w') (HP : ∀ w, Calls Tryz.prog 119 #[.agg #[.int .u64 ((lo a : Nat) : Int), .string (hs a)], .int .i64 k] w fun xe w' => xe = .returned (.tuple #[.agg #[.int .u64 ((lo x : Nat) : Int), .string (hs x)], .int .i64 3]) ∧ Below w.heap.size w w') (w : World) :
    Calls Tryz.prog 160 #[.agg #[.int .u64 ((zl n : Nat) : Int), .string (zh n), .bool (zs n), .int .u64 ((lo e : Nat) : Int), .string (hs e)], .int .i64 k] w fun xe w' => xe = .returned (.tuple #[.agg #[.int .u64 0, .string ⟨#[]⟩, .bool false, .int .u64 0, .string ⟨#[]⟩], .int .i64 3]) ∧ Below w.heap.size w w' := by
  have hL0 : GL w w [] := GL.start w
  replace HA := Lib.hid HA
  replace HP := Lib.hid HP
  replace hL0 := ((hL0.new rfl [.int .u64 ((zl n : Nat) : Int), .string (zh n), .bool (zs n), .int .u64 ((lo e : Nat) : Int), .string (hs e)] 79).new (K := w.heap.size + 1) (szA _ _) [.int .u64 0, .string ⟨#[]⟩, .bool false, .int .u64 0, .string ⟨#[]⟩] 79)
  generalize hweq : ((w.alloc (.cells #[.int .u64 ((zl n : Nat) : Int), .string (zh n), .bool (zs n), .int .u64 ((lo e : Nat) : Int), .string (hs e)] 79)).alloc (.cells #[.int .u64 0, .string ⟨#[]⟩, .bool false, .int .u64 0, .string ⟨#[]⟩] 79)) = x1 at hL0
  go_enter Tryz.func160, Tryz.ntmps160
  have hN0 := cells_of _ 0 [] rfl (hL0.get _ _ (List.mem_cons_of_mem _ List.mem_cons_self))
  simp only [cellsF, and_true, Nat.zero_add, Nat.reduceAdd] at hN0
  go_wp2_with fail
  clear hN0
  with_reducible refine Calls.mono (HA.out _) ?_
  rintro e x2 ⟨rfl, hb⟩
  replace hL0 := hL0.call hb
  clear hb hweq
  go_wp2_with fail
  with_reducible refine Calls.mono (HP.out _) ?_
  rintro e x3 ⟨rfl, hb⟩
  replace hL0 := hL0.call hb
  clear hb
  replace hL0 := (hL0.new rfl [.int .u64 ((lo x : Nat) : Int), .string (hs x)] 32)
  generalize hweq : (x3.alloc (.cells #[.int .u64 ((lo x : Nat) : Int), .string (hs x)] 32)) = x4 at hL0
  have hA := hL0.fc
  simp only [fcG, cellsF, neK, and_true, ne_eq, Nat.zero_add, Nat.reduceAdd] at hA
  have hP := hL0.put 1 (w.heap.size + 1) _ rfl [.int .u64 0, .string ⟨#[]⟩, .bool false, .int .u64 0, .string ⟨#[]⟩] rfl
  simp only [setAll, List.set_cons_zero, List.set_cons_succ] at hP
  generalize hput1 : (((((x4.setCell ⟨w.heap.size + 1, 0, none⟩ (.int .u64 0)).setCell ⟨w.heap.size + 1, 1, none⟩ (.string ⟨#[]⟩)).setCell ⟨w.heap.size + 1, 2, none⟩ (.bool false)).setCell ⟨w.heap.size + 1, 3, none⟩ (.int .u64 0)).setCell ⟨w.heap.size + 1, 4, none⟩ (.string ⟨#[]⟩)) = x5 at hP
  have hB1 := hP.fc
  simp only [fcG, cellsF, neK, and_true, ne_eq, Nat.zero_add, Nat.reduceAdd] at hB1
  replace hL0 := hP
  go_wp2_with fail
  exact bodyPost_ret (v := .tuple #[.agg #[.int .u64 0, .string ⟨#[]⟩, .bool false, .int .u64 0, .string ⟨#[]⟩], .int .i64 3]) (by simp [results, Tryz.results160, go_sem, hB1]) rfl ⟨rfl, hL0.bl⟩

set_option maxHeartbeats 4000000 in
set_option maxRecDepth 100000 in
theorem fpower_den (n : Int) (e a d x y : Nat) (k : Int) (HA : ∀ w, Calls Tryz.prog 43 #[.agg #[.int .u64 ((zl n : Nat) : Int), .string (zh n), .bool (zs n)]] w fun xe w' => xe = .returned (.agg #[.int .u64 ((lo a : Nat) : Int), .string (hs a)]) ∧ Below w.heap.size w w') (HP : ∀ w, Calls Tryz.prog 119 #[.agg #[.int .u64 ((lo a : Nat) : Int), .string (hs a)], .int .i64 k] w fun xe w' => xe = .returned (.tuple #[.agg #[.int .u64 ((lo x : Nat) : Int), .string (hs x)], .int .i64 0]) ∧ Below w.heap.size w w') (HD : ∀ w, Calls Tryz.prog 85 #[.agg #[.int .u64 ((zl n : Nat) : Int), .string (zh n), .bool (zs n), .int .u64 ((lo e : Nat) : Int), .string (hs e)]] w fun xe w' => xe = .returned (.agg #[.int .u64 ((lo d : Nat) : Int), .string (hs d)]) ∧ Below w.heap.size w w') (HQ : ∀ w, Calls Tryz.prog 119 #[.agg #[.int .u64 ((lo d : Nat) : Int), .string (hs d)], .int .i64 k] w fun xe w' => xe = .returned (.tuple #[.agg #[.int .u64 ((lo y : Nat) : Int), .string (hs y)], .int .i64 3]) ∧ Below w.heap.size w w') (w : World) :
    Calls Tryz.prog 160 #[.agg #[.int .u64 ((zl n : Nat) : Int), .string (zh n), .bool (zs n), .int .u64 ((lo e : Nat) : Int), .string (hs e)], .int .i64 k] w fun xe w' => xe = .returned (.tuple #[.agg #[.int .u64 0, .string ⟨#[]⟩, .bool false, .int .u64 0, .string ⟨#[]⟩], .int .i64 3]) ∧ Below w.heap.size w w' := by
  have hL0 : GL w w [] := GL.start w
  replace HA := Lib.hid HA
  replace HP := Lib.hid HP
  replace HD := Lib.hid HD
  replace HQ := Lib.hid HQ
  replace hL0 := ((hL0.new rfl [.int .u64 ((zl n : Nat) : Int), .string (zh n), .bool (zs n), .int .u64 ((lo e : Nat) : Int), .string (hs e)] 79).new (K := w.heap.size + 1) (szA _ _) [.int .u64 0, .string ⟨#[]⟩, .bool false, .int .u64 0, .string ⟨#[]⟩] 79)
  generalize hweq : ((w.alloc (.cells #[.int .u64 ((zl n : Nat) : Int), .string (zh n), .bool (zs n), .int .u64 ((lo e : Nat) : Int), .string (hs e)] 79)).alloc (.cells #[.int .u64 0, .string ⟨#[]⟩, .bool false, .int .u64 0, .string ⟨#[]⟩] 79)) = x1 at hL0
  go_enter Tryz.func160, Tryz.ntmps160
  have hN0 := cells_of _ 0 [] rfl (hL0.get _ _ (List.mem_cons_of_mem _ List.mem_cons_self))
  simp only [cellsF, and_true, Nat.zero_add, Nat.reduceAdd] at hN0
  go_wp2_with fail
  clear hN0
  with_reducible refine Calls.mono (HA.out _) ?_
  rintro e x2 ⟨rfl, hb⟩
  replace hL0 := hL0.call hb
  clear hb hweq
  go_wp2_with fail
  with_reducible refine Calls.mono (HP.out _) ?_
  rintro e x3 ⟨rfl, hb⟩
  replace hL0 := hL0.call hb
  clear hb
  replace hL0 := (hL0.new rfl [.int .u64 ((lo x : Nat) : Int), .string (hs x)] 32)
  generalize hweq : (x3.alloc (.cells #[.int .u64 ((lo x : Nat) : Int), .string (hs x)] 32)) = x4 at hL0
  have hN0 := cells_of _ 0 [] rfl (hL0.get _ _ (List.mem_cons_of_mem _ (List.mem_cons_of_mem _ List.mem_cons_self)))
  simp only [cellsF, and_true, Nat.zero_add, Nat.reduceAdd] at hN0
  go_wp2_with fail
  clear hN0
  with_reducible refine Calls.mono (HD.out _) ?_
  rintro e x5 ⟨rfl, hb⟩
  replace hL0 := hL0.call hb
  clear hb hweq
  go_wp2_with fail
  with_reducible refine Calls.mono (HQ.out _) ?_
  rintro e x6 ⟨rfl, hb⟩
  replace hL0 := hL0.call hb
  clear hb
  replace hL0 := (hL0.new rfl [.int .u64 ((lo y : Nat) : Int), .string (hs y)] 32)
  generalize hweq : (x6.alloc (.cells #[.int .u64 ((lo y : Nat) : Int), .string (hs y)] 32)) = x7 at hL0
  have hA := hL0.fc
  simp only [fcG, cellsF, neK, and_true, ne_eq, Nat.zero_add, Nat.reduceAdd] at hA
  have hP := hL0.put 2 (w.heap.size + 1) _ rfl [.int .u64 0, .string ⟨#[]⟩, .bool false, .int .u64 0, .string ⟨#[]⟩] rfl
  simp only [setAll, List.set_cons_zero, List.set_cons_succ] at hP
  generalize hput1 : (((((x7.setCell ⟨w.heap.size + 1, 0, none⟩ (.int .u64 0)).setCell ⟨w.heap.size + 1, 1, none⟩ (.string ⟨#[]⟩)).setCell ⟨w.heap.size + 1, 2, none⟩ (.bool false)).setCell ⟨w.heap.size + 1, 3, none⟩ (.int .u64 0)).setCell ⟨w.heap.size + 1, 4, none⟩ (.string ⟨#[]⟩)) = x8 at hP
  have hB1 := hP.fc
  simp only [fcG, cellsF, neK, and_true, ne_eq, Nat.zero_add, Nat.reduceAdd] at hB1
  replace hL0 := hP
  go_wp2_with fail
  exact bodyPost_ret (v := .tuple #[.agg #[.int .u64 0, .string ⟨#[]⟩, .bool false, .int .u64 0, .string ⟨#[]⟩], .int .i64 3]) (by simp [results, Tryz.results160, go_sem, hB1]) rfl ⟨rfl, hL0.bl⟩

set_option maxHeartbeats 4000000 in
set_option maxRecDepth 100000 in
theorem fpower_pos (n s z u : Int) (e a d x y f : Nat) (k : Int) (HA : ∀ w, Calls Tryz.prog 43 #[.agg #[.int .u64 ((zl n : Nat) : Int), .string (zh n), .bool (zs n)]] w fun xe w' => xe = .returned (.agg #[.int .u64 ((lo a : Nat) : Int), .string (hs a)]) ∧ Below w.heap.size w w') (HP : ∀ w, Calls Tryz.prog 119 #[.agg #[.int .u64 ((lo a : Nat) : Int), .string (hs a)], .int .i64 k] w fun xe w' => xe = .returned (.tuple #[.agg #[.int .u64 ((lo x : Nat) : Int), .string (hs x)], .int .i64 0]) ∧ Below w.heap.size w w') (HD : ∀ w, Calls Tryz.prog 85 #[.agg #[.int .u64 ((zl n : Nat) : Int), .string (zh n), .bool (zs n), .int .u64 ((lo e : Nat) : Int), .string (hs e)]] w fun xe w' => xe = .returned (.agg #[.int .u64 ((lo d : Nat) : Int), .string (hs d)]) ∧ Below w.heap.size w w') (HQ : ∀ w, Calls Tryz.prog 119 #[.agg #[.int .u64 ((lo d : Nat) : Int), .string (hs d)], .int .i64 k] w fun xe w' => xe = .returned (.tuple #[.agg #[.int .u64 ((lo y : Nat) : Int), .string (hs y)], .int .i64 0]) ∧ Below w.heap.size w w') (HS : ∀ w, Calls Tryz.prog 75 #[.agg #[.int .u64 ((zl n : Nat) : Int), .string (zh n), .bool (zs n), .int .u64 ((lo e : Nat) : Int), .string (hs e)]] w fun xe w' => xe = .returned (.int .i64 s) ∧ Below w.heap.size w w') (HF : ∀ w, Calls Tryz.prog 91 #[.bool false, .agg #[.int .u64 ((lo x : Nat) : Int), .string (hs x)]] w fun xe w' => xe = .returned (.agg #[.int .u64 ((zl z : Nat) : Int), .string (zh z), .bool (zs z)]) ∧ Below w.heap.size w w') (HL : ∀ w, Calls Tryz.prog 149 #[.agg #[.int .u64 ((zl z : Nat) : Int), .string (zh z), .bool (zs z)], .agg #[.int .u64 ((lo y : Nat) : Int), .string (hs y)]] w fun xe w' => xe = .returned (.agg #[.int .u64 ((zl u : Nat) : Int), .string (zh u), .bool (zs u), .int .u64 ((lo f : Nat) : Int), .string (hs f)]) ∧ Below w.heap.size w w') (hsg : decide (s < 0) = false) (w : World) :
    Calls Tryz.prog 160 #[.agg #[.int .u64 ((zl n : Nat) : Int), .string (zh n), .bool (zs n), .int .u64 ((lo e : Nat) : Int), .string (hs e)], .int .i64 k] w fun xe w' => xe = .returned (.tuple #[.agg #[.int .u64 ((zl u : Nat) : Int), .string (zh u), .bool (zs u), .int .u64 ((lo f : Nat) : Int), .string (hs f)], .int .i64 0]) ∧ Below w.heap.size w w' := by
  have hL0 : GL w w [] := GL.start w
  replace HA := Lib.hid HA
  replace HP := Lib.hid HP
  replace HD := Lib.hid HD
  replace HQ := Lib.hid HQ
  replace HS := Lib.hid HS
  replace HF := Lib.hid HF
  replace HL := Lib.hid HL
  replace hL0 := ((hL0.new rfl [.int .u64 ((zl n : Nat) : Int), .string (zh n), .bool (zs n), .int .u64 ((lo e : Nat) : Int), .string (hs e)] 79).new (K := w.heap.size + 1) (szA _ _) [.int .u64 0, .string ⟨#[]⟩, .bool false, .int .u64 0, .string ⟨#[]⟩] 79)
  generalize hweq : ((w.alloc (.cells #[.int .u64 ((zl n : Nat) : Int), .string (zh n), .bool (zs n), .int .u64 ((lo e : Nat) : Int), .string (hs e)] 79)).alloc (.cells #[.int .u64 0, .string ⟨#[]⟩, .bool false, .int .u64 0, .string ⟨#[]⟩] 79)) = x1 at hL0
  go_enter Tryz.func160, Tryz.ntmps160
  have hN0 := cells_of _ 0 [] rfl (hL0.get _ _ (List.mem_cons_of_mem _ List.mem_cons_self))
  simp only [cellsF, and_true, Nat.zero_add, Nat.reduceAdd] at hN0
  go_wp2_with fail
  clear hN0
  with_reducible refine Calls.mono (HA.out _) ?_
  rintro e x2 ⟨rfl, hb⟩
  replace hL0 := hL0.call hb
  clear hb hweq
  go_wp2_with fail
  with_reducible refine Calls.mono (HP.out _) ?_
  rintro e x3 ⟨rfl, hb⟩
  replace hL0 := hL0.call hb
  clear hb
  replace hL0 := (hL0.new rfl [.int .u64 ((lo x : Nat) : Int), .string (hs x)] 32)
  generalize hweq : (x3.alloc (.cells #[.int .u64 ((lo x : Nat) : Int), .string (hs x)] 32)) = x4 at hL0
  have hN0 := cells_of _ 0 [] rfl (hL0.get _ _ (List.mem_cons_of_mem _ (List.mem_cons_of_mem _ List.mem_cons_self)))
  simp only [cellsF, and_true, Nat.zero_add, Nat.reduceAdd] at hN0
  go_wp2_with fail
  clear hN0
  with_reducible refine Calls.mono (HD.out _) ?_
  rintro e x5 ⟨rfl, hb⟩
  replace hL0 := hL0.call hb
  clear hb hweq
  go_wp2_with fail
  with_reducible refine Calls.mono (HQ.out _) ?_
  rintro e x6 ⟨rfl, hb⟩
  replace hL0 := hL0.call hb
  clear hb
  replace hL0 := (hL0.new rfl [.int .u64 ((lo y : Nat) : Int), .string (hs y)] 32)
  generalize hweq : (x6.alloc (.cells #[.int .u64 ((lo y : Nat) : Int), .string (hs y)] 32)) = x7 at hL0
  go_upto_region 7 with fail
  clear hweq
  obtain ⟨α, iα, F, hF1, hF2⟩ := cls x7
  have hq0 := cls_box hF1 hL0 _ _ List.mem_cons_self
  simp only [cellsC, and_true, Nat.zero_add, Nat.reduceAdd] at hq0
  have hq1 := cls_box hF1 hL0 _ _ (List.mem_cons_of_mem _ List.mem_cons_self)
  simp only [cellsC, and_true, Nat.zero_add, Nat.reduceAdd] at hq1
  have hq2 := cls_box hF1 hL0 _ _ (List.mem_cons_of_mem _ (List.mem_cons_of_mem _ (List.mem_cons_of_mem _ List.mem_cons_self)))
  simp only [cellsC, and_true, Nat.zero_add, Nat.reduceAdd] at hq2
  refine region_qs 12 (C := fun w' => ∃ x, w' = F x) (by kernel_rfl) (by kernel_rfl) (cls_drew hF2) ?_
  simp only [List.take_succ_cons, List.take_zero, List.drop_succ_cons, List.drop_zero, List.take_nil, List.drop_nil]
  repeat (go_big_quiet_step (first | fail | (go_at_call 75; with_reducible exact cls_call hF1 hF2 HS.out _) | (go_at_call 91; with_reducible exact cls_call hF1 hF2 HF.out _) | (go_at_call 149; with_reducible exact cls_call hF1 hF2 HL.out _)))
  refine wpQuiet_nil ?_
  rintro wq ⟨xq, rfl⟩
  replace hL0 := hL0.call (hF1 xq)
  clear  hq0 hq1 hq2 hF2
  generalize F xq = x8 at hL0 ⊢
  clear hF1 xq iα F α
  have hA := hL0.fc
  simp only [fcG, cellsF, neK, and_true, ne_eq, Nat.zero_add, Nat.reduceAdd] at hA
  have hP := hL0.put 2 (w.heap.size + 1) _ rfl [.int .u64 ((zl u : Nat) : Int), .string (zh u), .bool (zs u), .int .u64 ((lo f : Nat) : Int), .string (hs f)] rfl
  simp only [setAll, List.set_cons_zero, List.set_cons_succ] at hP
  generalize hput1 : (((((x8.setCell ⟨w.heap.size + 1, 0, none⟩ (.int .u64 ((zl u : Nat) : Int))).setCell ⟨w.heap.size + 1, 1, none⟩ (.string (zh u))).setCell ⟨w.heap.size + 1, 2, none⟩ (.bool (zs u))).setCell ⟨w.heap.size + 1, 3, none⟩ (.int .u64 ((lo f : Nat) : Int))).setCell ⟨w.heap.size + 1, 4, none⟩ (.string (hs f))) = x9 at hP
  have hB1 := hP.fc
  simp only [fcG, cellsF, neK, and_true, ne_eq, Nat.zero_add, Nat.reduceAdd] at hB1
  replace hL0 := hP
  go_wp2_with fail
  exact bodyPost_ret (v := .tuple #[.agg #[.int .u64 ((zl u : Nat) : Int), .string (zh u), .bool (zs u), .int .u64 ((lo f : Nat) : Int), .string (hs f)], .int .i64 0]) (by simp [results, Tryz.results160, go_sem, hB1]) rfl ⟨rfl, hL0.bl⟩

set_option maxHeartbeats 4000000 in
set_option maxRecDepth 100000 in
theorem fpower_odd (n s z u : Int) (e a d x y f : Nat) (k : Int) (HA : ∀ w, Calls Tryz.prog 43 #[.agg #[.int .u64 ((zl n : Nat) : Int), .string (zh n), .bool (zs n)]] w fun xe w' => xe = .returned (.agg #[.int .u64 ((lo a : Nat) : Int), .string (hs a)]) ∧ Below w.heap.size w w') (HP : ∀ w, Calls Tryz.prog 119 #[.agg #[.int .u64 ((lo a : Nat) : Int), .string (hs a)], .int .i64 k] w fun xe w' => xe = .returned (.tuple #[.agg #[.int .u64 ((lo x : Nat) : Int), .string (hs x)], .int .i64 0]) ∧ Below w.heap.size w w') (HD : ∀ w, Calls Tryz.prog 85 #[.agg #[.int .u64 ((zl n : Nat) : Int), .string (zh n), .bool (zs n), .int .u64 ((lo e : Nat) : Int), .string (hs e)]] w fun xe w' => xe = .returned (.agg #[.int .u64 ((lo d : Nat) : Int), .string (hs d)]) ∧ Below w.heap.size w w') (HQ : ∀ w, Calls Tryz.prog 119 #[.agg #[.int .u64 ((lo d : Nat) : Int), .string (hs d)], .int .i64 k] w fun xe w' => xe = .returned (.tuple #[.agg #[.int .u64 ((lo y : Nat) : Int), .string (hs y)], .int .i64 0]) ∧ Below w.heap.size w w') (HS : ∀ w, Calls Tryz.prog 75 #[.agg #[.int .u64 ((zl n : Nat) : Int), .string (zh n), .bool (zs n), .int .u64 ((lo e : Nat) : Int), .string (hs e)]] w fun xe w' => xe = .returned (.int .i64 s) ∧ Below w.heap.size w w') (HF : ∀ w, Calls Tryz.prog 91 #[.bool true, .agg #[.int .u64 ((lo x : Nat) : Int), .string (hs x)]] w fun xe w' => xe = .returned (.agg #[.int .u64 ((zl z : Nat) : Int), .string (zh z), .bool (zs z)]) ∧ Below w.heap.size w w') (HL : ∀ w, Calls Tryz.prog 149 #[.agg #[.int .u64 ((zl z : Nat) : Int), .string (zh z), .bool (zs z)], .agg #[.int .u64 ((lo y : Nat) : Int), .string (hs y)]] w fun xe w' => xe = .returned (.agg #[.int .u64 ((zl u : Nat) : Int), .string (zh u), .bool (zs u), .int .u64 ((lo f : Nat) : Int), .string (hs f)]) ∧ Below w.heap.size w w') (hsg : decide (s < 0) = true) (hk : (k.tmod 2 == 1) = true) (w : World) :
    Calls Tryz.prog 160 #[.agg #[.int .u64 ((zl n : Nat) : Int), .string (zh n), .bool (zs n), .int .u64 ((lo e : Nat) : Int), .string (hs e)], .int .i64 k] w fun xe w' => xe = .returned (.tuple #[.agg #[.int .u64 ((zl u : Nat) : Int), .string (zh u), .bool (zs u), .int .u64 ((lo f : Nat) : Int), .string (hs f)], .int .i64 0]) ∧ Below w.heap.size w w' := by
  have hL0 : GL w w [] := GL.start w
  replace HA := Lib.hid HA
  replace HP := Lib.hid HP
  replace HD := Lib.hid HD
  replace HQ := Lib.hid HQ
  replace HS := Lib.hid HS
  replace HF := Lib.hid HF
  replace HL := Lib.hid HL
  replace hL0 := ((hL0.new rfl [.int .u64 ((zl n : Nat) : Int), .string (zh n), .bool (zs n), .int .u64 ((lo e : Nat) : Int), .string (hs e)] 79).new (K := w.heap.size + 1) (szA _ _) [.int .u64 0, .string ⟨#[]⟩, .bool false, .int .u64 0, .string ⟨#[]⟩] 79)
  generalize hweq : ((w.alloc (.cells #[.int .u64 ((zl n : Nat) : Int), .string (zh n), .bool (zs n), .int .u64 ((lo e : Nat) : Int), .string (hs e)] 79)).alloc (.cells #[.int .u64 0, .string ⟨#[]⟩, .bool false, .int .u64 0, .string ⟨#[]⟩] 79)) = x1 at hL0
  go_enter Tryz.func160, Tryz.ntmps160
  have hN0 := cells_of _ 0 [] rfl (hL0.get _ _ (List.mem_cons_of_mem _ List.mem_cons_self))
  simp only [cellsF, and_true, Nat.zero_add, Nat.reduceAdd] at hN0
  go_wp2_with fail
  clear hN0
  with_reducible refine Calls.mono (HA.out _) ?_
  rintro e x2 ⟨rfl, hb⟩
  replace hL0 := hL0.call hb
  clear hb hweq
  go_wp2_with fail
  with_reducible refine Calls.mono (HP.out _) ?_
  rintro e x3 ⟨rfl, hb⟩
  replace hL0 := hL0.call hb
  clear hb
  replace hL0 := (hL0.new rfl [.int .u64 ((lo x : Nat) : Int), .string (hs x)] 32)
  generalize hweq : (x3.alloc (.cells #[.int .u64 ((lo x : Nat) : Int), .string (hs x)] 32)) = x4 at hL0
  have hN0 := cells_of _ 0 [] rfl (hL0.get _ _ (List.mem_cons_of_mem _ (List.mem_cons_of_mem _ List.mem_cons_self)))
  simp only [cellsF, and_true, Nat.zero_add, Nat.reduceAdd] at hN0
  go_wp2_with fail
  clear hN0
  with_reducible refine Calls.mono (HD.out _) ?_
  rintro e x5 ⟨rfl, hb⟩
  replace hL0 := hL0.call hb
  clear hb hweq
  go_wp2_with fail
  with_reducible refine Calls.mono (HQ.out _) ?_
  rintro e x6 ⟨rfl, hb⟩
  replace hL0 := hL0.call hb
  clear hb
  replace hL0 := (hL0.new rfl [.int .u64 ((lo y : Nat) : Int), .string (hs y)] 32)
  generalize hweq : (x6.alloc (.cells #[.int .u64 ((lo y : Nat) : Int), .string (hs y)] 32)) = x7 at hL0
  go_upto_region 7 with fail
  clear hweq
  obtain ⟨α, iα, F, hF1, hF2⟩ := cls x7
  have hq0 := cls_box hF1 hL0 _ _ List.mem_cons_self
  simp only [cellsC, and_true, Nat.zero_add, Nat.reduceAdd] at hq0
  have hq1 := cls_box hF1 hL0 _ _ (List.mem_cons_of_mem _ List.mem_cons_self)
  simp only [cellsC, and_true, Nat.zero_add, Nat.reduceAdd] at hq1
  have hq2 := cls_box hF1 hL0 _ _ (List.mem_cons_of_mem _ (List.mem_cons_of_mem _ (List.mem_cons_of_mem _ List.mem_cons_self)))
  simp only [cellsC, and_true, Nat.zero_add, Nat.reduceAdd] at hq2
  refine region_qs 12 (C := fun w' => ∃ x, w' = F x) (by kernel_rfl) (by kernel_rfl) (cls_drew hF2) ?_
  simp only [List.take_succ_cons, List.take_zero, List.drop_succ_cons, List.drop_zero, List.take_nil, List.drop_nil]
  repeat (go_big_quiet_step (first | fail | (go_at_call 75; with_reducible exact cls_call hF1 hF2 HS.out _) | (go_at_call 91; with_reducible exact cls_call hF1 hF2 HF.out _) | (go_at_call 149; with_reducible exact cls_call hF1 hF2 HL.out _)))
  refine wpQuiet_nil ?_
  rintro wq ⟨xq, rfl⟩
  replace hL0 := hL0.call (hF1 xq)
  clear  hq0 hq1 hq2 hF2
  generalize F xq = x8 at hL0 ⊢
  clear hF1 xq iα F α
  have hA := hL0.fc
  simp only [fcG, cellsF, neK, and_true, ne_eq, Nat.zero_add, Nat.reduceAdd] at hA
  have hP := hL0.put 2 (w.heap.size + 1) _ rfl [.int .u64 ((zl u : Nat) : Int), .string (zh u), .bool (zs u), .int .u64 ((lo f : Nat) : Int), .string (hs f)] rfl
  simp only [setAll, List.set_cons_zero, List.set_cons_succ] at hP
  generalize hput1 : (((((x8.setCell ⟨w.heap.size + 1, 0, none⟩ (.int .u64 ((zl u : Nat) : Int))).setCell ⟨w.heap.size + 1, 1, none⟩ (.string (zh u))).setCell ⟨w.heap.size + 1, 2, none⟩ (.bool (zs u))).setCell ⟨w.heap.size + 1, 3, none⟩ (.int .u64 ((lo f : Nat) : Int))).setCell ⟨w.heap.size + 1, 4, none⟩ (.string (hs f))) = x9 at hP
  have hB1 := hP.fc
  simp only [fcG, cellsF, neK, and_true, ne_eq, Nat.zero_add, Nat.reduceAdd] at hB1
  replace hL0 := hP
  go_wp2_with fail
  exact bodyPost_ret (v := .tuple #[.agg #[.int .u64 ((zl u : Nat) : Int), .string (zh u), .bool (zs u), .int .u64 ((lo f : Nat) : Int), .string (hs f)], .int .i64 0]) (by simp [results, Tryz.results160, go_sem, hB1]) rfl ⟨rfl, hL0.bl⟩

set_option maxHeartbeats 4000000 in
set_option maxRecDepth 100000 in
theorem fpower_even (n s z u : Int) (e a d x y f : Nat) (k : Int) (HA : ∀ w, Calls Tryz.prog 43 #[.agg #[.int .u64 ((zl n : Nat) : Int), .string (zh n), .bool (zs n)]] w fun xe w' => xe = .returned (.agg #[.int .u64 ((lo a : Nat) : Int), .string (hs a)]) ∧ Below w.heap.size w w') (HP : ∀ w, Calls Tryz.prog 119 #[.agg #[.int .u64 ((lo a : Nat) : Int), .string (hs a)], .int .i64 k] w fun xe w' => xe = .returned (.tuple #[.agg #[.int .u64 ((lo x : Nat) : Int), .string (hs x)], .int .i64 0]) ∧ Below w.heap.size w w') (HD : ∀ w, Calls Tryz.prog 85 #[.agg #[.int .u64 ((zl n : Nat) : Int), .string (zh n), .bool (zs n), .int .u64 ((lo e : Nat) : Int), .string (hs e)]] w fun xe w' => xe = .returned (.agg #[.int .u64 ((lo d : Nat) : Int), .string (hs d)]) ∧ Below w.heap.size w w') (HQ : ∀ w, Calls Tryz.prog 119 #[.agg #[.int .u64 ((lo d : Nat) : Int), .string (hs d)], .int .i64 k] w fun xe w' => xe = .returned (.tuple #[.agg #[.int .u64 ((lo y : Nat) : Int), .string (hs y)], .int .i64 0]) ∧ Below w.heap.size w w') (HS : ∀ w, Calls Tryz.prog 75 #[.agg #[.int .u64 ((zl n : Nat) : Int), .string (zh n), .bool (zs n), .int .u64 ((lo e : Nat) : Int), .string (hs e)]] w fun xe w' => xe = .returned (.int .i64 s) ∧ Below w.heap.size w w') (HF : ∀ w, Calls Tryz.prog 91 #[.bool false, .agg #[.int .u64 ((lo x : Nat) : Int), .string (hs x)]] w fun xe w' => xe = .returned (.agg #[.int .u64 ((zl z : Nat) : Int), .string (zh z), .bool (zs z)]) ∧ Below w.heap.size w w') (HL : ∀ w, Calls Tryz.prog 149 #[.agg #[.int .u64 ((zl z : Nat) : Int), .string (zh z), .bool (zs z)], .agg #[.int .u64 ((lo y : Nat) : Int), .string (hs y)]] w fun xe w' => xe = .returned (.agg #[.int .u64 ((zl u : Nat) : Int), .string (zh u), .bool (zs u), .int .u64 ((lo f : Nat) : Int), .string (hs f)]) ∧ Below w.heap.size w w') (hsg : decide (s < 0) = true) (hk : (k.tmod 2 == 1) = false) (w : World) :
    Calls Tryz.prog 160 #[.agg #[.int .u64 ((zl n : Nat) : Int), .string (zh n), .bool (zs n), .int .u64 ((lo e : Nat) : Int), .string (hs e)], .int .i64 k] w fun xe w' => xe = .returned (.tuple #[.agg #[.int .u64 ((zl u : Nat) : Int), .string (zh u), .bool (zs u), .int .u64 ((lo f : Nat) : Int), .string (hs f)], .int .i64 0]) ∧ Below w.heap.size w w' := by
  have hL0 : GL w w [] := GL.start w
  replace HA := Lib.hid HA
  replace HP := Lib.hid HP
  replace HD := Lib.hid HD
  replace HQ := Lib.hid HQ
  replace HS := Lib.hid HS
  replace HF := Lib.hid HF
  replace HL := Lib.hid HL
  replace hL0 := ((hL0.new rfl [.int .u64 ((zl n : Nat) : Int), .string (zh n), .bool (zs n), .int .u64 ((lo e : Nat) : Int), .string (hs e)] 79).new (K := w.heap.size + 1) (szA _ _) [.int .u64 0, .string ⟨#[]⟩, .bool false, .int .u64 0, .string ⟨#[]⟩] 79)
  generalize hweq : ((w.alloc (.cells #[.int .u64 ((zl n : Nat) : Int), .string (zh n), .bool (zs n), .int .u64 ((lo e : Nat) : Int), .string (hs e)] 79)).alloc (.cells #[.int .u64 0, .string ⟨#[]⟩, .bool false, .int .u64 0, .string ⟨#[]⟩] 79)) = x1 at hL0
  go_enter Tryz.func160, Tryz.ntmps160
  have hN0 := cells_of _ 0 [] rfl (hL0.get _ _ (List.mem_cons_of_mem _ List.mem_cons_self))
  simp only [cellsF, and_true, Nat.zero_add, Nat.reduceAdd] at hN0
  go_wp2_with fail
  clear hN0
  with_reducible refine Calls.mono (HA.out _) ?_
  rintro e x2 ⟨rfl, hb⟩
  replace hL0 := hL0.call hb
  clear hb hweq
  go_wp2_with fail
  with_reducible refine Calls.mono (HP.out _) ?_
  rintro e x3 ⟨rfl, hb⟩
  replace hL0 := hL0.call hb
  clear hb
  replace hL0 := (hL0.new rfl [.int .u64 ((lo x : Nat) : Int), .string (hs x)] 32)
  generalize hweq : (x3.alloc (.cells #[.int .u64 ((lo x : Nat) : Int), .string (hs x)] 32)) = x4 at hL0
  have hN0 := cells_of _ 0 [] rfl (hL0.get _ _ (List.mem_cons_of_mem _ (List.mem_cons_of_mem _ List.mem_cons_self)))
  simp only [cellsF, and_true, Nat.zero_add, Nat.reduceAdd] at hN0
  go_wp2_with fail
  clear hN0
  with_reducible refine Calls.mono (HD.out _) ?_
  rintro e x5 ⟨rfl, hb⟩
  replace hL0 := hL0.call hb
  clear hb hweq
  go_wp2_with fail
  with_reducible refine Calls.mono (HQ.out _) ?_
  rintro e x6 ⟨rfl, hb⟩
  replace hL0 := hL0.call hb
  clear hb
  replace hL0 := (hL0.new rfl [.int .u64 ((lo y : Nat) : Int), .string (hs y)] 32)
  generalize hweq : (x6.alloc (.cells #[.int .u64 ((lo y : Nat) : Int), .string (hs y)] 32)) = x7 at hL0
  go_upto_region 7 with fail
  clear hweq
  obtain ⟨α, iα, F, hF1, hF2⟩ := cls x7
  have hq0 := cls_box hF1 hL0 _ _ List.mem_cons_self
  simp only [cellsC, and_true, Nat.zero_add, Nat.reduceAdd] at hq0
  have hq1 := cls_box hF1 hL0 _ _ (List.mem_cons_of_mem _ List.mem_cons_self)
  simp only [cellsC, and_true, Nat.zero_add, Nat.reduceAdd] at hq1
  have hq2 := cls_box hF1 hL0 _ _ (List.mem_cons_of_mem _ (List.mem_cons_of_mem _ (List.mem_cons_of_mem _ List.mem_cons_self)))
  simp only [cellsC, and_true, Nat.zero_add, Nat.reduceAdd] at hq2
  refine region_qs 12 (C := fun w' => ∃ x, w' = F x) (by kernel_rfl) (by kernel_rfl) (cls_drew hF2) ?_
  simp only [List.take_succ_cons, List.take_zero, List.drop_succ_cons, List.drop_zero, List.take_nil, List.drop_nil]
  repeat (go_big_quiet_step (first | fail | (go_at_call 75; with_reducible exact cls_call hF1 hF2 HS.out _) | (go_at_call 91; with_reducible exact cls_call hF1 hF2 HF.out _) | (go_at_call 149; with_reducible exact cls_call hF1 hF2 HL.out _)))
  refine wpQuiet_nil ?_
  rintro wq ⟨xq, rfl⟩
  replace hL0 := hL0.call (hF1 xq)
  clear  hq0 hq1 hq2 hF2
  generalize F xq = x8 at hL0 ⊢
  clear hF1 xq iα F α
  have hA := hL0.fc
  simp only [fcG, cellsF, neK, and_true, ne_eq, Nat.zero_add, Nat.reduceAdd] at hA
  have hP := hL0.put 2 (w.heap.size + 1) _ rfl [.int .u64 ((zl u : Nat) : Int), .string (zh u), .bool (zs u), .int .u64 ((lo f : Nat) : Int), .string (hs f)] rfl
  simp only [setAll, List.set_cons_zero, List.set_cons_succ] at hP
  generalize hput1 : (((((x8.setCell ⟨w.heap.size + 1, 0, none⟩ (.int .u64 ((zl u : Nat) : Int))).setCell ⟨w.heap.size + 1, 1, none⟩ (.string (zh u))).setCell ⟨w.heap.size + 1, 2, none⟩ (.bool (zs u))).setCell ⟨w.heap.size + 1, 3, none⟩ (.int .u64 ((lo f : Nat) : Int))).setCell ⟨w.heap.size + 1, 4, none⟩ (.string (hs f))) = x9 at hP
  have hB1 := hP.fc
  simp only [fcG, cellsF, neK, and_true, ne_eq, Nat.zero_add, Nat.reduceAdd] at hB1
  replace hL0 := hP
  go_wp2_with fail
  exact bodyPost_ret (v := .tuple #[.agg #[.int .u64 ((zl u : Nat) : Int), .string (zh u), .bool (zs u), .int .u64 ((lo f : Nat) : Int), .string (hs f)], .int .i64 0]) (by simp [results, Tryz.results160, go_sem, hB1]) rfl ⟨rfl, hL0.bl⟩

set_option maxHeartbeats 4000000 in
set_option maxRecDepth 100000 in
theorem fpow_low (n : Int) (e : Nat) (k : Int) (hk : decide (k < -4096) = true) (w : World) :
    Calls Tryz.prog 98 #[.agg #[.int .u64 ((zl n : Nat) : Int), .string (zh n), .bool (zs n), .int .u64 ((lo e : Nat) : Int), .string (hs e)], .int .i64 k] w fun xe w' => xe = .returned (.tuple #[.agg #[.int .u64 0, .string ⟨#[]⟩, .bool false, .int .u64 0, .string ⟨#[]⟩], .int .i64 1]) ∧ Below w.heap.size w w' := by
  have hL0 : GL w w [] := GL.start w
  replace hL0 := ((hL0.new rfl [.int .u64 ((zl n : Nat) : Int), .string (zh n), .bool (zs n), .int .u64 ((lo e : Nat) : Int), .string (hs e)] 79).new (K := w.heap.size + 1) (szA _ _) [.int .u64 0, .string ⟨#[]⟩, .bool false, .int .u64 0, .string ⟨#[]⟩] 79)
  generalize hweq : ((w.alloc (.cells #[.int .u64 ((zl n : Nat) : Int), .string (zh n), .bool (zs n), .int .u64 ((lo e : Nat) : Int), .string (hs e)] 79)).alloc (.cells #[.int .u64 0, .string ⟨#[]⟩, .bool false, .int .u64 0, .string ⟨#[]⟩] 79)) = x1 at hL0
  go_enter Tryz.func98, Tryz.ntmps98
  have hA := hL0.fc
  simp only [fcG, cellsF, neK, and_true, ne_eq, Nat.zero_add, Nat.reduceAdd] at hA
  have hP := hL0.put 0 (w.heap.size + 1) _ rfl [.int .u64 0, .string ⟨#[]⟩, .bool false, .int .u64 0, .string ⟨#[]⟩] rfl
  simp only [setAll, List.set_cons_zero, List.set_cons_succ] at hP
  generalize hput1 : (((((x1.setCell ⟨w.heap.size + 1, 0, none⟩ (.int .u64 0)).setCell ⟨w.heap.size + 1, 1, none⟩ (.string ⟨#[]⟩)).setCell ⟨w.heap.size + 1, 2, none⟩ (.bool false)).setCell ⟨w.heap.size + 1, 3, none⟩ (.int .u64 0)).setCell ⟨w.heap.size + 1, 4, none⟩ (.string ⟨#[]⟩)) = x2 at hP
  have hB1 := hP.fc
  simp only [fcG, cellsF, neK, and_true, ne_eq, Nat.zero_add, Nat.reduceAdd] at hB1
  replace hL0 := hP
  go_wp2_with fail
  exact bodyPost_ret (v := .tuple #[.agg #[.int .u64 0, .string ⟨#[]⟩, .bool false, .int .u64 0, .string ⟨#[]⟩], .int .i64 1]) (by simp [results, Tryz.results98, go_sem, hB1]) rfl ⟨rfl, hL0.bl⟩

set_option maxHeartbeats 4000000 in
set_option maxRecDepth 100000 in
theorem fpow_high (n : Int) (e : Nat) (k : Int) (hk : decide (k < -4096) = false) (hl : decide (4096 < k) = true) (w : World) :
    Calls Tryz.prog 98 #[.agg #[.int .u64 ((zl n : Nat) : Int), .string (zh n), .bool (zs n), .int .u64 ((lo e : Nat) : Int), .string (hs e)], .int .i64 k] w fun xe w' => xe = .returned (.tuple #[.agg #[.int .u64 0, .string ⟨#[]⟩, .bool false, .int .u64 0, .string ⟨#[]⟩], .int .i64 1]) ∧ Below w.heap.size w w' := by
  have hL0 : GL w w [] := GL.start w
  replace hL0 := ((hL0.new rfl [.int .u64 ((zl n : Nat) : Int), .string (zh n), .bool (zs n), .int .u64 ((lo e : Nat) : Int), .string (hs e)] 79).new (K := w.heap.size + 1) (szA _ _) [.int .u64 0, .string ⟨#[]⟩, .bool false, .int .u64 0, .string ⟨#[]⟩] 79)
  generalize hweq : ((w.alloc (.cells #[.int .u64 ((zl n : Nat) : Int), .string (zh n), .bool (zs n), .int .u64 ((lo e : Nat) : Int), .string (hs e)] 79)).alloc (.cells #[.int .u64 0, .string ⟨#[]⟩, .bool false, .int .u64 0, .string ⟨#[]⟩] 79)) = x1 at hL0
  go_enter Tryz.func98, Tryz.ntmps98
  have hA := hL0.fc
  simp only [fcG, cellsF, neK, and_true, ne_eq, Nat.zero_add, Nat.reduceAdd] at hA
  have hP := hL0.put 0 (w.heap.size + 1) _ rfl [.int .u64 0, .string ⟨#[]⟩, .bool false, .int .u64 0, .string ⟨#[]⟩] rfl
  simp only [setAll, List.set_cons_zero, List.set_cons_succ] at hP
  generalize hput1 : (((((x1.setCell ⟨w.heap.size + 1, 0, none⟩ (.int .u64 0)).setCell ⟨w.heap.size + 1, 1, none⟩ (.string ⟨#[]⟩)).setCell ⟨w.heap.size + 1, 2, none⟩ (.bool false)).setCell ⟨w.heap.size + 1, 3, none⟩ (.int .u64 0)).setCell ⟨w.heap.size + 1, 4, none⟩ (.string ⟨#[]⟩)) = x2 at hP
  have hB1 := hP.fc
  simp only [fcG, cellsF, neK, and_true, ne_eq, Nat.zero_add, Nat.reduceAdd] at hB1
  replace hL0 := hP
  go_wp2_with fail
  exact bodyPost_ret (v := .tuple #[.agg #[.int .u64 0, .string ⟨#[]⟩, .bool false, .int .u64 0, .string ⟨#[]⟩], .int .i64 1]) (by simp [results, Tryz.results98, go_sem, hB1]) rfl ⟨rfl, hL0.bl⟩

set_option maxHeartbeats 4000000 in
set_option maxRecDepth 100000 in
theorem fpow_pos (n m c : Int) (e f : Nat) (k : Int) (HP : ∀ w, Calls Tryz.prog 160 #[.agg #[.int .u64 ((zl n : Nat) : Int), .string (zh n), .bool (zs n), .int .u64 ((lo e : Nat) : Int), .string (hs e)], .int .i64 k] w fun xe w' => xe = .returned (.tuple #[.agg #[.int .u64 ((zl m : Nat) : Int), .string (zh m), .bool (zs m), .int .u64 ((lo f : Nat) : Int), .string (hs f)], .int .i64 c]) ∧ Below w.heap.size w w') (hk : decide (k < -4096) = false) (hl : decide (4096 < k) = false) (h0 : decide (0 ≤ k) = true) (w : World) :
    Calls Tryz.prog 98 #[.agg #[.int .u64 ((zl n : Nat) : Int), .string (zh n), .bool (zs n), .int .u64 ((lo e : Nat) : Int), .string (hs e)], .int .i64 k] w fun xe w' => xe = .returned (.tuple #[.agg #[.int .u64 ((zl m : Nat) : Int), .string (zh m), .bool (zs m), .int .u64 ((lo f : Nat) : Int), .string (hs f)], .int .i64 c]) ∧ Below w.heap.size w w' := by
  have hL0 : GL w w [] := GL.start w
  replace HP := Lib.hid HP
  replace hL0 := ((hL0.new rfl [.int .u64 ((zl n : Nat) : Int), .string (zh n), .bool (zs n), .int .u64 ((lo e : Nat) : Int), .string (hs e)] 79).new (K := w.heap.size + 1) (szA _ _) [.int .u64 0, .string ⟨#[]⟩, .bool false, .int .u64 0, .string ⟨#[]⟩] 79)
  generalize hweq : ((w.alloc (.cells #[.int .u64 ((zl n : Nat) : Int), .string (zh n), .bool (zs n), .int .u64 ((lo e : Nat) : Int), .string (hs e)] 79)).alloc (.cells #[.int .u64 0, .string ⟨#[]⟩, .bool false, .int .u64 0, .string ⟨#[]⟩] 79)) = x1 at hL0
  go_enter Tryz.func98, Tryz.ntmps98
  have hN0 := cells_of _ 0 [] rfl (hL0.get _ _ (List.mem_cons_of_mem _ List.mem_cons_self))
  simp only [cellsF, and_true, Nat.zero_add, Nat.reduceAdd] at hN0
  go_wp2_with fail
  clear hN0
  with_reducible refine Calls.mono (HP.out _) ?_
  rintro e x2 ⟨rfl, hb⟩
  replace hL0 := hL0.call hb
  clear hb hweq
  have hA := hL0.fc
  simp only [fcG, cellsF, neK, and_true, ne_eq, Nat.zero_add, Nat.reduceAdd] at hA
  have hP := hL0.put 0 (w.heap.size + 1) _ rfl [.int .u64 ((zl m : Nat) : Int), .string (zh m), .bool (zs m), .int .u64 ((lo f : Nat) : Int), .string (hs f)] rfl
  simp only [setAll, List.set_cons_zero, List.set_cons_succ] at hP
  generalize hput1 : (((((x2.setCell ⟨w.heap.size + 1, 0, none⟩ (.int .u64 ((zl m : Nat) : Int))).setCell ⟨w.heap.size + 1, 1, none⟩ (.string (zh m))).setCell ⟨w.heap.size + 1, 2, none⟩ (.bool (zs m))).setCell ⟨w.heap.size + 1, 3, none⟩ (.int .u64 ((lo f : Nat) : Int))).setCell ⟨w.heap.size + 1, 4, none⟩ (.string (hs f))) = x3 at hP
  have hB1 := hP.fc
  simp only [fcG, cellsF, neK, and_true, ne_eq, Nat.zero_add, Nat.reduceAdd] at hB1
  replace hL0 := hP
  go_wp2_with fail
  exact bodyPost_ret (v := .tuple #[.agg #[.int .u64 ((zl m : Nat) : Int), .string (zh m), .bool (zs m), .int .u64 ((lo f : Nat) : Int), .string (hs f)], .int .i64 c]) (by simp [results, Tryz.results98, go_sem, hB1]) rfl ⟨rfl, hL0.bl⟩

set_option maxHeartbeats 4000000 in
set_option maxRecDepth 100000 in
theorem fpow_zero (k : Int) (HI : ∀ w, Calls Tryz.prog 94 #[.int .i64 0] w fun xe w' => xe = .returned (.agg #[.int .u64 ((zl 0 : Nat) : Int), .string (zh 0), .bool (zs 0), .int .u64 ((lo 0 : Nat) : Int), .string (hs 0)]) ∧ Below w.heap.size w w') (hk : decide (k < -4096) = false) (hl : decide (4096 < k) = false) (h0 : decide (0 ≤ k) = false) (w : World) :
    Calls Tryz.prog 98 #[.agg #[.int .u64 ((zl 0 : Nat) : Int), .string (zh 0), .bool (zs 0), .int .u64 ((lo 0 : Nat) : Int), .string (hs 0)], .int .i64 k] w fun xe w' => xe = .returned (.tuple #[.agg #[.int .u64 0, .string ⟨#[]⟩, .bool false, .int .u64 0, .string ⟨#[]⟩], .int .i64 5]) ∧ Below w.heap.size w w' := by
  have hL0 : GL w w [] := GL.start w
  replace HI := Lib.hid HI
  replace hL0 := ((hL0.new rfl [.int .u64 ((zl 0 : Nat) : Int), .string (zh 0), .bool (zs 0), .int .u64 ((lo 0 : Nat) : Int), .string (hs 0)] 79).new (K := w.heap.size + 1) (szA _ _) [.int .u64 0, .string ⟨#[]⟩, .bool false, .int .u64 0, .string ⟨#[]⟩] 79)
  generalize hweq : ((w.alloc (.cells #[.int .u64 ((zl 0 : Nat) : Int), .string (zh 0), .bool (zs 0), .int .u64 ((lo 0 : Nat) : Int), .string (hs 0)] 79)).alloc (.cells #[.int .u64 0, .string ⟨#[]⟩, .bool false, .int .u64 0, .string ⟨#[]⟩] 79)) = x1 at hL0
  go_enter Tryz.func98, Tryz.ntmps98
  go_upto_region 5 with fail
  clear hweq
  obtain ⟨α, iα, F, hF1, hF2⟩ := cls x1
  have hq0 := cls_box hF1 hL0 _ _ (List.mem_cons_of_mem _ List.mem_cons_self)
  simp only [cellsC, and_true, Nat.zero_add, Nat.reduceAdd] at hq0
  refine region_qs 3 (C := fun w' => ∃ x, w' = F x) (by kernel_rfl) (by kernel_rfl) (cls_drew hF2) ?_
  simp only [List.take_succ_cons, List.take_zero, List.drop_succ_cons, List.drop_zero, List.take_nil, List.drop_nil]
  repeat (go_big_quiet_step (first | fail | (go_at_call 94; with_reducible exact cls_call hF1 hF2 HI.out _)))
  refine wpQuiet_nil ?_
  rintro wq ⟨xq, rfl⟩
  replace hL0 := hL0.call (hF1 xq)
  clear  hq0 hF2
  generalize F xq = x2 at hL0 ⊢
  clear hF1 xq iα F α
  have hA := hL0.fc
  simp only [fcG, cellsF, neK, and_true, ne_eq, Nat.zero_add, Nat.reduceAdd] at hA
  have hP := hL0.put 0 (w.heap.size + 1) _ rfl [.int .u64 0, .string ⟨#[]⟩, .bool false, .int .u64 0, .string ⟨#[]⟩] rfl
  simp only [setAll, List.set_cons_zero, List.set_cons_succ] at hP
  generalize hput1 : (((((x2.setCell ⟨w.heap.size + 1, 0, none⟩ (.int .u64 0)).setCell ⟨w.heap.size + 1, 1, none⟩ (.string ⟨#[]⟩)).setCell ⟨w.heap.size + 1, 2, none⟩ (.bool false)).setCell ⟨w.heap.size + 1, 3, none⟩ (.int .u64 0)).setCell ⟨w.heap.size + 1, 4, none⟩ (.string ⟨#[]⟩)) = x3 at hP
  have hB1 := hP.fc
  simp only [fcG, cellsF, neK, and_true, ne_eq, Nat.zero_add, Nat.reduceAdd] at hB1
  replace hL0 := hP
  go_wp2_with fail
  exact bodyPost_ret (v := .tuple #[.agg #[.int .u64 0, .string ⟨#[]⟩, .bool false, .int .u64 0, .string ⟨#[]⟩], .int .i64 5]) (by simp [results, Tryz.results98, go_sem, hB1]) rfl ⟨rfl, hL0.bl⟩

set_option maxHeartbeats 4000000 in
set_option maxRecDepth 100000 in
theorem fpow_neg (n x m c : Int) (e g f : Nat) (k l : Int) (HI : ∀ w, Calls Tryz.prog 94 #[.int .i64 0] w fun xe w' => xe = .returned (.agg #[.int .u64 ((zl 0 : Nat) : Int), .string (zh 0), .bool (zs 0), .int .u64 ((lo 0 : Nat) : Int), .string (hs 0)]) ∧ Below w.heap.size w w') (HV : ∀ w, Calls Tryz.prog 143 #[.agg #[.int .u64 ((zl n : Nat) : Int), .string (zh n), .bool (zs n), .int .u64 ((lo e : Nat) : Int), .string (hs e)]] w fun xe w' => xe = .returned (.agg #[.int .u64 ((zl x : Nat) : Int), .string (zh x), .bool (zs x), .int .u64 ((lo g : Nat) : Int), .string (hs g)]) ∧ Below w.heap.size w w') (HP : ∀ w, Calls Tryz.prog 160 #[.agg #[.int .u64 ((zl x : Nat) : Int), .string (zh x), .bool (zs x), .int .u64 ((lo g : Nat) : Int), .string (hs g)], .int .i64 l] w fun xe w' => xe = .returned (.tuple #[.agg #[.int .u64 ((zl m : Nat) : Int), .string (zh m), .bool (zs m), .int .u64 ((lo f : Nat) : Int), .string (hs f)], .int .i64 c]) ∧ Below w.heap.size w w') (hk : decide (k < -4096) = false) (hl : decide (4096 < k) = false) (h0 : decide (0 ≤ k) = false) (hw : IntKind.i64.wrap (-k) = l) (hn : n ≠ 0) (w : World) :
    Calls Tryz.prog 98 #[.agg #[.int .u64 ((zl n : Nat) : Int), .string (zh n), .bool (zs n), .int .u64 ((lo e : Nat) : Int), .string (hs e)], .int .i64 k] w fun xe w' => xe = .returned (.tuple #[.agg #[.int .u64 ((zl m : Nat) : Int), .string (zh m), .bool (zs m), .int .u64 ((lo f : Nat) : Int), .string (hs f)], .int .i64 c]) ∧ Below w.heap.size w w' := by
  have hL0 : GL w w [] := GL.start w
  replace HI := Lib.hid HI
  replace HV := Lib.hid HV
  replace HP := Lib.hid HP
  have hz := ne_int hn
  clear hn
  rcases hz with e0 | ⟨e0, e1⟩ | ⟨e0, e1, e2⟩
  all_goals (
    replace hL0 := ((hL0.new rfl [.int .u64 ((zl n : Nat) : Int), .string (zh n), .bool (zs n), .int .u64 ((lo e : Nat) : Int), .string (hs e)] 79).new (K := w.heap.size + 1) (szA _ _) [.int .u64 0, .string ⟨#[]⟩, .bool false, .int .u64 0, .string ⟨#[]⟩] 79)
    generalize hweq : ((w.alloc (.cells #[.int .u64 ((zl n : Nat) : Int), .string (zh n), .bool (zs n), .int .u64 ((lo e : Nat) : Int), .string (hs e)] 79)).alloc (.cells #[.int .u64 0, .string ⟨#[]⟩, .bool false, .int .u64 0, .string ⟨#[]⟩] 79)) = x1 at hL0
    go_enter Tryz.func98, Tryz.ntmps98
    go_upto_region 5 with fail
    clear hweq
    obtain ⟨α, iα, F, hF1, hF2⟩ := cls x1
    have hq0 := cls_box hF1 hL0 _ _ (List.mem_cons_of_mem _ List.mem_cons_self)
    simp only [cellsC, and_true, Nat.zero_add, Nat.reduceAdd] at hq0
    refine region_qs 3 (C := fun w' => ∃ x, w' = F x) (by kernel_rfl) (by kernel_rfl) (cls_drew hF2) ?_
    simp only [List.take_succ_cons, List.take_zero, List.drop_succ_cons, List.drop_zero, List.take_nil, List.drop_nil]
    repeat (go_big_quiet_step (first | fail | (go_at_call 94; with_reducible exact cls_call hF1 hF2 HI.out _)))
    refine wpQuiet_nil ?_
    rintro wq ⟨xq, rfl⟩
    replace hL0 := hL0.call (hF1 xq)
    clear  hq0 hF2
    generalize F xq = x2 at hL0 ⊢
    clear hF1 xq iα F α
    have hN0 := cells_of _ 0 [] rfl (hL0.get _ _ (List.mem_cons_of_mem _ List.mem_cons_self))
    simp only [cellsF, and_true, Nat.zero_add, Nat.reduceAdd] at hN0
    go_wp2_with fail
    clear hN0
    with_reducible refine Calls.mono (HV.out _) ?_
    rintro e x3 ⟨rfl, hb⟩
    replace hL0 := hL0.call hb
    clear hb
    go_wp2_with fail
    with_reducible refine Calls.mono (HP.out _) ?_
    rintro e x4 ⟨rfl, hb⟩
    replace hL0 := hL0.call hb
    clear hb
    have hA := hL0.fc
    simp only [fcG, cellsF, neK, and_true, ne_eq, Nat.zero_add, Nat.reduceAdd] at hA
    have hP := hL0.put 0 (w.heap.size + 1) _ rfl [.int .u64 ((zl m : Nat) : Int), .string (zh m), .bool (zs m), .int .u64 ((lo f : Nat) : Int), .string (hs f)] rfl
    simp only [setAll, List.set_cons_zero, List.set_cons_succ] at hP
    generalize hput1 : (((((x4.setCell ⟨w.heap.size + 1, 0, none⟩ (.int .u64 ((zl m : Nat) : Int))).setCell ⟨w.heap.size + 1, 1, none⟩ (.string (zh m))).setCell ⟨w.heap.size + 1, 2, none⟩ (.bool (zs m))).setCell ⟨w.heap.size + 1, 3, none⟩ (.int .u64 ((lo f : Nat) : Int))).setCell ⟨w.heap.size + 1, 4, none⟩ (.string (hs f))) = x5 at hP
    have hB1 := hP.fc
    simp only [fcG, cellsF, neK, and_true, ne_eq, Nat.zero_add, Nat.reduceAdd] at hB1
    replace hL0 := hP
    go_wp2_with fail
    exact bodyPost_ret (v := .tuple #[.agg #[.int .u64 ((zl m : Nat) : Int), .string (zh m), .bool (zs m), .int .u64 ((lo f : Nat) : Int), .string (hs f)], .int .i64 c]) (by simp [results, Tryz.results98, go_sem, hB1]) rfl ⟨rfl, hL0.bl⟩)

set_option maxHeartbeats 4000000 in
set_option maxRecDepth 100000 in
theorem ftext_whole (n : Int) (s : ByteArray) (HW : ∀ w, Calls Tryz.prog 89 #[.agg #[.int .u64 ((zl n : Nat) : Int), .string (zh n), .bool (zs n), .int .u64 ((lo 0 : Nat) : Int), .string (hs 0)]] w fun xe w' => xe = .returned (.bool true) ∧ Below w.heap.size w w') (HT : ∀ w, Tab w → Calls Tryz.prog 77 #[.agg #[.int .u64 ((zl n : Nat) : Int), .string (zh n), .bool (zs n)]] w fun xe w' => xe = .returned (.string s) ∧ Below w.heap.size w w') (w : World) (htab : Tab w) :
    Calls Tryz.prog 144 #[.agg #[.int .u64 ((zl n : Nat) : Int), .string (zh n), .bool (zs n), .int .u64 ((lo 0 : Nat) : Int), .string (hs 0)]] w fun xe w' => xe = .returned (.string s) ∧ Below w.heap.size w w' := by
  have hL0 : GL w w [] := GL.start w
  replace HW := Lib.hid HW
  replace HT := Lib.hid HT
  replace hL0 := (hL0.new rfl [.int .u64 ((zl n : Nat) : Int), .string (zh n), .bool (zs n), .int .u64 ((lo 0 : Nat) : Int), .string (hs 0)] 79)
  generalize hweq : (w.alloc (.cells #[.int .u64 ((zl n : Nat) : Int), .string (zh n), .bool (zs n), .int .u64 ((lo 0 : Nat) : Int), .string (hs 0)] 79)) = x1 at hL0
  go_enter Tryz.func144, Tryz.ntmps144
  have hN0 := cells_of _ 0 [] rfl (hL0.get _ _ List.mem_cons_self)
  simp only [cellsF, and_true, Nat.zero_add, Nat.reduceAdd] at hN0
  go_wp2_with fail
  clear hN0
  with_reducible refine Calls.mono (HW.out _) ?_
  rintro e x2 ⟨rfl, hb⟩
  replace hL0 := hL0.call hb
  clear hb hweq
  have hN0 := cells_of _ 0 [] rfl (hL0.get _ _ List.mem_cons_self)
  simp only [cellsF, and_true, Nat.zero_add, Nat.reduceAdd] at hN0
  go_wp2_with fail
  clear hN0
  with_reducible refine Calls.mono (HT.out _ (htab.below hL0.bl)) ?_
  rintro e x3 ⟨rfl, hb⟩
  replace hL0 := hL0.call hb
  clear hb
  go_wp2_with fail
  exact bodyPost_ret (v := .string s) (by simp [results, Tryz.results144, go_sem]) rfl ⟨rfl, hL0.bl⟩

set_option maxHeartbeats 4000000 in
set_option maxRecDepth 100000 in
theorem ftext_part (n : Int) (e : Nat) (s t : ByteArray) (HW : ∀ w, Calls Tryz.prog 89 #[.agg #[.int .u64 ((zl n : Nat) : Int), .string (zh n), .bool (zs n), .int .u64 ((lo e : Nat) : Int), .string (hs e)]] w fun xe w' => xe = .returned (.bool false) ∧ Below w.heap.size w w') (HT : ∀ w, Tab w → Calls Tryz.prog 77 #[.agg #[.int .u64 ((zl n : Nat) : Int), .string (zh n), .bool (zs n)]] w fun xe w' => xe = .returned (.string s) ∧ Below w.heap.size w w') (HU : ∀ w, Tab w → Calls Tryz.prog 42 #[.agg #[.int .u64 ((lo e : Nat) : Int), .string (hs e)]] w fun xe w' => xe = .returned (.string t) ∧ Below w.heap.size w w') (h1 : ((s.size : Nat) : Int) ≤ 20000000) (h2 : ((t.size : Nat) : Int) ≤ 20000000) (w : World) (htab : Tab w) :
    Calls Tryz.prog 144 #[.agg #[.int .u64 ((zl n : Nat) : Int), .string (zh n), .bool (zs n), .int .u64 ((lo e : Nat) : Int), .string (hs e)]] w fun xe w' => xe = .returned (.string ((s ++ ByteArray.mk #[47]) ++ t)) ∧ Below w.heap.size w w' := by
  have hL0 : GL w w [] := GL.start w
  replace HW := Lib.hid HW
  replace HT := Lib.hid HT
  replace HU := Lib.hid HU
  replace hL0 := (hL0.new rfl [.int .u64 ((zl n : Nat) : Int), .string (zh n), .bool (zs n), .int .u64 ((lo e : Nat) : Int), .string (hs e)] 79)
  generalize hweq : (w.alloc (.cells #[.int .u64 ((zl n : Nat) : Int), .string (zh n), .bool (zs n), .int .u64 ((lo e : Nat) : Int), .string (hs e)] 79)) = x1 at hL0
  go_enter Tryz.func144, Tryz.ntmps144
  have hN0 := cells_of _ 0 [] rfl (hL0.get _ _ List.mem_cons_self)
  simp only [cellsF, and_true, Nat.zero_add, Nat.reduceAdd] at hN0
  go_wp2_with fail
  clear hN0
  with_reducible refine Calls.mono (HW.out _) ?_
  rintro e x2 ⟨rfl, hb⟩
  replace hL0 := hL0.call hb
  clear hb hweq
  go_upto_region 3 with fail
  have ht := htab.below hL0.bl
  obtain ⟨α, iα, F, hF1, hF2⟩ := cls x2
  have hq0 := cls_box hF1 hL0 _ _ List.mem_cons_self
  simp only [cellsC, and_true, Nat.zero_add, Nat.reduceAdd] at hq0
  refine region_qs 9 (C := fun w' => ∃ x, w' = F x) (by kernel_rfl) (by kernel_rfl) (cls_drew hF2) ?_
  simp only [List.take_succ_cons, List.take_zero, List.drop_succ_cons, List.drop_zero, List.take_nil, List.drop_nil]
  repeat (go_big_quiet_step (first | fail | (go_at_call 77; with_reducible exact cls_callT hF1 hF2 ht HT.out _) | (go_at_call 42; with_reducible exact cls_callT hF1 hF2 ht HU.out _)))
  refine wpQuiet_nil ?_
  rintro wq ⟨xq, rfl⟩
  replace hL0 := hL0.call (hF1 xq)
  clear  hq0 hF2
  generalize F xq = x3 at hL0 ⊢
  clear hF1 xq iα F α
  clear ht
  go_wp2_with fail
  exact bodyPost_ret (v := .string ((s ++ ByteArray.mk #[47]) ++ t)) (by simp [results, Tryz.results144, go_sem]) rfl ⟨rfl, hL0.bl⟩

end Go.Proofs.YtecdnohhengfaaaGreatDoor

/-
  Layer 3: the contracts of the parts, in Lean's Rat.
-/
namespace Go.Proofs.YtecdnohhengfaaaGreatDoor
open Go.RowKit
attribute [local irreducible] lo hs sm s64 c64 d64 b64 mh ml pd pc qd qc val hiB str cmpI srD lz nb isq decB zl zh zs

theorem fe_den (q : Rat) : q.den = if fe q = 0 then 1 else fe q := by
  unfold fe
  have := q.den_nz
  split <;> simp_all
theorem frV_z (n : Int) : frV n 0 = .agg #[.int .u64 ((zl n : Nat) : Int), .string (zh n), .bool (zs n), .int .u64 0, .string ⟨#[]⟩] := by unfold frV; rw [lo_small Bs_pos, hs_small Bs_pos]; rfl
theorem fracV_int (z : Int) : fracV (z : Rat) = frV z 0 := rfl
theorem fracV_of {q : Rat} {n : Int} {d : Nat} (hn : q.num = n) (hd : q.den = d) : fracV q = frV n (if d = 1 then 0 else d) := by subst hn hd; rfl
theorem one_o (w : World) : Calls Tryz.prog 88 #[.int .u64 1] w fun e w' => e = .returned (natV 1) ∧ Below w.heap.size w w' := of_val 1 1 rfl (by unfold Bs; omega) w
theorem zero_o (w : World) : Calls Tryz.prog 88 #[.int .u64 0] w fun e w' => e = .returned (natV 0) ∧ Below w.heap.size w w' := of_val 0 0 rfl (by unfold Bs; omega) w
theorem dec_sgn (z : Int) : decide (sgn z < 0) = decide (z < 0) := by
  have : sgn z < 0 ↔ z < 0 := by unfold sgn; split <;> (try split) <;> omega
  simp only [this]

theorem whole_raw (n : Int) (e : Nat) (w : World) : Calls Tryz.prog 89 #[frV n e] w fun x w' => x = .returned (.bool (decide (e = 0))) ∧ Below w.heap.size w w' := by
  by_cases h : e = 0
  · subst h; rw [decide_eq_true rfl]; exact whole_yes n w
  · rw [decide_eq_false h]; exact whole_no n e h w
theorem den_raw (n : Int) (e : Nat) (w : World) : Calls Tryz.prog 85 #[frV n e] w fun x w' => x = .returned (natV (if e = 0 then 1 else e)) ∧ Below w.heap.size w w' := by
  by_cases h : e = 0
  · subst h; rw [if_pos rfl]; exact den_one_w n (whole_yes n) one_o w
  · rw [if_neg h]; exact den_part_w n e (whole_no n e h) w
theorem wholeF (q : Rat) (w : World) : Calls Tryz.prog 89 #[fracV q] w fun x w' => x = .returned (.bool (decide (q.den = 1))) ∧ Below w.heap.size w w' := by
  have h := whole_raw q.num (fe q) w
  have e : (fe q = 0) = (q.den = 1) := by
    unfold fe
    have := q.den_nz
    split <;> simp_all
  rw [decide_eq_decide.2 (Iff.of_eq e)] at h
  exact h
theorem denF (q : Rat) (w : World) : Calls Tryz.prog 85 #[fracV q] w fun x w' => x = .returned (natV q.den) ∧ Below w.heap.size w w' := by
  have h := den_raw q.num (fe q) w
  rw [← fe_den] at h
  exact h
theorem numF (q : Rat) (w : World) : Calls Tryz.prog 84 #[fracV q] w fun x w' => x = .returned (intV q.num) ∧ Below w.heap.size w w' := num_w q.num (fe q) w
theorem lowest_raw (n : Int) (d : Nat) (w : World) : Calls Tryz.prog 149 #[intV n, natV d] w fun x w' => x = .returned (frV n (if d = 1 then 0 else d)) ∧ Below w.heap.size w w' := by
  by_cases h : d = 1
  · subst h; rw [if_pos rfl, frV_z]; exact lowest_one n one_o w
  · rw [if_neg h]; exact lowest_part n d one_o h w
theorem lowestF {q : Rat} {n : Int} {d : Nat} (hn : q.num = n) (hd : q.den = d) (w : World) : Calls Tryz.prog 149 #[intV n, natV d] w fun x w' => x = .returned (fracV q) ∧ Below w.heap.size w w' := by
  rw [fracV_of hn hd]; exact lowest_raw n d w
theorem pon_raw (n g : Nat) (hg : g ≠ 0) (hn : (digs n).length ≤ 100000000) (w : World) : Calls Tryz.prog 192 #[natV n, natV g] w fun x w' => x = .returned (natV (n / g)) ∧ Below w.heap.size w w' := by
  by_cases h : g = 1
  · subst h; rw [Nat.div_one]; exact pon_one n one_o w
  · exact pon_div n g (n / g) (n % g) one_o (fun w => div_pos n g (by omega) (by omega) w) h w
theorem tdiv_sgn (z : Int) (g : Nat) : z.tdiv (g : Int) = if decide (z < 0) then -((z.natAbs / g : Nat) : Int) else ((z.natAbs / g : Nat) : Int) := by
  by_cases h : z < 0
  · obtain ⟨n, rfl⟩ : ∃ n : Nat, z = -(n : Int) := ⟨z.natAbs, by omega⟩
    rw [decide_eq_true h, if_pos rfl, Int.natAbs_neg, Int.natAbs_natCast, Int.neg_tdiv, ← Int.ofNat_tdiv]
  · obtain ⟨n, rfl⟩ : ∃ n : Nat, z = (n : Int) := ⟨z.natAbs, by omega⟩
    rw [decide_eq_false h, Int.natAbs_natCast, ← Int.ofNat_tdiv]; rfl
theorem part_raw (z : Int) (g : Nat) (hg : g ≠ 0) (hz : dI z ≤ 100000000) (w : World) : Calls Tryz.prog 193 #[intV z, natV g] w fun x w' => x = .returned (intV (z.tdiv g)) ∧ Below w.heap.size w w' := by
  have hF := fun w => fromI (decide (z < 0)) (z.natAbs / g) (z.tdiv g) (tdiv_sgn z g) w
  have hs := dec_sgn z
  by_cases h : z < 0
  · rw [decide_eq_true h] at hF hs
    exact part_true z (sgn z) _ _ g _ (signI z) (absI z) (pon_raw _ g hg hz) hF hs w
  · rw [decide_eq_false h] at hF hs
    exact part_false z (sgn z) _ _ g _ (signI z) (absI z) (pon_raw _ g hg hz) hF hs w
theorem cancel_raw (z : Int) (d : Nat) (hd : d ≠ 0) (hz : dI z ≤ 100000000) (hl : (digs d).length ≤ 100000000) (w : World) :
    Calls Tryz.prog 148 #[intV z, natV d] w fun x w' => x = .returned (.tuple #[intV (z.tdiv (Nat.gcd z.natAbs d : Nat)), natV (d / Nat.gcd z.natAbs d)]) ∧ Below w.heap.size w w' := by
  have hg : Nat.gcd z.natAbs d ≠ 0 := fun e => hd (Nat.gcd_eq_zero_iff.1 e).2
  exact cancel_w z _ _ d _ _ (absI z) (fun w => gcd_any z.natAbs d (Nat.le_trans hz (by omega)) (by omega) w) (part_raw z _ hg hz) (pon_raw d _ hg hl) w
theorem times_raw (z : Int) (d : Nat) (hz : dI z ≤ 100000000) (hd : (digs d).length ≤ 100000000) (w : World) : Calls Tryz.prog 150 #[intV z, natV d] w fun x w' => x = .returned (intV (z * (d : Int))) ∧ Below w.heap.size w w' := by
  by_cases h : d = 1
  · subst h; rw [show z * ((1 : Nat) : Int) = z by omega]; exact times_one z one_o w
  · exact times_mul z (d : Int) _ d one_o (fun w => fromI false d (d : Int) rfl w) (fun w => mulI z (d : Int) (by omega) (by rw [dI_nat]; omega) w) h w
theorem intF (k : Int) (h1 : -9223372036854775808 ≤ k) (h2 : k < 9223372036854775808) (w : World) : Calls Tryz.prog 94 #[.int .i64 k] w fun x w' => x = .returned (fracV (k : Rat)) ∧ Below w.heap.size w w' := by
  rw [fracV_int, frV_z]; exact int_w k k (fun w => ofI k h1 h2 w) w
theorem from0F (n : Int) (w : World) : Calls Tryz.prog 86 #[intV n, natV 0] w fun x w' => x = .returned (.tuple #[fracV 0, .int .i64 5]) ∧ Below w.heap.size w w' := by
  rw [show fracV 0 = frV 0 0 from rfl, frV_z, (z0).1, (z0).2.1, (z0).2.2]; exact ffrom_zero n zero_o w
theorem fromF (z : Int) (d : Nat) (hd : d ≠ 0) (hz : dI z ≤ 100000000) (hl : (digs d).length ≤ 100000000) (w : World) : Calls Tryz.prog 86 #[intV z, natV d] w fun x w' => x = .returned (.tuple #[fracV (mkRat z d), .int .i64 0]) ∧ Below w.heap.size w w' := by
  obtain ⟨h1, h2⟩ := canc (z := z) hd
  exact ffrom_w z _ _ d _ _ zero_o (cancel_raw z d hd hz hl) (fun w => lowestF h1 h2 w) hd w
end Go.Proofs.YtecdnohhengfaaaGreatDoor

/-
  Layer 3: the contracts of the operations, in Lean's Rat.
-/
namespace Go.Proofs.YtecdnohhengfaaaGreatDoor
open Go.RowKit
attribute [local irreducible] lo hs sm s64 c64 d64 b64 mh ml pd pc qd qc val hiB str cmpI srD lz nb isq decB zl zh zs

theorem fracV_neg (q : Rat) : fracV (-q) = frV (-q.num) (fe q) := rfl
theorem negF (q : Rat) (w : World) : Calls Tryz.prog 71 #[fracV q] w fun x w' => x = .returned (fracV (-q)) ∧ Below w.heap.size w w' := fneg_w q.num (-q.num) (fe q) (fun w => negI q.num w) w
/-- The absolute value. -/
def absQ (q : Rat) : Rat := if q < 0 then -q else q
theorem num_neg_iff (q : Rat) : q.num < 0 ↔ q < 0 := by rw [← Rat.not_le, ← Rat.num_nonneg]; omega
theorem absQ_num (q : Rat) : (absQ q).num = (q.num.natAbs : Int) ∧ fe (absQ q) = fe q := by
  unfold absQ
  have := num_neg_iff q
  split
  · rename_i h
    have h1 := this.2 h
    exact ⟨by rw [Rat.neg_num]; omega, rfl⟩
  · rename_i h
    have h1 := mt this.1 h
    exact ⟨by omega, rfl⟩
theorem absF (q : Rat) (w : World) : Calls Tryz.prog 73 #[fracV q] w fun x w' => x = .returned (fracV (absQ q)) ∧ Below w.heap.size w w' := by
  rw [show fracV (absQ q) = frV (absQ q).num (fe (absQ q)) from rfl, (absQ_num q).1, (absQ_num q).2]
  exact fabs_w q.num (q.num.natAbs : Int) _ (fe q) (fun w => absI q.num w) (fun w => fromI false _ _ rfl w) w
theorem signF (q : Rat) (w : World) : Calls Tryz.prog 75 #[fracV q] w fun x w' => x = .returned (.int .i64 (sgnQ q)) ∧ Below w.heap.size w w' := by
  rw [sgnQ_num]; exact fsign_w q.num (sgn q.num) (fe q) (fun w => signI q.num w) w
theorem floorF (q : Rat) (k : Nat) (hq : Sz q k) (hk : k ≤ 100000000) (w : World) : Calls Tryz.prog 78 #[fracV q] w fun x w' => x = .returned (intV q.floor) ∧ Below w.heap.size w w' := by
  rw [rfloor]
  exact floor_w q.num (q.den : Int) _ (q.num % (q.den : Int)) (fe q) q.den (denF q) (fun w => fromI false q.den _ rfl w) (fun w => divI q.num (q.den : Int) (by have := q.den_nz; omega) (Nat.le_trans hq.1 (by omega)) (by rw [dI_nat]; exact Nat.le_trans hq.2 (by omega)) w) w
theorem ceilF (q : Rat) (k : Nat) (hq : Sz q k) (hk : k ≤ 100000000) (w : World) : Calls Tryz.prog 95 #[fracV q] w fun x w' => x = .returned (intV (rceil q)) ∧ Below w.heap.size w w' :=
  ceil_w q.num (-q.num) (-q).floor _ (fe q) (negF q) (floorF (-q) k hq.neg hk) (fun w => negI _ w) w
theorem cmpF (p q : Rat) (k : Nat) (hp : Sz p k) (hq : Sz q k) (hk : k ≤ 100000000) (w : World) : Calls Tryz.prog 76 #[fracV p, fracV q] w fun x w' => x = .returned (.int .i64 (cmpQ p q)) ∧ Below w.heap.size w w' := by
  rw [cmpQ_parts]
  exact fcmp_w p.num q.num _ _ _ (fe p) (fe q) p.den q.den (denF p) (denF q) (times_raw p.num q.den (Nat.le_trans hp.1 hk) (Nat.le_trans hq.2 hk)) (times_raw q.num p.den (Nat.le_trans hq.1 hk) (Nat.le_trans hp.2 hk)) (fun w => cmpII _ _ w) w
theorem squareF (q : Rat) (k : Nat) (hq : Sz q k) (hk : k ≤ 100000000) (w : World) : Calls Tryz.prog 83 #[fracV q] w fun x w' => x = .returned (fracV (q * q)) ∧ Below w.heap.size w w' := by
  obtain ⟨h1, h2⟩ := rsq_parts q
  exact fsquare_w q.num _ _ (fe q) q.den _ _ (fun w => mulI q.num q.num (Nat.le_trans hq.1 (by omega)) (Nat.le_trans hq.1 (by omega)) w) (denF q) (fun w => mul_any q.den q.den (Nat.le_trans hq.2 (by omega)) (Nat.le_trans hq.2 (by omega)) w) (fun w => lowestF h1 h2 w) w
theorem invF (q : Rat) (h0 : q ≠ 0) (w : World) : Calls Tryz.prog 143 #[fracV q] w fun x w' => x = .returned (fracV q⁻¹) ∧ Below w.heap.size w w' := by
  obtain ⟨h1, h2⟩ := rinv_parts h0
  have hs : decide (sgnQ q < 0) = decide (q.num < 0) := by
    have : sgnQ q < 0 ↔ q.num < 0 := by rw [sgnQ_num]; split <;> (try split) <;> omega
    simp only [this]
  have hF := fun w => fromI (decide (q.num < 0)) q.den (if q.num < 0 then -(q.den : Int) else (q.den : Int)) (by by_cases h : q.num < 0 <;> simp [h]) w
  by_cases h : q.num < 0
  · rw [decide_eq_true h] at hs hF
    exact finv_true q.num _ _ _ (fe q) q.den _ _ (signF q) (denF q) hF (fun w => absI q.num w) (fun w => lowestF h1 h2 w) hs w
  · rw [decide_eq_false h] at hs hF
    exact finv_false q.num _ _ _ (fe q) q.den _ _ (signF q) (denF q) hF (fun w => absI q.num w) (fun w => lowestF h1 h2 w) hs w
theorem tdiv_dI {z : Int} {g k : Nat} (h : dI z ≤ k) : dI (z.tdiv (g : Int)) ≤ k := by
  refine Nat.le_trans (dI_mono ?_) h
  rw [Int.natAbs_tdiv]; exact Nat.div_le_self _ _
theorem ndiv_digs {n g k : Nat} (h : (digs n).length ≤ k) : (digs (n / g)).length ≤ k := Nat.le_trans (digs_mono (Nat.div_le_self _ _)) h
theorem mulF (p q : Rat) (k : Nat) (hp : Sz p k) (hq : Sz q k) (hk : k ≤ 100000000) (w : World) : Calls Tryz.prog 68 #[fracV p, fracV q] w fun x w' => x = .returned (fracV (p * q)) ∧ Below w.heap.size w w' := by
  obtain ⟨h1, h2⟩ := rmul_parts p q
  rw [Nat.mul_comm] at h2
  exact fmul_w p.num q.num _ _ _ _ (fe p) (fe q) p.den q.den _ _ _ _ (denF p) (denF q) (cancel_raw p.num q.den q.den_nz (Nat.le_trans hp.1 hk) (Nat.le_trans hq.2 hk)) (cancel_raw q.num p.den p.den_nz (Nat.le_trans hq.1 hk) (Nat.le_trans hp.2 hk))
    (fun w => mulI _ _ (Nat.le_trans (tdiv_dI hp.1) (by omega)) (Nat.le_trans (tdiv_dI hq.1) (by omega)) w) (fun w => mul_any _ _ (Nat.le_trans (ndiv_digs hp.2) (by omega)) (Nat.le_trans (ndiv_digs hq.2) (by omega)) w) (fun w => lowestF h1 h2 w) w
theorem zero_i (w : World) : Calls Tryz.prog 94 #[.int .i64 0] w fun x w' => x = .returned (frV 0 0) ∧ Below w.heap.size w w' := intF 0 (by decide) (by decide) w
theorem frV_00 : frV 0 0 = .agg #[.int .u64 0, .string ⟨#[]⟩, .bool false, .int .u64 0, .string ⟨#[]⟩] := by
  rw [frV_z, (z0).1, (z0).2.1, (z0).2.2]; rfl
theorem num_ne {q : Rat} (h : q ≠ 0) : q.num ≠ 0 := fun e => h (Rat.num_eq_zero.1 e)
theorem div0F (p : Rat) (w : World) : Calls Tryz.prog 61 #[fracV p, fracV 0] w fun x w' => x = .returned (.tuple #[fracV 0, .int .i64 5]) ∧ Below w.heap.size w w' := by
  have h := fdiv_zero p.num (fe p) zero_i w
  rw [← frV_00] at h
  exact h
theorem divF (p q : Rat) (k : Nat) (hp : Sz p k) (hq : Sz q k) (hk : k ≤ 100000000) (h0 : q ≠ 0) (w : World) : Calls Tryz.prog 61 #[fracV p, fracV q] w fun x w' => x = .returned (.tuple #[fracV (p / q), .int .i64 0]) ∧ Below w.heap.size w w' := by
  rw [Rat.div_def]
  exact fdiv_w p.num q.num _ _ (fe p) (fe q) _ _ zero_i (invF q h0) (mulF p q⁻¹ k hp (hq.inv h0) hk) (num_ne h0) w
theorem addF (p q : Rat) (k : Nat) (hp : Sz p k) (hq : Sz q k) (hk : k ≤ 10000000) (w : World) : Calls Tryz.prog 64 #[fracV p, fracV q] w fun x w' => x = .returned (fracV (p + q)) ∧ Below w.heap.size w w' := by
  obtain ⟨h1, h2⟩ := radd_parts p q
  have hg : Nat.gcd p.den q.den ≠ 0 := fun e => p.den_nz (Nat.gcd_eq_zero_iff.1 e).1
  have l1 : (digs (p.den / Nat.gcd p.den q.den)).length ≤ k := ndiv_digs hp.2
  have l2 : (digs (q.den / Nat.gcd p.den q.den)).length ≤ k := ndiv_digs hq.2
  have l3 : (digs (Nat.gcd p.den q.den)).length ≤ k := Nat.le_trans (digs_mono (Nat.gcd_le_left _ p.den_pos)) hp.2
  have lx : dI (p.num * ((q.den / Nat.gcd p.den q.den : Nat) : Int)) ≤ k + k := dI_mul hp.1 (by rw [dI_nat]; exact l2)
  have ly : dI (q.num * ((p.den / Nat.gcd p.den q.den : Nat) : Int)) ≤ k + k := dI_mul hq.1 (by rw [dI_nat]; exact l1)
  have ls := dI_add lx ly
  refine fadd_w p.num q.num _ (fe p) (fe q) _ ?_ w
  exact fcombine_add p.num q.num _ _ _ _ _ (fe p) (fe q) p.den q.den _ _ _ _ _ _ _ (denF p) (denF q) (fun w => gcd_any _ _ (Nat.le_trans hp.2 (by omega)) (Nat.le_trans hq.2 (by omega)) w)
    (pon_raw _ _ hg (Nat.le_trans hp.2 (by omega))) (pon_raw _ _ hg (Nat.le_trans hq.2 (by omega))) (times_raw _ _ (Nat.le_trans hp.1 (by omega)) (by omega)) (times_raw _ _ (Nat.le_trans hq.1 (by omega)) (by omega))
    (fun w => addI _ _ (by omega) (by omega) w) (cancel_raw _ _ hg (by omega) (by omega)) (fun w => mul_any _ _ (by omega) (by omega) w)
    (fun w => mul_any _ _ (Nat.le_trans (digs_mul_le l1 l2) (by omega)) (Nat.le_trans (ndiv_digs l3) (by omega)) w) (fun w => lowestF h1 h2 w)
theorem subF (p q : Rat) (k : Nat) (hp : Sz p k) (hq : Sz q k) (hk : k ≤ 10000000) (w : World) : Calls Tryz.prog 66 #[fracV p, fracV q] w fun x w' => x = .returned (fracV (p - q)) ∧ Below w.heap.size w w' := by
  have hp' := radd_parts p (-q)
  rw [← Rat.sub_eq_add_neg, Rat.neg_num, Rat.neg_den, Int.neg_mul, ← Int.sub_eq_add_neg] at hp'
  obtain ⟨h1, h2⟩ := hp'
  have hg : Nat.gcd p.den q.den ≠ 0 := fun e => p.den_nz (Nat.gcd_eq_zero_iff.1 e).1
  have l1 : (digs (p.den / Nat.gcd p.den q.den)).length ≤ k := ndiv_digs hp.2
  have l2 : (digs (q.den / Nat.gcd p.den q.den)).length ≤ k := ndiv_digs hq.2
  have l3 : (digs (Nat.gcd p.den q.den)).length ≤ k := Nat.le_trans (digs_mono (Nat.gcd_le_left _ p.den_pos)) hp.2
  have lx : dI (p.num * ((q.den / Nat.gcd p.den q.den : Nat) : Int)) ≤ k + k := dI_mul hp.1 (by rw [dI_nat]; exact l2)
  have ly : dI (q.num * ((p.den / Nat.gcd p.den q.den : Nat) : Int)) ≤ k + k := dI_mul hq.1 (by rw [dI_nat]; exact l1)
  have ls := dI_sub lx ly
  refine fsub_w p.num q.num _ (fe p) (fe q) _ ?_ w
  exact fcombine_sub p.num q.num _ _ _ _ _ (fe p) (fe q) p.den q.den _ _ _ _ _ _ _ (denF p) (denF q) (fun w => gcd_any _ _ (Nat.le_trans hp.2 (by omega)) (Nat.le_trans hq.2 (by omega)) w)
    (pon_raw _ _ hg (Nat.le_trans hp.2 (by omega))) (pon_raw _ _ hg (Nat.le_trans hq.2 (by omega))) (times_raw _ _ (Nat.le_trans hp.1 (by omega)) (by omega)) (times_raw _ _ (Nat.le_trans hq.1 (by omega)) (by omega))
    (fun w => subI _ _ (by omega) (by omega) w) (cancel_raw _ _ hg (by omega) (by omega)) (fun w => mul_any _ _ (by omega) (by omega) w)
    (fun w => mul_any _ _ (Nat.le_trans (digs_mul_le l1 l2) (by omega)) (Nat.le_trans (ndiv_digs l3) (by omega)) w) (fun w => lowestF h1 h2 w)
theorem of_val_q (n d : Int) (h0 : d ≠ 0) : mkRat (if d < 0 then -n else n) d.natAbs = (n : Rat) / (d : Rat) := by
  rw [Rat.mkRat_eq_div]
  by_cases h : d < 0
  · rw [if_pos h]
    have e : ((d.natAbs : Nat) : Rat) = -(d : Rat) := by
      rw [show ((d.natAbs : Nat) : Rat) = (((d.natAbs : Nat) : Int) : Rat) from (Rat.intCast_natCast _).symm, show ((d.natAbs : Nat) : Int) = -d by omega, Rat.intCast_neg]
    rw [e, Rat.intCast_neg]
    have hd : (d : Rat) ≠ 0 := by simpa using h0
    grind
  · rw [if_neg h, show ((d.natAbs : Nat) : Rat) = (((d.natAbs : Nat) : Int) : Rat) from (Rat.intCast_natCast _).symm, show ((d.natAbs : Nat) : Int) = d by omega]
theorem i64_dI {z : Int} (h1 : -9223372036854775808 ≤ z) (h2 : z < 9223372036854775808) : dI z ≤ 1 := digs_length_iff.2 (by unfold Bs; omega)
theorem ofF (n d : Int) (a1 : -9223372036854775808 ≤ n) (a2 : n < 9223372036854775808) (b1 : -9223372036854775808 ≤ d) (b2 : d < 9223372036854775808) (h0 : d ≠ 0) (w : World) :
    Calls Tryz.prog 93 #[.int .i64 n, .int .i64 d] w fun x w' => x = .returned (.tuple #[fracV ((n : Rat) / (d : Rat)), .int .i64 0]) ∧ Below w.heap.size w w' := by
  rw [← of_val_q n d h0]
  have hs := dec_sgn d
  have ln := i64_dI a1 a2
  have ld : (digs d.natAbs).length ≤ 1 := i64_dI b1 b2
  by_cases h : d < 0
  · rw [decide_eq_true h] at hs
    rw [if_pos h]
    exact fof_true n d (sgn d) (-n) _ n d _ _ 0 (fun w => ofI n a1 a2 w) (fun w => ofI d b1 b2 w) (signI d) (fun w => negI n w) (absI d) (fromF (-n) d.natAbs (by omega) (by rw [dI_neg]; omega) (by omega)) hs w
  · rw [decide_eq_false h] at hs
    rw [if_neg h]
    exact fof_false n d (sgn d) n _ n d _ _ 0 (fun w => ofI n a1 a2 w) (fun w => ofI d b1 b2 w) (signI d) (absI d) (fromF n d.natAbs (by omega) (by omega) (by omega)) hs w
theorem of0F (n : Int) (a1 : -9223372036854775808 ≤ n) (a2 : n < 9223372036854775808) (w : World) :
    Calls Tryz.prog 93 #[.int .i64 n, .int .i64 0] w fun x w' => x = .returned (.tuple #[fracV 0, .int .i64 5]) ∧ Below w.heap.size w w' :=
  fof_false n 0 (sgn 0) n 0 n 0 0 0 5 (fun w => ofI n a1 a2 w) (fun w => ofI 0 (by decide) (by decide) w) (signI 0) (absI 0) (from0F n) (by decide) w
end Go.Proofs.YtecdnohhengfaaaGreatDoor
