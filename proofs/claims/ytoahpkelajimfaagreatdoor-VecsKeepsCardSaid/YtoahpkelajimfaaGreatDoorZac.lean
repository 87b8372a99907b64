/-
  The law answers true at every input, and leaves its arguments as they were: a part of the proof. CONDITIONS: the package-level tables start as the program's text lays them (the card ties them).
-/
import Derived.Test.YtoahpkelajimfaaGreatDoorZab
import Derived.Test.YtoahpkelajimfaaGreatDoorRows
set_option linter.unusedVariables false
set_option linter.unusedSimpArgs false
namespace Go.Proofs.YtoahpkelajimfaaGreatDoor
open Go.RowKit
attribute [local irreducible] lo hs sm s64 c64 d64 b64 mh ml pd pc qd qc val hiB str cmpI srD lz nb zl zh zs
set_option maxHeartbeats 4000000 in
set_option maxRecDepth 100000 in
theorem whole_yes (n : Int) (w : World) :
  Calls Tryz.prog 65 #[frV n 0] w fun xe w' => xe = .returned (.bool true) ∧ Below w.heap.size w w' := by
 have hL0 : GL w w [] := GL.start w
 have e0 : (((lo 0 : Nat) : Int) == 0) = true := by rw [lo_small Bs_pos]; rfl
 have e1 : ((hs 0).toList == []) = true := by rw [hs_small Bs_pos, ByteArray.toList_eq]; rfl
 replace hL0 := (hL0.new rfl [.int .u64 ((zl n : Nat) : Int), .string (zh n), .bool (zs n), .int .u64 ((lo 0 : Nat) : Int), .string (hs 0)] 38)
 generalize hweq : (w.alloc (.cells #[.int .u64 ((zl n : Nat) : Int), .string (zh n), .bool (zs n), .int .u64 ((lo 0 : Nat) : Int), .string (hs 0)] 38)) = x1 at hL0
 go_enter Tryz.func65, Tryz.ntmps65
 have hN0 := cells_of _ 0 [] rfl (hL0.get _ _ List.mem_cons_self)
 simp only [cellsF, and_true, Nat.zero_add, Nat.reduceAdd] at hN0
 go_wp2_with fail
 exact bodyPost_ret (v := .bool true) (by simp [results, Tryz.results65, go_sem, hN0]) rfl ⟨rfl, hL0.bl⟩
set_option maxHeartbeats 4000000 in
set_option maxRecDepth 100000 in
theorem whole_no (n : Int) (e : Nat) (he : e ≠ 0) (w : World) :
  Calls Tryz.prog 65 #[frV n e] w fun xe w' => xe = .returned (.bool false) ∧ Below w.heap.size w w' := by
 have hL0 : GL w w [] := GL.start w
 have hz := ne0 he
 clear he
 rcases hz with e0 | ⟨e0, e1⟩
 all_goals (
  replace hL0 := (hL0.new rfl [.int .u64 ((zl n : Nat) : Int), .string (zh n), .bool (zs n), .int .u64 ((lo e : Nat) : Int), .string (hs e)] 38)
  generalize hweq : (w.alloc (.cells #[.int .u64 ((zl n : Nat) : Int), .string (zh n), .bool (zs n), .int .u64 ((lo e : Nat) : Int), .string (hs e)] 38)) = x1 at hL0
  go_enter Tryz.func65, Tryz.ntmps65
  have hN0 := cells_of _ 0 [] rfl (hL0.get _ _ List.mem_cons_self)
  simp only [cellsF, and_true, Nat.zero_add, Nat.reduceAdd] at hN0
  go_wp2_with fail
  exact bodyPost_ret (v := .bool false) (by simp [results, Tryz.results65, go_sem, hN0]) rfl ⟨rfl, hL0.bl⟩)
set_option maxHeartbeats 4000000 in
set_option maxRecDepth 100000 in
theorem den_one_w (n : Int) (HW : RT 65 #[frV n 0] (.bool true)) (HO : RT 125 #[.int .u64 1] (natV 1)) (w : World) :
  Calls Tryz.prog 83 #[frV n 0] w fun xe w' => xe = .returned (natV 1) ∧ Below w.heap.size w w' := by
 have hL0 : GL w w [] := GL.start w
 replace HW := Lib.hid HW
 replace HO := Lib.hid HO
 replace hL0 := ((hL0.new rfl [.int .u64 ((zl n : Nat) : Int), .string (zh n), .bool (zs n), .int .u64 ((lo 0 : Nat) : Int), .string (hs 0)] 38).new (K := w.heap.size + 1) (szA _ _) [.int .u64 0, .string ⟨#[]⟩] 34)
 generalize hweq : ((w.alloc (.cells #[.int .u64 ((zl n : Nat) : Int), .string (zh n), .bool (zs n), .int .u64 ((lo 0 : Nat) : Int), .string (hs 0)] 38)).alloc (.cells #[.int .u64 0, .string ⟨#[]⟩] 34)) = x1 at hL0
 go_enter Tryz.func83, Tryz.ntmps83
 have hN0 := cells_of _ 0 [] rfl (hL0.get _ _ (List.mem_cons_of_mem _ List.mem_cons_self))
 simp only [cellsF, and_true, Nat.zero_add, Nat.reduceAdd] at hN0
 go_wp2_with fail
 clear hN0
 with_reducible refine Calls.mono (HW.out _) ?_
 rintro e x2 ⟨rfl, hb⟩
 replace hL0 := hL0.call hb
 clear hb hweq
 go_wp2_with fail
 with_reducible refine Calls.mono (HO.out _) ?_
 rintro e x3 ⟨rfl, hb⟩
 replace hL0 := hL0.call hb
 clear hb
 have hA := hL0.fc
 simp only [fcG, cellsF, neK, and_true, ne_eq, Nat.zero_add, Nat.reduceAdd] at hA
 have hP := hL0.put 0 (w.heap.size + 1) _ rfl [.int .u64 ((lo 1 : Nat) : Int), .string (hs 1)] rfl
 simp only [setAll, List.set_cons_zero, List.set_cons_succ] at hP
 generalize hput1 : ((x3.setCell ⟨w.heap.size + 1, 0, none⟩ (.int .u64 ((lo 1 : Nat) : Int))).setCell ⟨w.heap.size + 1, 1, none⟩ (.string (hs 1))) = x4 at hP
 have hB1 := hP.fc
 simp only [fcG, cellsF, neK, and_true, ne_eq, Nat.zero_add, Nat.reduceAdd] at hB1
 replace hL0 := hP
 go_wp2_with fail
 exact bodyPost_ret (v := natV 1) (by simp [results, Tryz.results83, go_sem, hB1]) rfl ⟨rfl, hL0.bl⟩
set_option maxHeartbeats 4000000 in
set_option maxRecDepth 100000 in
theorem den_part_w (n : Int) (e : Nat) (HW : RT 65 #[frV n e] (.bool false)) (w : World) :
  Calls Tryz.prog 83 #[frV n e] w fun xe w' => xe = .returned (natV e) ∧ Below w.heap.size w w' := by
 have hL0 : GL w w [] := GL.start w
 replace HW := Lib.hid HW
 replace hL0 := ((hL0.new rfl [.int .u64 ((zl n : Nat) : Int), .string (zh n), .bool (zs n), .int .u64 ((lo e : Nat) : Int), .string (hs e)] 38).new (K := w.heap.size + 1) (szA _ _) [.int .u64 0, .string ⟨#[]⟩] 34)
 generalize hweq : ((w.alloc (.cells #[.int .u64 ((zl n : Nat) : Int), .string (zh n), .bool (zs n), .int .u64 ((lo e : Nat) : Int), .string (hs e)] 38)).alloc (.cells #[.int .u64 0, .string ⟨#[]⟩] 34)) = x1 at hL0
 go_enter Tryz.func83, Tryz.ntmps83
 have hN0 := cells_of _ 0 [] rfl (hL0.get _ _ (List.mem_cons_of_mem _ List.mem_cons_self))
 simp only [cellsF, and_true, Nat.zero_add, Nat.reduceAdd] at hN0
 go_wp2_with fail
 clear hN0
 with_reducible refine Calls.mono (HW.out _) ?_
 rintro e x2 ⟨rfl, hb⟩
 replace hL0 := hL0.call hb
 clear hb hweq
 have hA := hL0.fc
 simp only [fcG, cellsF, neK, and_true, ne_eq, Nat.zero_add, Nat.reduceAdd] at hA
 have hP := hL0.put 0 (w.heap.size + 1) _ rfl [.int .u64 ((lo e : Nat) : Int), .string (hs e)] rfl
 simp only [setAll, List.set_cons_zero, List.set_cons_succ] at hP
 generalize hput1 : ((x2.setCell ⟨w.heap.size + 1, 0, none⟩ (.int .u64 ((lo e : Nat) : Int))).setCell ⟨w.heap.size + 1, 1, none⟩ (.string (hs e))) = x3 at hP
 have hB1 := hP.fc
 simp only [fcG, cellsF, neK, and_true, ne_eq, Nat.zero_add, Nat.reduceAdd] at hB1
 replace hL0 := hP
 go_wp2_with fail
 exact bodyPost_ret (v := natV e) (by simp [results, Tryz.results83, go_sem, hB1]) rfl ⟨rfl, hL0.bl⟩
set_option maxHeartbeats 4000000 in
set_option maxRecDepth 100000 in
theorem lowest_one (n : Int) (HO : RT 125 #[.int .u64 1] (natV 1)) (w : World) :
  Calls Tryz.prog 84 #[intV n, natV 1] w fun xe w' => xe = .returned (.agg #[.int .u64 ((zl n : Nat) : Int), .string (zh n), .bool (zs n), .int .u64 0, .string ⟨#[]⟩]) ∧ Below w.heap.size w w' := by
 have hL0 : GL w w [] := GL.start w
 replace HO := Lib.hid HO
 replace hL0 := (((hL0.new rfl [.int .u64 ((zl n : Nat) : Int), .string (zh n), .bool (zs n)] 36).new (K := w.heap.size + 1) (szA _ _) [.int .u64 ((lo 1 : Nat) : Int), .string (hs 1)] 34).new (K := w.heap.size + 1 + 1) (by simp only [World.size_alloc]) [.int .u64 0, .string ⟨#[]⟩, .bool false, .int .u64 0, .string ⟨#[]⟩] 38)
 generalize hweq : (((w.alloc (.cells #[.int .u64 ((zl n : Nat) : Int), .string (zh n), .bool (zs n)] 36)).alloc (.cells #[.int .u64 ((lo 1 : Nat) : Int), .string (hs 1)] 34)).alloc (.cells #[.int .u64 0, .string ⟨#[]⟩, .bool false, .int .u64 0, .string ⟨#[]⟩] 38)) = x1 at hL0
 go_enter Tryz.func84, Tryz.ntmps84
 go_upto_region 1 with fail
 clear hweq
 obtain ⟨α, iα, F, hF1, hF2⟩ := cls x1
 have hq0 := cls_box hF1 hL0 _ _ (List.mem_cons_of_mem _ List.mem_cons_self)
 simp only [cellsC, and_true, Nat.zero_add, Nat.reduceAdd] at hq0
 refine region_qs 3 (C := fun w' => ∃ x, w' = F x) (by kernel_rfl) (by kernel_rfl) (cls_drew hF2) ?_
 simp only [List.take_succ_cons, List.take_zero, List.drop_succ_cons, List.drop_zero, List.take_nil, List.drop_nil]
 repeat (go_big_quiet_step (first | fail | (go_at_call 125; with_reducible exact cls_call hF1 hF2 HO.out _)))
 refine wpQuiet_nil ?_
 rintro wq ⟨xq, rfl⟩
 replace hL0 := hL0.call (hF1 xq)
 clear  hq0 hF2
 generalize F xq = x2 at hL0 ⊢
 clear hF1 xq iα F α
 have hA := hL0.fc
 simp only [fcG, cellsF, neK, and_true, ne_eq, Nat.zero_add, Nat.reduceAdd] at hA
 have hP := hL0.put 0 (w.heap.size + 1 + 1) _ rfl [.int .u64 ((zl n : Nat) : Int), .string (zh n), .bool (zs n), .int .u64 0, .string ⟨#[]⟩] rfl
 simp only [setAll, List.set_cons_zero, List.set_cons_succ] at hP
 generalize hput1 : (((((x2.setCell ⟨w.heap.size + 1 + 1, 0, none⟩ (.int .u64 ((zl n : Nat) : Int))).setCell ⟨w.heap.size + 1 + 1, 1, none⟩ (.string (zh n))).setCell ⟨w.heap.size + 1 + 1, 2, none⟩ (.bool (zs n))).setCell ⟨w.heap.size + 1 + 1, 3, none⟩ (.int .u64 0)).setCell ⟨w.heap.size + 1 + 1, 4, none⟩ (.string ⟨#[]⟩)) = x3 at hP
 have hB1 := hP.fc
 simp only [fcG, cellsF, neK, and_true, ne_eq, Nat.zero_add, Nat.reduceAdd] at hB1
 replace hL0 := hP
 go_wp2_with fail
 exact bodyPost_ret (v := .agg #[.int .u64 ((zl n : Nat) : Int), .string (zh n), .bool (zs n), .int .u64 0, .string ⟨#[]⟩]) (by simp [results, Tryz.results84, go_sem, hB1]) rfl ⟨rfl, hL0.bl⟩
set_option maxHeartbeats 4000000 in
set_option maxRecDepth 100000 in
theorem lowest_part (n : Int) (d : Nat) (HO : RT 125 #[.int .u64 1] (natV 1)) (hd : d ≠ 1) (w : World) :
  Calls Tryz.prog 84 #[intV n, natV d] w fun xe w' => xe = .returned (frV n d) ∧ Below w.heap.size w w' := by
 have hL0 : GL w w [] := GL.start w
 replace HO := Lib.hid HO
 have hz := ne_nat hd
 clear hd
 rcases hz with e0 | ⟨e0, e1⟩
 all_goals (
  replace hL0 := (((hL0.new rfl [.int .u64 ((zl n : Nat) : Int), .string (zh n), .bool (zs n)] 36).new (K := w.heap.size + 1) (szA _ _) [.int .u64 ((lo d : Nat) : Int), .string (hs d)] 34).new (K := w.heap.size + 1 + 1) (by simp only [World.size_alloc]) [.int .u64 0, .string ⟨#[]⟩, .bool false, .int .u64 0, .string ⟨#[]⟩] 38)
  generalize hweq : (((w.alloc (.cells #[.int .u64 ((zl n : Nat) : Int), .string (zh n), .bool (zs n)] 36)).alloc (.cells #[.int .u64 ((lo d : Nat) : Int), .string (hs d)] 34)).alloc (.cells #[.int .u64 0, .string ⟨#[]⟩, .bool false, .int .u64 0, .string ⟨#[]⟩] 38)) = x1 at hL0
  go_enter Tryz.func84, Tryz.ntmps84
  go_upto_region 1 with fail
  clear hweq
  obtain ⟨α, iα, F, hF1, hF2⟩ := cls x1
  have hq0 := cls_box hF1 hL0 _ _ (List.mem_cons_of_mem _ List.mem_cons_self)
  simp only [cellsC, and_true, Nat.zero_add, Nat.reduceAdd] at hq0
  refine region_qs 3 (C := fun w' => ∃ x, w' = F x) (by kernel_rfl) (by kernel_rfl) (cls_drew hF2) ?_
  simp only [List.take_succ_cons, List.take_zero, List.drop_succ_cons, List.drop_zero, List.take_nil, List.drop_nil]
  repeat (go_big_quiet_step (first | fail | (go_at_call 125; with_reducible exact cls_call hF1 hF2 HO.out _)))
  refine wpQuiet_nil ?_
  rintro wq ⟨xq, rfl⟩
  replace hL0 := hL0.call (hF1 xq)
  clear  hq0 hF2
  generalize F xq = x2 at hL0 ⊢
  clear hF1 xq iα F α
  have hA := hL0.fc
  simp only [fcG, cellsF, neK, and_true, ne_eq, Nat.zero_add, Nat.reduceAdd] at hA
  have hP := hL0.put 0 (w.heap.size + 1 + 1) _ rfl [.int .u64 ((zl n : Nat) : Int), .string (zh n), .bool (zs n), .int .u64 ((lo d : Nat) : Int), .string (hs d)] rfl
  simp only [setAll, List.set_cons_zero, List.set_cons_succ] at hP
  generalize hput1 : (((((x2.setCell ⟨w.heap.size + 1 + 1, 0, none⟩ (.int .u64 ((zl n : Nat) : Int))).setCell ⟨w.heap.size + 1 + 1, 1, none⟩ (.string (zh n))).setCell ⟨w.heap.size + 1 + 1, 2, none⟩ (.bool (zs n))).setCell ⟨w.heap.size + 1 + 1, 3, none⟩ (.int .u64 ((lo d : Nat) : Int))).setCell ⟨w.heap.size + 1 + 1, 4, none⟩ (.string (hs d))) = x3 at hP
  have hB1 := hP.fc
  simp only [fcG, cellsF, neK, and_true, ne_eq, Nat.zero_add, Nat.reduceAdd] at hB1
  replace hL0 := hP
  go_wp2_with fail
  exact bodyPost_ret (v := frV n d) (by simp [results, Tryz.results84, go_sem, hB1]) rfl ⟨rfl, hL0.bl⟩)
set_option maxHeartbeats 4000000 in
set_option maxRecDepth 100000 in
theorem pon_one (n : Nat) (HO : RT 125 #[.int .u64 1] (natV 1)) (w : World) :
  Calls Tryz.prog 127 #[natV n, natV 1] w fun xe w' => xe = .returned (natV n) ∧ Below w.heap.size w w' := by
 have hL0 : GL w w [] := GL.start w
 replace HO := Lib.hid HO
 replace hL0 := (((hL0.new rfl [.int .u64 ((lo n : Nat) : Int), .string (hs n)] 34).new (K := w.heap.size + 1) (szA _ _) [.int .u64 ((lo 1 : Nat) : Int), .string (hs 1)] 34).new (K := w.heap.size + 1 + 1) (by simp only [World.size_alloc]) [.int .u64 0, .string ⟨#[]⟩] 34)
 generalize hweq : (((w.alloc (.cells #[.int .u64 ((lo n : Nat) : Int), .string (hs n)] 34)).alloc (.cells #[.int .u64 ((lo 1 : Nat) : Int), .string (hs 1)] 34)).alloc (.cells #[.int .u64 0, .string ⟨#[]⟩] 34)) = x1 at hL0
 go_enter Tryz.func127, Tryz.ntmps127
 go_upto_region 1 with fail
 clear hweq
 obtain ⟨α, iα, F, hF1, hF2⟩ := cls x1
 have hq0 := cls_box hF1 hL0 _ _ (List.mem_cons_of_mem _ List.mem_cons_self)
 simp only [cellsC, and_true, Nat.zero_add, Nat.reduceAdd] at hq0
 refine region_qs 3 (C := fun w' => ∃ x, w' = F x) (by kernel_rfl) (by kernel_rfl) (cls_drew hF2) ?_
 simp only [List.take_succ_cons, List.take_zero, List.drop_succ_cons, List.drop_zero, List.take_nil, List.drop_nil]
 repeat (go_big_quiet_step (first | fail | (go_at_call 125; with_reducible exact cls_call hF1 hF2 HO.out _)))
 refine wpQuiet_nil ?_
 rintro wq ⟨xq, rfl⟩
 replace hL0 := hL0.call (hF1 xq)
 clear  hq0 hF2
 generalize F xq = x2 at hL0 ⊢
 clear hF1 xq iα F α
 have hA := hL0.fc
 simp only [fcG, cellsF, neK, and_true, ne_eq, Nat.zero_add, Nat.reduceAdd] at hA
 have hP := hL0.put 0 (w.heap.size + 1 + 1) _ rfl [.int .u64 ((lo n : Nat) : Int), .string (hs n)] rfl
 simp only [setAll, List.set_cons_zero, List.set_cons_succ] at hP
 generalize hput1 : ((x2.setCell ⟨w.heap.size + 1 + 1, 0, none⟩ (.int .u64 ((lo n : Nat) : Int))).setCell ⟨w.heap.size + 1 + 1, 1, none⟩ (.string (hs n))) = x3 at hP
 have hB1 := hP.fc
 simp only [fcG, cellsF, neK, and_true, ne_eq, Nat.zero_add, Nat.reduceAdd] at hB1
 replace hL0 := hP
 go_wp2_with fail
 exact bodyPost_ret (v := natV n) (by simp [results, Tryz.results127, go_sem, hB1]) rfl ⟨rfl, hL0.bl⟩
set_option maxHeartbeats 4000000 in
set_option maxRecDepth 100000 in
theorem pon_div (n d q r : Nat) (HO : RT 125 #[.int .u64 1] (natV 1)) (HD : RT 158 #[natV n, natV d] (.tuple #[natV q, natV r, .bool true])) (hd : d ≠ 1) (w : World) :
  Calls Tryz.prog 127 #[natV n, natV d] w fun xe w' => xe = .returned (natV q) ∧ Below w.heap.size w w' := by
 have hL0 : GL w w [] := GL.start w
 replace HO := Lib.hid HO
 replace HD := Lib.hid HD
 have hz := ne_nat hd
 clear hd
 rcases hz with e0 | ⟨e0, e1⟩
 all_goals (
  replace hL0 := (((hL0.new rfl [.int .u64 ((lo n : Nat) : Int), .string (hs n)] 34).new (K := w.heap.size + 1) (szA _ _) [.int .u64 ((lo d : Nat) : Int), .string (hs d)] 34).new (K := w.heap.size + 1 + 1) (by simp only [World.size_alloc]) [.int .u64 0, .string ⟨#[]⟩] 34)
  generalize hweq : (((w.alloc (.cells #[.int .u64 ((lo n : Nat) : Int), .string (hs n)] 34)).alloc (.cells #[.int .u64 ((lo d : Nat) : Int), .string (hs d)] 34)).alloc (.cells #[.int .u64 0, .string ⟨#[]⟩] 34)) = x1 at hL0
  go_enter Tryz.func127, Tryz.ntmps127
  go_upto_region 1 with fail
  clear hweq
  obtain ⟨α, iα, F, hF1, hF2⟩ := cls x1
  have hq0 := cls_box hF1 hL0 _ _ (List.mem_cons_of_mem _ List.mem_cons_self)
  simp only [cellsC, and_true, Nat.zero_add, Nat.reduceAdd] at hq0
  refine region_qs 3 (C := fun w' => ∃ x, w' = F x) (by kernel_rfl) (by kernel_rfl) (cls_drew hF2) ?_
  simp only [List.take_succ_cons, List.take_zero, List.drop_succ_cons, List.drop_zero, List.take_nil, List.drop_nil]
  repeat (go_big_quiet_step (first | fail | (go_at_call 125; with_reducible exact cls_call hF1 hF2 HO.out _)))
  refine wpQuiet_nil ?_
  rintro wq ⟨xq, rfl⟩
  replace hL0 := hL0.call (hF1 xq)
  clear  hq0 hF2
  generalize F xq = x2 at hL0 ⊢
  clear hF1 xq iα F α
  have hN0 := cells_of _ 0 [] rfl (hL0.get _ _ (List.mem_cons_of_mem _ List.mem_cons_self))
  simp only [cellsF, and_true, Nat.zero_add, Nat.reduceAdd] at hN0
  have hN1 := cells_of _ 0 [] rfl (hL0.get _ _ (List.mem_cons_of_mem _ (List.mem_cons_of_mem _ List.mem_cons_self)))
  simp only [cellsF, and_true, Nat.zero_add, Nat.reduceAdd] at hN1
  go_wp2_with fail
  clear hN0 hN1
  with_reducible refine Calls.mono (HD.out _) ?_
  rintro e x3 ⟨rfl, hb⟩
  replace hL0 := hL0.call hb
  clear hb
  replace hL0 := ((hL0.new rfl [.int .u64 ((lo q : Nat) : Int), .string (hs q)] 34).new (K := x3.heap.size + 1) (szA _ _) [.int .u64 ((lo r : Nat) : Int), .string (hs r)] 34)
  generalize hweq : ((x3.alloc (.cells #[.int .u64 ((lo q : Nat) : Int), .string (hs q)] 34)).alloc (.cells #[.int .u64 ((lo r : Nat) : Int), .string (hs r)] 34)) = x4 at hL0
  have hA := hL0.fc
  simp only [fcG, cellsF, neK, and_true, ne_eq, Nat.zero_add, Nat.reduceAdd] at hA
  have hP := hL0.put 2 (w.heap.size + 1 + 1) _ rfl [.int .u64 ((lo q : Nat) : Int), .string (hs q)] rfl
  simp only [setAll, List.set_cons_zero, List.set_cons_succ] at hP
  generalize hput1 : ((x4.setCell ⟨w.heap.size + 1 + 1, 0, none⟩ (.int .u64 ((lo q : Nat) : Int))).setCell ⟨w.heap.size + 1 + 1, 1, none⟩ (.string (hs q))) = x5 at hP
  have hB1 := hP.fc
  simp only [fcG, cellsF, neK, and_true, ne_eq, Nat.zero_add, Nat.reduceAdd] at hB1
  replace hL0 := hP
  go_wp2_with fail
  exact bodyPost_ret (v := natV q) (by simp [results, Tryz.results127, go_sem, hB1]) rfl ⟨rfl, hL0.bl⟩)
set_option maxHeartbeats 4000000 in
set_option maxRecDepth 100000 in
theorem part_true (z s u : Int) (a g q : Nat) (HS : RT 95 #[intV z] (.int .i64 s)) (HA : RT 97 #[intV z] (natV a)) (HP : RT 127 #[natV a, natV g] (natV q)) (HF : RT 96 #[.bool true, natV q] (intV u)) (hsg : decide (s < 0) = true) (w : World) :
  Calls Tryz.prog 131 #[intV z, natV g] w fun xe w' => xe = .returned (intV u) ∧ Below w.heap.size w w' := by
 have hL0 : GL w w [] := GL.start w
 replace HS := Lib.hid HS
 replace HA := Lib.hid HA
 replace HP := Lib.hid HP
 replace HF := Lib.hid HF
 replace hL0 := (((hL0.new rfl [.int .u64 ((zl z : Nat) : Int), .string (zh z), .bool (zs z)] 36).new (K := w.heap.size + 1) (szA _ _) [.int .u64 ((lo g : Nat) : Int), .string (hs g)] 34).new (K := w.heap.size + 1 + 1) (by simp only [World.size_alloc]) [.int .u64 0, .string ⟨#[]⟩, .bool false] 36)
 generalize hweq : (((w.alloc (.cells #[.int .u64 ((zl z : Nat) : Int), .string (zh z), .bool (zs z)] 36)).alloc (.cells #[.int .u64 ((lo g : Nat) : Int), .string (hs g)] 34)).alloc (.cells #[.int .u64 0, .string ⟨#[]⟩, .bool false] 36)) = x1 at hL0
 go_enter Tryz.func131, Tryz.ntmps131
 go_upto_region 1 with fail
 clear hweq
 obtain ⟨α, iα, F, hF1, hF2⟩ := cls x1
 have hq0 := cls_box hF1 hL0 _ _ (List.mem_cons_of_mem _ List.mem_cons_self)
 simp only [cellsC, and_true, Nat.zero_add, Nat.reduceAdd] at hq0
 have hq1 := cls_box hF1 hL0 _ _ (List.mem_cons_of_mem _ (List.mem_cons_of_mem _ List.mem_cons_self))
 simp only [cellsC, and_true, Nat.zero_add, Nat.reduceAdd] at hq1
 refine region_qs 8 (C := fun w' => ∃ x, w' = F x) (by kernel_rfl) (by kernel_rfl) (cls_drew hF2) ?_
 simp only [List.take_succ_cons, List.take_zero, List.drop_succ_cons, List.drop_zero, List.take_nil, List.drop_nil]
 repeat (go_big_quiet_step (first | fail | (go_at_call 95; with_reducible exact cls_call hF1 hF2 HS.out _) | (go_at_call 97; with_reducible exact cls_call hF1 hF2 HA.out _) | (go_at_call 127; with_reducible exact cls_call hF1 hF2 HP.out _) | (go_at_call 96; with_reducible exact cls_call hF1 hF2 HF.out _)))
 refine wpQuiet_nil ?_
 rintro wq ⟨xq, rfl⟩
 replace hL0 := hL0.call (hF1 xq)
 clear  hq0 hq1 hF2
 generalize F xq = x2 at hL0 ⊢
 clear hF1 xq iα F α
 have hA := hL0.fc
 simp only [fcG, cellsF, neK, and_true, ne_eq, Nat.zero_add, Nat.reduceAdd] at hA
 have hP := hL0.put 0 (w.heap.size + 1 + 1) _ rfl [.int .u64 ((zl u : Nat) : Int), .string (zh u), .bool (zs u)] rfl
 simp only [setAll, List.set_cons_zero, List.set_cons_succ] at hP
 generalize hput1 : (((x2.setCell ⟨w.heap.size + 1 + 1, 0, none⟩ (.int .u64 ((zl u : Nat) : Int))).setCell ⟨w.heap.size + 1 + 1, 1, none⟩ (.string (zh u))).setCell ⟨w.heap.size + 1 + 1, 2, none⟩ (.bool (zs u))) = x3 at hP
 have hB1 := hP.fc
 simp only [fcG, cellsF, neK, and_true, ne_eq, Nat.zero_add, Nat.reduceAdd] at hB1
 replace hL0 := hP
 go_wp2_with fail
 exact bodyPost_ret (v := intV u) (by simp [results, Tryz.results131, go_sem, hB1]) rfl ⟨rfl, hL0.bl⟩
set_option maxHeartbeats 4000000 in
set_option maxRecDepth 100000 in
theorem part_false (z s u : Int) (a g q : Nat) (HS : RT 95 #[intV z] (.int .i64 s)) (HA : RT 97 #[intV z] (natV a)) (HP : RT 127 #[natV a, natV g] (natV q)) (HF : RT 96 #[.bool false, natV q] (intV u)) (hsg : decide (s < 0) = false) (w : World) :
  Calls Tryz.prog 131 #[intV z, natV g] w fun xe w' => xe = .returned (intV u) ∧ Below w.heap.size w w' := by
 have hL0 : GL w w [] := GL.start w
 replace HS := Lib.hid HS
 replace HA := Lib.hid HA
 replace HP := Lib.hid HP
 replace HF := Lib.hid HF
 replace hL0 := (((hL0.new rfl [.int .u64 ((zl z : Nat) : Int), .string (zh z), .bool (zs z)] 36).new (K := w.heap.size + 1) (szA _ _) [.int .u64 ((lo g : Nat) : Int), .string (hs g)] 34).new (K := w.heap.size + 1 + 1) (by simp only [World.size_alloc]) [.int .u64 0, .string ⟨#[]⟩, .bool false] 36)
 generalize hweq : (((w.alloc (.cells #[.int .u64 ((zl z : Nat) : Int), .string (zh z), .bool (zs z)] 36)).alloc (.cells #[.int .u64 ((lo g : Nat) : Int), .string (hs g)] 34)).alloc (.cells #[.int .u64 0, .string ⟨#[]⟩, .bool false] 36)) = x1 at hL0
 go_enter Tryz.func131, Tryz.ntmps131
 go_upto_region 1 with fail
 clear hweq
 obtain ⟨α, iα, F, hF1, hF2⟩ := cls x1
 have hq0 := cls_box hF1 hL0 _ _ (List.mem_cons_of_mem _ List.mem_cons_self)
 simp only [cellsC, and_true, Nat.zero_add, Nat.reduceAdd] at hq0
 have hq1 := cls_box hF1 hL0 _ _ (List.mem_cons_of_mem _ (List.mem_cons_of_mem _ List.mem_cons_self))
 simp only [cellsC, and_true, Nat.zero_add, Nat.reduceAdd] at hq1
 refine region_qs 8 (C := fun w' => ∃ x, w' = F x) (by kernel_rfl) (by kernel_rfl) (cls_drew hF2) ?_
 simp only [List.take_succ_cons, List.take_zero, List.drop_succ_cons, List.drop_zero, List.take_nil, List.drop_nil]
 repeat (go_big_quiet_step (first | fail | (go_at_call 95; with_reducible exact cls_call hF1 hF2 HS.out _) | (go_at_call 97; with_reducible exact cls_call hF1 hF2 HA.out _) | (go_at_call 127; with_reducible exact cls_call hF1 hF2 HP.out _) | (go_at_call 96; with_reducible exact cls_call hF1 hF2 HF.out _)))
 refine wpQuiet_nil ?_
 rintro wq ⟨xq, rfl⟩
 replace hL0 := hL0.call (hF1 xq)
 clear  hq0 hq1 hF2
 generalize F xq = x2 at hL0 ⊢
 clear hF1 xq iα F α
 have hA := hL0.fc
 simp only [fcG, cellsF, neK, and_true, ne_eq, Nat.zero_add, Nat.reduceAdd] at hA
 have hP := hL0.put 0 (w.heap.size + 1 + 1) _ rfl [.int .u64 ((zl u : Nat) : Int), .string (zh u), .bool (zs u)] rfl
 simp only [setAll, List.set_cons_zero, List.set_cons_succ] at hP
 generalize hput1 : (((x2.setCell ⟨w.heap.size + 1 + 1, 0, none⟩ (.int .u64 ((zl u : Nat) : Int))).setCell ⟨w.heap.size + 1 + 1, 1, none⟩ (.string (zh u))).setCell ⟨w.heap.size + 1 + 1, 2, none⟩ (.bool (zs u))) = x3 at hP
 have hB1 := hP.fc
 simp only [fcG, cellsF, neK, and_true, ne_eq, Nat.zero_add, Nat.reduceAdd] at hB1
 replace hL0 := hP
 go_wp2_with fail
 exact bodyPost_ret (v := intV u) (by simp [results, Tryz.results131, go_sem, hB1]) rfl ⟨rfl, hL0.bl⟩
set_option maxHeartbeats 4000000 in
set_option maxRecDepth 100000 in
theorem cancel_w (z u : Int) (a d g v : Nat) (HA : RT 97 #[intV z] (natV a)) (HG : RT 126 #[natV a, natV d] (natV g)) (HP : RT 131 #[intV z, natV g] (intV u)) (HQ : RT 127 #[natV d, natV g] (natV v)) (w : World) :
  Calls Tryz.prog 82 #[intV z, natV d] w fun xe w' => xe = .returned (.tuple #[intV u, natV v]) ∧ Below w.heap.size w w' := by
 have hL0 : GL w w [] := GL.start w
 replace HA := Lib.hid HA
 replace HG := Lib.hid HG
 replace HP := Lib.hid HP
 replace HQ := Lib.hid HQ
 replace hL0 := ((((hL0.new rfl [.int .u64 ((zl z : Nat) : Int), .string (zh z), .bool (zs z)] 36).new (K := w.heap.size + 1) (szA _ _) [.int .u64 ((lo d : Nat) : Int), .string (hs d)] 34).new (K := w.heap.size + 1 + 1) (by simp only [World.size_alloc]) [.int .u64 0, .string ⟨#[]⟩, .bool false] 36).new (K := w.heap.size + 1 + 1 + 1) (by simp only [World.size_alloc]) [.int .u64 0, .string ⟨#[]⟩] 34)
 generalize hweq : ((((w.alloc (.cells #[.int .u64 ((zl z : Nat) : Int), .string (zh z), .bool (zs z)] 36)).alloc (.cells #[.int .u64 ((lo d : Nat) : Int), .string (hs d)] 34)).alloc (.cells #[.int .u64 0, .string ⟨#[]⟩, .bool false] 36)).alloc (.cells #[.int .u64 0, .string ⟨#[]⟩] 34)) = x1 at hL0
 go_enter Tryz.func82, Tryz.ntmps82
 go_upto_region 1 with fail
 clear hweq
 refine region_gh (by kernel_rfl) (by kernel_rfl) ?_
 refine lex_seg (gl := []) 4 (by kernel_rfl) ?_
 intro α iα F hF1 hF2
 have hq := GL.seg hF1 hL0
 simp only [fcC, cellsC, and_true, Nat.zero_add, Nat.reduceAdd] at hq
 simp only [List.take_succ_cons, List.take_zero, List.drop_succ_cons, List.drop_zero, List.take_nil, List.drop_nil]
 repeat (go_big_quiet_step (first | fail | (go_at_call 97; with_reducible exact seg_call hF2 HA.out _) | (go_at_call 126; with_reducible exact seg_call hF2 HG.out _)))
 refine wpQuiet_nil ?_
 clear hq hF1 hF2 iα F α
 refine lex_new [.int .u64 0, .string ⟨#[]⟩] 6 34 34 rfl rfl (of_decide_eq_true (by kernel_rfl)) (by kernel_rfl) rfl new_natc ?_
 simp only [Act.put, List.setIfInBounds_toArray, List.set_cons_succ, List.set_cons_zero]
 refine lex_put [.int .u64 ((lo g : Nat) : Int), .string (hs g)] [.int .u64 0, .string ⟨#[]⟩] 6 34 (.tmp 10) rfl (by kernel_rfl) (by simp [toG, upd]) rfl (fun w k h => put_natc _ _ _ _ w k h) ?_
 simp only [Act.put]
 refine lexG_nil ?_
 intro κ x2 hS
 replace hL0 := hL0.ghs hS [(6, [.int .u64 ((lo g : Nat) : Int), .string (hs g)])] (by simp) (by intro p hp; simp only [List.mem_cons, List.not_mem_nil, or_false] at hp; rcases hp with rfl <;> exact ⟨_, by simp only [toG, upd]; rfl⟩)
 simp only [List.map_cons, List.map_nil, List.cons_append, List.nil_append] at hL0
 simp only [over_toG, over_nil, Act.put, List.setIfInBounds_toArray, List.set_cons_succ, List.set_cons_zero]
 clear hS
 generalize κ 6 = k2_6 at *
 go_upto_region 2 with fail
 obtain ⟨α, iα, F, hF1, hF2⟩ := cls x2
 have hq0 := cls_box hF1 hL0 _ _ List.mem_cons_self
 simp only [cellsC, and_true, Nat.zero_add, Nat.reduceAdd] at hq0
 have hq1 := cls_box hF1 hL0 _ _ (List.mem_cons_of_mem _ (List.mem_cons_of_mem _ (List.mem_cons_of_mem _ List.mem_cons_self)))
 simp only [cellsC, and_true, Nat.zero_add, Nat.reduceAdd] at hq1
 have hq2 := cls_box hF1 hL0 _ _ (List.mem_cons_of_mem _ (List.mem_cons_of_mem _ (List.mem_cons_of_mem _ (List.mem_cons_of_mem _ List.mem_cons_self))))
 simp only [cellsC, and_true, Nat.zero_add, Nat.reduceAdd] at hq2
 refine region_qs 6 (C := fun w' => ∃ x, w' = F x) (by kernel_rfl) (by kernel_rfl) (cls_drew hF2) ?_
 simp only [List.take_succ_cons, List.take_zero, List.drop_succ_cons, List.drop_zero, List.take_nil, List.drop_nil]
 repeat (go_big_quiet_step (first | fail | (go_at_call 131; with_reducible exact cls_call hF1 hF2 HP.out _) | (go_at_call 127; with_reducible exact cls_call hF1 hF2 HQ.out _)))
 refine wpQuiet_nil ?_
 rintro wq ⟨xq, rfl⟩
 replace hL0 := hL0.call (hF1 xq)
 clear  hq0 hq1 hq2 hF2
 generalize F xq = x3 at hL0 ⊢
 clear hF1 xq iα F α
 have hA := hL0.fc
 simp only [fcG, cellsF, neK, and_true, ne_eq, Nat.zero_add, Nat.reduceAdd] at hA
 have hP := hL0.put 2 (w.heap.size + 1 + 1) _ rfl [.int .u64 ((zl u : Nat) : Int), .string (zh u), .bool (zs u)] rfl
 simp only [setAll, List.set_cons_zero, List.set_cons_succ] at hP
 generalize hput1 : (((x3.setCell ⟨w.heap.size + 1 + 1, 0, none⟩ (.int .u64 ((zl u : Nat) : Int))).setCell ⟨w.heap.size + 1 + 1, 1, none⟩ (.string (zh u))).setCell ⟨w.heap.size + 1 + 1, 2, none⟩ (.bool (zs u))) = x4 at hP
 have hB1 := hP.fc
 simp only [fcG, cellsF, neK, and_true, ne_eq, Nat.zero_add, Nat.reduceAdd] at hB1
 replace hL0 := hP
 have hP := hL0.put 1 (w.heap.size + 1 + 1 + 1) _ rfl [.int .u64 ((lo v : Nat) : Int), .string (hs v)] rfl
 simp only [setAll, List.set_cons_zero, List.set_cons_succ] at hP
 generalize hput2 : ((x4.setCell ⟨w.heap.size + 1 + 1 + 1, 0, none⟩ (.int .u64 ((lo v : Nat) : Int))).setCell ⟨w.heap.size + 1 + 1 + 1, 1, none⟩ (.string (hs v))) = x5 at hP
 have hB2 := hP.fc
 simp only [fcG, cellsF, neK, and_true, ne_eq, Nat.zero_add, Nat.reduceAdd] at hB2
 replace hL0 := hP
 go_wp2_with fail
 exact bodyPost_ret (v := .tuple #[intV u, natV v]) (by simp [results, Tryz.results82, go_sem, hB2]) rfl ⟨rfl, hL0.bl⟩
set_option maxHeartbeats 4000000 in
set_option maxRecDepth 100000 in
theorem times_one (z : Int) (HO : RT 125 #[.int .u64 1] (natV 1)) (w : World) :
  Calls Tryz.prog 94 #[intV z, natV 1] w fun xe w' => xe = .returned (intV z) ∧ Below w.heap.size w w' := by
 have hL0 : GL w w [] := GL.start w
 replace HO := Lib.hid HO
 replace hL0 := (((hL0.new rfl [.int .u64 ((zl z : Nat) : Int), .string (zh z), .bool (zs z)] 36).new (K := w.heap.size + 1) (szA _ _) [.int .u64 ((lo 1 : Nat) : Int), .string (hs 1)] 34).new (K := w.heap.size + 1 + 1) (by simp only [World.size_alloc]) [.int .u64 0, .string ⟨#[]⟩, .bool false] 36)
 generalize hweq : (((w.alloc (.cells #[.int .u64 ((zl z : Nat) : Int), .string (zh z), .bool (zs z)] 36)).alloc (.cells #[.int .u64 ((lo 1 : Nat) : Int), .string (hs 1)] 34)).alloc (.cells #[.int .u64 0, .string ⟨#[]⟩, .bool false] 36)) = x1 at hL0
 go_enter Tryz.func94, Tryz.ntmps94
 go_upto_region 1 with fail
 clear hweq
 obtain ⟨α, iα, F, hF1, hF2⟩ := cls x1
 have hq0 := cls_box hF1 hL0 _ _ (List.mem_cons_of_mem _ List.mem_cons_self)
 simp only [cellsC, and_true, Nat.zero_add, Nat.reduceAdd] at hq0
 refine region_qs 3 (C := fun w' => ∃ x, w' = F x) (by kernel_rfl) (by kernel_rfl) (cls_drew hF2) ?_
 simp only [List.take_succ_cons, List.take_zero, List.drop_succ_cons, List.drop_zero, List.take_nil, List.drop_nil]
 repeat (go_big_quiet_step (first | fail | (go_at_call 125; with_reducible exact cls_call hF1 hF2 HO.out _)))
 refine wpQuiet_nil ?_
 rintro wq ⟨xq, rfl⟩
 replace hL0 := hL0.call (hF1 xq)
 clear  hq0 hF2
 generalize F xq = x2 at hL0 ⊢
 clear hF1 xq iα F α
 have hA := hL0.fc
 simp only [fcG, cellsF, neK, and_true, ne_eq, Nat.zero_add, Nat.reduceAdd] at hA
 have hP := hL0.put 0 (w.heap.size + 1 + 1) _ rfl [.int .u64 ((zl z : Nat) : Int), .string (zh z), .bool (zs z)] rfl
 simp only [setAll, List.set_cons_zero, List.set_cons_succ] at hP
 generalize hput1 : (((x2.setCell ⟨w.heap.size + 1 + 1, 0, none⟩ (.int .u64 ((zl z : Nat) : Int))).setCell ⟨w.heap.size + 1 + 1, 1, none⟩ (.string (zh z))).setCell ⟨w.heap.size + 1 + 1, 2, none⟩ (.bool (zs z))) = x3 at hP
 have hB1 := hP.fc
 simp only [fcG, cellsF, neK, and_true, ne_eq, Nat.zero_add, Nat.reduceAdd] at hB1
 replace hL0 := hP
 go_wp2_with fail
 exact bodyPost_ret (v := intV z) (by simp [results, Tryz.results94, go_sem, hB1]) rfl ⟨rfl, hL0.bl⟩
set_option maxHeartbeats 4000000 in
set_option maxRecDepth 100000 in
theorem times_mul (z f p : Int) (d : Nat) (HO : RT 125 #[.int .u64 1] (natV 1)) (HF : RT 96 #[.bool false, natV d] (intV f)) (HM : RT 85 #[intV z, intV f] (intV p)) (hd : d ≠ 1) (w : World) :
  Calls Tryz.prog 94 #[intV z, natV d] w fun xe w' => xe = .returned (intV p) ∧ Below w.heap.size w w' := by
 have hL0 : GL w w [] := GL.start w
 replace HO := Lib.hid HO
 replace HF := Lib.hid HF
 replace HM := Lib.hid HM
 have hz := ne_nat hd
 clear hd
 rcases hz with e0 | ⟨e0, e1⟩
 all_goals (
  replace hL0 := (((hL0.new rfl [.int .u64 ((zl z : Nat) : Int), .string (zh z), .bool (zs z)] 36).new (K := w.heap.size + 1) (szA _ _) [.int .u64 ((lo d : Nat) : Int), .string (hs d)] 34).new (K := w.heap.size + 1 + 1) (by simp only [World.size_alloc]) [.int .u64 0, .string ⟨#[]⟩, .bool false] 36)
  generalize hweq : (((w.alloc (.cells #[.int .u64 ((zl z : Nat) : Int), .string (zh z), .bool (zs z)] 36)).alloc (.cells #[.int .u64 ((lo d : Nat) : Int), .string (hs d)] 34)).alloc (.cells #[.int .u64 0, .string ⟨#[]⟩, .bool false] 36)) = x1 at hL0
  go_enter Tryz.func94, Tryz.ntmps94
  go_upto_region 1 with fail
  clear hweq
  obtain ⟨α, iα, F, hF1, hF2⟩ := cls x1
  have hq0 := cls_box hF1 hL0 _ _ (List.mem_cons_of_mem _ List.mem_cons_self)
  simp only [cellsC, and_true, Nat.zero_add, Nat.reduceAdd] at hq0
  refine region_qs 3 (C := fun w' => ∃ x, w' = F x) (by kernel_rfl) (by kernel_rfl) (cls_drew hF2) ?_
  simp only [List.take_succ_cons, List.take_zero, List.drop_succ_cons, List.drop_zero, List.take_nil, List.drop_nil]
  repeat (go_big_quiet_step (first | fail | (go_at_call 125; with_reducible exact cls_call hF1 hF2 HO.out _)))
  refine wpQuiet_nil ?_
  rintro wq ⟨xq, rfl⟩
  replace hL0 := hL0.call (hF1 xq)
  clear  hq0 hF2
  generalize F xq = x2 at hL0 ⊢
  clear hF1 xq iα F α
  go_upto_region 3 with fail
  obtain ⟨α, iα, F, hF1, hF2⟩ := cls x2
  have hq0 := cls_box hF1 hL0 _ _ (List.mem_cons_of_mem _ List.mem_cons_self)
  simp only [cellsC, and_true, Nat.zero_add, Nat.reduceAdd] at hq0
  have hq1 := cls_box hF1 hL0 _ _ (List.mem_cons_of_mem _ (List.mem_cons_of_mem _ List.mem_cons_self))
  simp only [cellsC, and_true, Nat.zero_add, Nat.reduceAdd] at hq1
  refine region_qs 4 (C := fun w' => ∃ x, w' = F x) (by kernel_rfl) (by kernel_rfl) (cls_drew hF2) ?_
  simp only [List.take_succ_cons, List.take_zero, List.drop_succ_cons, List.drop_zero, List.take_nil, List.drop_nil]
  repeat (go_big_quiet_step (first | fail | (go_at_call 96; with_reducible exact cls_call hF1 hF2 HF.out _) | (go_at_call 85; with_reducible exact cls_call hF1 hF2 HM.out _)))
  refine wpQuiet_nil ?_
  rintro wq ⟨xq, rfl⟩
  replace hL0 := hL0.call (hF1 xq)
  clear  hq0 hq1 hF2
  generalize F xq = x3 at hL0 ⊢
  clear hF1 xq iα F α
  have hA := hL0.fc
  simp only [fcG, cellsF, neK, and_true, ne_eq, Nat.zero_add, Nat.reduceAdd] at hA
  have hP := hL0.put 0 (w.heap.size + 1 + 1) _ rfl [.int .u64 ((zl p : Nat) : Int), .string (zh p), .bool (zs p)] rfl
  simp only [setAll, List.set_cons_zero, List.set_cons_succ] at hP
  generalize hput1 : (((x3.setCell ⟨w.heap.size + 1 + 1, 0, none⟩ (.int .u64 ((zl p : Nat) : Int))).setCell ⟨w.heap.size + 1 + 1, 1, none⟩ (.string (zh p))).setCell ⟨w.heap.size + 1 + 1, 2, none⟩ (.bool (zs p))) = x4 at hP
  have hB1 := hP.fc
  simp only [fcG, cellsF, neK, and_true, ne_eq, Nat.zero_add, Nat.reduceAdd] at hB1
  replace hL0 := hP
  go_wp2_with fail
  exact bodyPost_ret (v := intV p) (by simp [results, Tryz.results94, go_sem, hB1]) rfl ⟨rfl, hL0.bl⟩)
set_option maxHeartbeats 4000000 in
set_option maxRecDepth 100000 in
theorem fof_true (x y s z p : Int) (a b : Int) (d e : Nat) (c : Int) (HO : RT 79 #[.int .i64 a] (intV x)) (HQ : RT 79 #[.int .i64 b] (intV y)) (HS : RT 95 #[intV y] (.int .i64 s)) (HN : RT 98 #[intV x] (intV z)) (HA : RT 97 #[intV y] (natV d)) (HF : RT 99 #[intV z, natV d] (.tuple #[frV p e, .int .i64 c])) (hsg : decide (s < 0) = true) (w : World) :
  Calls Tryz.prog 50 #[.int .i64 a, .int .i64 b] w fun xe w' => xe = .returned (.tuple #[frV p e, .int .i64 c]) ∧ Below w.heap.size w w' := by
 have hL0 : GL w w [] := GL.start w
 replace HO := Lib.hid HO
 replace HQ := Lib.hid HQ
 replace HS := Lib.hid HS
 replace HN := Lib.hid HN
 replace HA := Lib.hid HA
 replace HF := Lib.hid HF
 replace hL0 := (hL0.new rfl [.int .u64 0, .string ⟨#[]⟩, .bool false, .int .u64 0, .string ⟨#[]⟩] 38)
 generalize hweq : (w.alloc (.cells #[.int .u64 0, .string ⟨#[]⟩, .bool false, .int .u64 0, .string ⟨#[]⟩] 38)) = x1 at hL0
 go_enter Tryz.func50, Tryz.ntmps50
 go_wp2_with fail
 with_reducible refine Calls.mono (HO.out _) ?_
 rintro e x2 ⟨rfl, hb⟩
 replace hL0 := hL0.call hb
 clear hb hweq
 go_wp2_with fail
 with_reducible refine Calls.mono (HQ.out _) ?_
 rintro e x3 ⟨rfl, hb⟩
 replace hL0 := hL0.call hb
 clear hb
 replace hL0 := ((hL0.new rfl [.int .u64 ((zl x : Nat) : Int), .string (zh x), .bool (zs x)] 36).new (K := x3.heap.size + 1) (szA _ _) [.int .u64 ((zl y : Nat) : Int), .string (zh y), .bool (zs y)] 36)
 generalize hweq : ((x3.alloc (.cells #[.int .u64 ((zl x : Nat) : Int), .string (zh x), .bool (zs x)] 36)).alloc (.cells #[.int .u64 ((zl y : Nat) : Int), .string (zh y), .bool (zs y)] 36)) = x4 at hL0
 have hN0 := cells_of _ 0 [] rfl (hL0.get _ _ List.mem_cons_self)
 simp only [cellsF, and_true, Nat.zero_add, Nat.reduceAdd] at hN0
 go_wp2_with fail
 clear hN0
 with_reducible refine Calls.mono (HS.out _) ?_
 rintro e x5 ⟨rfl, hb⟩
 replace hL0 := hL0.call hb
 clear hb hweq
 have hN0 := cells_of _ 0 [] rfl (hL0.get _ _ (List.mem_cons_of_mem _ List.mem_cons_self))
 simp only [cellsF, and_true, Nat.zero_add, Nat.reduceAdd] at hN0
 go_wp2_with fail
 clear hN0
 with_reducible refine Calls.mono (HN.out _) ?_
 rintro e x6 ⟨rfl, hb⟩
 replace hL0 := hL0.call hb
 clear hb
 have hA := hL0.fc
 simp only [fcG, cellsF, neK, and_true, ne_eq, Nat.zero_add, Nat.reduceAdd] at hA
 have hP := hL0.put 1 (x3.heap.size) _ rfl [.int .u64 ((zl z : Nat) : Int), .string (zh z), .bool (zs z)] rfl
 simp only [setAll, List.set_cons_zero, List.set_cons_succ] at hP
 generalize hput1 : (((x6.setCell ⟨x3.heap.size, 0, none⟩ (.int .u64 ((zl z : Nat) : Int))).setCell ⟨x3.heap.size, 1, none⟩ (.string (zh z))).setCell ⟨x3.heap.size, 2, none⟩ (.bool (zs z))) = x7 at hP
 have hB1 := hP.fc
 simp only [fcG, cellsF, neK, and_true, ne_eq, Nat.zero_add, Nat.reduceAdd] at hB1
 replace hL0 := hP
 go_upto_region 4 with fail
 clear hA
 clear hput1 hB1
 obtain ⟨α, iα, F, hF1, hF2⟩ := cls x7
 have hq0 := cls_box hF1 hL0 _ _ List.mem_cons_self
 simp only [cellsC, and_true, Nat.zero_add, Nat.reduceAdd] at hq0
 have hq1 := cls_box hF1 hL0 _ _ (List.mem_cons_of_mem _ List.mem_cons_self)
 simp only [cellsC, and_true, Nat.zero_add, Nat.reduceAdd] at hq1
 refine region_qs 6 (C := fun w' => ∃ x, w' = F x) (by kernel_rfl) (by kernel_rfl) (cls_drew hF2) ?_
 simp only [List.take_succ_cons, List.take_zero, List.drop_succ_cons, List.drop_zero, List.take_nil, List.drop_nil]
 repeat (go_big_quiet_step (first | fail | (go_at_call 97; with_reducible exact cls_call hF1 hF2 HA.out _) | (go_at_call 99; with_reducible exact cls_call hF1 hF2 HF.out _)))
 refine wpQuiet_nil ?_
 rintro wq ⟨xq, rfl⟩
 replace hL0 := hL0.call (hF1 xq)
 clear  hq0 hq1 hF2
 generalize F xq = x8 at hL0 ⊢
 clear hF1 xq iα F α
 have hA := hL0.fc
 simp only [fcG, cellsF, neK, and_true, ne_eq, Nat.zero_add, Nat.reduceAdd] at hA
 have hP := hL0.put 2 (w.heap.size) _ rfl [.int .u64 ((zl p : Nat) : Int), .string (zh p), .bool (zs p), .int .u64 ((lo e : Nat) : Int), .string (hs e)] rfl
 simp only [setAll, List.set_cons_zero, List.set_cons_succ] at hP
 generalize hput2 : (((((x8.setCell ⟨w.heap.size, 0, none⟩ (.int .u64 ((zl p : Nat) : Int))).setCell ⟨w.heap.size, 1, none⟩ (.string (zh p))).setCell ⟨w.heap.size, 2, none⟩ (.bool (zs p))).setCell ⟨w.heap.size, 3, none⟩ (.int .u64 ((lo e : Nat) : Int))).setCell ⟨w.heap.size, 4, none⟩ (.string (hs e))) = x9 at hP
 have hB2 := hP.fc
 simp only [fcG, cellsF, neK, and_true, ne_eq, Nat.zero_add, Nat.reduceAdd] at hB2
 replace hL0 := hP
 go_wp2_with fail
 exact bodyPost_ret (v := .tuple #[frV p e, .int .i64 c]) (by simp [results, Tryz.results50, go_sem, hB2]) rfl ⟨rfl, hL0.bl⟩
set_option maxHeartbeats 4000000 in
set_option maxRecDepth 100000 in
theorem fof_false (x y s z p : Int) (a b : Int) (d e : Nat) (c : Int) (HO : RT 79 #[.int .i64 a] (intV x)) (HQ : RT 79 #[.int .i64 b] (intV y)) (HS : RT 95 #[intV y] (.int .i64 s)) (HA : RT 97 #[intV y] (natV d)) (HF : RT 99 #[intV x, natV d] (.tuple #[frV p e, .int .i64 c])) (hsg : decide (s < 0) = false) (w : World) :
  Calls Tryz.prog 50 #[.int .i64 a, .int .i64 b] w fun xe w' => xe = .returned (.tuple #[frV p e, .int .i64 c]) ∧ Below w.heap.size w w' := by
 have hL0 : GL w w [] := GL.start w
 replace HO := Lib.hid HO
 replace HQ := Lib.hid HQ
 replace HS := Lib.hid HS
 replace HA := Lib.hid HA
 replace HF := Lib.hid HF
 replace hL0 := (hL0.new rfl [.int .u64 0, .string ⟨#[]⟩, .bool false, .int .u64 0, .string ⟨#[]⟩] 38)
 generalize hweq : (w.alloc (.cells #[.int .u64 0, .string ⟨#[]⟩, .bool false, .int .u64 0, .string ⟨#[]⟩] 38)) = x1 at hL0
 go_enter Tryz.func50, Tryz.ntmps50
 go_wp2_with fail
 with_reducible refine Calls.mono (HO.out _) ?_
 rintro e x2 ⟨rfl, hb⟩
 replace hL0 := hL0.call hb
 clear hb hweq
 go_wp2_with fail
 with_reducible refine Calls.mono (HQ.out _) ?_
 rintro e x3 ⟨rfl, hb⟩
 replace hL0 := hL0.call hb
 clear hb
 replace hL0 := ((hL0.new rfl [.int .u64 ((zl x : Nat) : Int), .string (zh x), .bool (zs x)] 36).new (K := x3.heap.size + 1) (szA _ _) [.int .u64 ((zl y : Nat) : Int), .string (zh y), .bool (zs y)] 36)
 generalize hweq : ((x3.alloc (.cells #[.int .u64 ((zl x : Nat) : Int), .string (zh x), .bool (zs x)] 36)).alloc (.cells #[.int .u64 ((zl y : Nat) : Int), .string (zh y), .bool (zs y)] 36)) = x4 at hL0
 have hN0 := cells_of _ 0 [] rfl (hL0.get _ _ List.mem_cons_self)
 simp only [cellsF, and_true, Nat.zero_add, Nat.reduceAdd] at hN0
 go_wp2_with fail
 clear hN0
 with_reducible refine Calls.mono (HS.out _) ?_
 rintro e x5 ⟨rfl, hb⟩
 replace hL0 := hL0.call hb
 clear hb hweq
 go_upto_region 4 with fail
 obtain ⟨α, iα, F, hF1, hF2⟩ := cls x5
 have hq0 := cls_box hF1 hL0 _ _ List.mem_cons_self
 simp only [cellsC, and_true, Nat.zero_add, Nat.reduceAdd] at hq0
 have hq1 := cls_box hF1 hL0 _ _ (List.mem_cons_of_mem _ List.mem_cons_self)
 simp only [cellsC, and_true, Nat.zero_add, Nat.reduceAdd] at hq1
 refine region_qs 6 (C := fun w' => ∃ x, w' = F x) (by kernel_rfl) (by kernel_rfl) (cls_drew hF2) ?_
 simp only [List.take_succ_cons, List.take_zero, List.drop_succ_cons, List.drop_zero, List.take_nil, List.drop_nil]
 repeat (go_big_quiet_step (first | fail | (go_at_call 97; with_reducible exact cls_call hF1 hF2 HA.out _) | (go_at_call 99; with_reducible exact cls_call hF1 hF2 HF.out _)))
 refine wpQuiet_nil ?_
 rintro wq ⟨xq, rfl⟩
 replace hL0 := hL0.call (hF1 xq)
 clear  hq0 hq1 hF2
 generalize F xq = x6 at hL0 ⊢
 clear hF1 xq iα F α
 have hA := hL0.fc
 simp only [fcG, cellsF, neK, and_true, ne_eq, Nat.zero_add, Nat.reduceAdd] at hA
 have hP := hL0.put 2 (w.heap.size) _ rfl [.int .u64 ((zl p : Nat) : Int), .string (zh p), .bool (zs p), .int .u64 ((lo e : Nat) : Int), .string (hs e)] rfl
 simp only [setAll, List.set_cons_zero, List.set_cons_succ] at hP
 generalize hput1 : (((((x6.setCell ⟨w.heap.size, 0, none⟩ (.int .u64 ((zl p : Nat) : Int))).setCell ⟨w.heap.size, 1, none⟩ (.string (zh p))).setCell ⟨w.heap.size, 2, none⟩ (.bool (zs p))).setCell ⟨w.heap.size, 3, none⟩ (.int .u64 ((lo e : Nat) : Int))).setCell ⟨w.heap.size, 4, none⟩ (.string (hs e))) = x7 at hP
 have hB1 := hP.fc
 simp only [fcG, cellsF, neK, and_true, ne_eq, Nat.zero_add, Nat.reduceAdd] at hB1
 replace hL0 := hP
 go_wp2_with fail
 exact bodyPost_ret (v := .tuple #[frV p e, .int .i64 c]) (by simp [results, Tryz.results50, go_sem, hB1]) rfl ⟨rfl, hL0.bl⟩
set_option maxHeartbeats 4000000 in
set_option maxRecDepth 100000 in
theorem fabs_w (n m : Int) (a e : Nat) (HA : RT 97 #[intV n] (natV a)) (HF : RT 96 #[.bool false, natV a] (intV m)) (w : World) :
  Calls Tryz.prog 46 #[frV n e] w fun xe w' => xe = .returned (frV m e) ∧ Below w.heap.size w w' := by
 have hL0 : GL w w [] := GL.start w
 replace HA := Lib.hid HA
 replace HF := Lib.hid HF
 replace hL0 := ((hL0.new rfl [.int .u64 ((zl n : Nat) : Int), .string (zh n), .bool (zs n), .int .u64 ((lo e : Nat) : Int), .string (hs e)] 38).new (K := w.heap.size + 1) (szA _ _) [.int .u64 0, .string ⟨#[]⟩, .bool false, .int .u64 0, .string ⟨#[]⟩] 38)
 generalize hweq : ((w.alloc (.cells #[.int .u64 ((zl n : Nat) : Int), .string (zh n), .bool (zs n), .int .u64 ((lo e : Nat) : Int), .string (hs e)] 38)).alloc (.cells #[.int .u64 0, .string ⟨#[]⟩, .bool false, .int .u64 0, .string ⟨#[]⟩] 38)) = x1 at hL0
 go_enter Tryz.func46, Tryz.ntmps46
 go_upto_region 1 with fail
 clear hweq
 obtain ⟨α, iα, F, hF1, hF2⟩ := cls x1
 have hq0 := cls_box hF1 hL0 _ _ (List.mem_cons_of_mem _ List.mem_cons_self)
 simp only [cellsC, and_true, Nat.zero_add, Nat.reduceAdd] at hq0
 refine region_qs 7 (C := fun w' => ∃ x, w' = F x) (by kernel_rfl) (by kernel_rfl) (cls_drew hF2) ?_
 simp only [List.take_succ_cons, List.take_zero, List.drop_succ_cons, List.drop_zero, List.take_nil, List.drop_nil]
 repeat (go_big_quiet_step (first | fail | (go_at_call 97; with_reducible exact cls_call hF1 hF2 HA.out _) | (go_at_call 96; with_reducible exact cls_call hF1 hF2 HF.out _)))
 refine wpQuiet_nil ?_
 rintro wq ⟨xq, rfl⟩
 replace hL0 := hL0.call (hF1 xq)
 clear  hq0 hF2
 generalize F xq = x2 at hL0 ⊢
 clear hF1 xq iα F α
 have hA := hL0.fc
 simp only [fcG, cellsF, neK, and_true, ne_eq, Nat.zero_add, Nat.reduceAdd] at hA
 have hP := hL0.put 0 (w.heap.size + 1) _ rfl [.int .u64 ((zl m : Nat) : Int), .string (zh m), .bool (zs m), .int .u64 ((lo e : Nat) : Int), .string (hs e)] rfl
 simp only [setAll, List.set_cons_zero, List.set_cons_succ] at hP
 generalize hput1 : (((((x2.setCell ⟨w.heap.size + 1, 0, none⟩ (.int .u64 ((zl m : Nat) : Int))).setCell ⟨w.heap.size + 1, 1, none⟩ (.string (zh m))).setCell ⟨w.heap.size + 1, 2, none⟩ (.bool (zs m))).setCell ⟨w.heap.size + 1, 3, none⟩ (.int .u64 ((lo e : Nat) : Int))).setCell ⟨w.heap.size + 1, 4, none⟩ (.string (hs e))) = x3 at hP
 have hB1 := hP.fc
 simp only [fcG, cellsF, neK, and_true, ne_eq, Nat.zero_add, Nat.reduceAdd] at hB1
 replace hL0 := hP
 go_wp2_with fail
 exact bodyPost_ret (v := frV m e) (by simp [results, Tryz.results46, go_sem, hB1]) rfl ⟨rfl, hL0.bl⟩
end Go.Proofs.YtoahpkelajimfaaGreatDoor
namespace Go.Proofs.YtoahpkelajimfaaGreatDoor
open Go.RowKit
attribute [local irreducible] lo hs sm s64 c64 d64 b64 mh ml pd pc qd qc val hiB str cmpI srD lz nb zl zh zs
set_option maxHeartbeats 4000000 in
set_option maxRecDepth 100000 in
theorem fcmp_w (m n x y c : Int) (d e p q : Nat) (HD : RT 83 #[frV m d] (natV p)) (HE : RT 83 #[frV n e] (natV q)) (HS : RT 94 #[intV m, natV q] (intV x)) (HT : RT 94 #[intV n, natV p] (intV y)) (HC : RT 93 #[intV x, intV y] (.int .i64 c)) (w : World) :
  Calls Tryz.prog 44 #[frV m d, frV n e] w fun xe w' => xe = .returned (.int .i64 c) ∧ Below w.heap.size w w' := by
 have hL0 : GL w w [] := GL.start w
 replace HD := Lib.hid HD
 replace HE := Lib.hid HE
 replace HS := Lib.hid HS
 replace HT := Lib.hid HT
 replace HC := Lib.hid HC
 replace hL0 := ((hL0.new rfl [.int .u64 ((zl m : Nat) : Int), .string (zh m), .bool (zs m), .int .u64 ((lo d : Nat) : Int), .string (hs d)] 38).new (K := w.heap.size + 1) (szA _ _) [.int .u64 ((zl n : Nat) : Int), .string (zh n), .bool (zs n), .int .u64 ((lo e : Nat) : Int), .string (hs e)] 38)
 generalize hweq : ((w.alloc (.cells #[.int .u64 ((zl m : Nat) : Int), .string (zh m), .bool (zs m), .int .u64 ((lo d : Nat) : Int), .string (hs d)] 38)).alloc (.cells #[.int .u64 ((zl n : Nat) : Int), .string (zh n), .bool (zs n), .int .u64 ((lo e : Nat) : Int), .string (hs e)] 38)) = x1 at hL0
 go_enter Tryz.func44, Tryz.ntmps44
 go_upto_region 1 with fail
 clear hweq
 obtain ⟨α, iα, F, hF1, hF2⟩ := cls x1
 have hq0 := cls_box hF1 hL0 _ _ List.mem_cons_self
 simp only [cellsC, and_true, Nat.zero_add, Nat.reduceAdd] at hq0
 have hq1 := cls_box hF1 hL0 _ _ (List.mem_cons_of_mem _ List.mem_cons_self)
 simp only [cellsC, and_true, Nat.zero_add, Nat.reduceAdd] at hq1
 refine region_qs 12 (C := fun w' => ∃ x, w' = F x) (by kernel_rfl) (by kernel_rfl) (cls_drew hF2) ?_
 simp only [List.take_succ_cons, List.take_zero, List.drop_succ_cons, List.drop_zero, List.take_nil, List.drop_nil]
 repeat (go_big_quiet_step (first | fail | (go_at_call 83; with_reducible exact cls_call hF1 hF2 HE.out _) | (go_at_call 94; with_reducible exact cls_call hF1 hF2 HS.out _) | (go_at_call 83; with_reducible exact cls_call hF1 hF2 HD.out _) | (go_at_call 94; with_reducible exact cls_call hF1 hF2 HT.out _) | (go_at_call 93; with_reducible exact cls_call hF1 hF2 HC.out _)))
 refine wpQuiet_nil ?_
 rintro wq ⟨xq, rfl⟩
 replace hL0 := hL0.call (hF1 xq)
 clear  hq0 hq1 hF2
 generalize F xq = x2 at hL0 ⊢
 clear hF1 xq iα F α
 go_wp2_with fail
 exact bodyPost_ret (v := .int .i64 c) (by simp [results, Tryz.results44, go_sem]) rfl ⟨rfl, hL0.bl⟩
set_option maxHeartbeats 4000000 in
set_option maxRecDepth 100000 in
theorem fmul_w (m n u v x y : Int) (d e p q g h k f : Nat) (HD : RT 83 #[frV m d] (natV p)) (HE : RT 83 #[frV n e] (natV q)) (HX : RT 82 #[intV m, natV q] (.tuple #[intV u, natV g])) (HY : RT 82 #[intV n, natV p] (.tuple #[intV v, natV h])) (HM : RT 85 #[intV u, intV v] (intV x)) (HP : RT 86 #[natV h, natV g] (natV k)) (HL : RT 84 #[intV x, natV k] (frV y f)) (w : World) :
  Calls Tryz.prog 36 #[frV m d, frV n e] w fun xe w' => xe = .returned (frV y f) ∧ Below w.heap.size w w' := by
 have hL0 : GL w w [] := GL.start w
 replace HD := Lib.hid HD
 replace HE := Lib.hid HE
 replace HX := Lib.hid HX
 replace HY := Lib.hid HY
 replace HM := Lib.hid HM
 replace HP := Lib.hid HP
 replace HL := Lib.hid HL
 replace hL0 := (((hL0.new rfl [.int .u64 ((zl m : Nat) : Int), .string (zh m), .bool (zs m), .int .u64 ((lo d : Nat) : Int), .string (hs d)] 38).new (K := w.heap.size + 1) (szA _ _) [.int .u64 ((zl n : Nat) : Int), .string (zh n), .bool (zs n), .int .u64 ((lo e : Nat) : Int), .string (hs e)] 38).new (K := w.heap.size + 1 + 1) (by simp only [World.size_alloc]) [.int .u64 0, .string ⟨#[]⟩, .bool false, .int .u64 0, .string ⟨#[]⟩] 38)
 generalize hweq : (((w.alloc (.cells #[.int .u64 ((zl m : Nat) : Int), .string (zh m), .bool (zs m), .int .u64 ((lo d : Nat) : Int), .string (hs d)] 38)).alloc (.cells #[.int .u64 ((zl n : Nat) : Int), .string (zh n), .bool (zs n), .int .u64 ((lo e : Nat) : Int), .string (hs e)] 38)).alloc (.cells #[.int .u64 0, .string ⟨#[]⟩, .bool false, .int .u64 0, .string ⟨#[]⟩] 38)) = x1 at hL0
 go_enter Tryz.func36, Tryz.ntmps36
 go_upto_region 1 with fail
 clear hweq
 refine region_gh (by kernel_rfl) (by kernel_rfl) ?_
 refine lex_seg (gl := []) 8 (by kernel_rfl) ?_
 intro α iα F hF1 hF2
 have hq := GL.seg hF1 hL0
 simp only [fcC, cellsC, and_true, Nat.zero_add, Nat.reduceAdd] at hq
 simp only [List.take_succ_cons, List.take_zero, List.drop_succ_cons, List.drop_zero, List.take_nil, List.drop_nil]
 repeat (go_big_quiet_step (first | fail | (go_at_call 83; with_reducible exact seg_call hF2 HE.out _) | (go_at_call 82; with_reducible exact seg_call hF2 HX.out _)))
 refine wpQuiet_nil ?_
 clear hq hF1 hF2 iα F α
 refine lex_new [.int .u64 0, .string ⟨#[]⟩, .bool false] 5 36 36 rfl rfl (of_decide_eq_true (by kernel_rfl)) (by kernel_rfl) rfl new_int ?_
 simp only [Act.put, List.setIfInBounds_toArray, List.set_cons_succ, List.set_cons_zero]
 refine lex_new [.int .u64 0, .string ⟨#[]⟩] 6 34 34 rfl rfl (of_decide_eq_true (by kernel_rfl)) (by kernel_rfl) rfl new_natc ?_
 simp only [Act.put, List.setIfInBounds_toArray, List.set_cons_succ, List.set_cons_zero]
 refine lex_put [.int .u64 ((zl u : Nat) : Int), .string (zh u), .bool (zs u)] [.int .u64 0, .string ⟨#[]⟩, .bool false] 5 36 (.tmp 15) rfl (by kernel_rfl) (by simp [toG, upd]) rfl (fun w k h => put_int _ _ _ _ _ _ w k h) ?_
 simp only [Act.put]
 refine lex_put [.int .u64 ((lo g : Nat) : Int), .string (hs g)] [.int .u64 0, .string ⟨#[]⟩] 6 34 (.tmp 16) rfl (by kernel_rfl) (by simp [toG, upd]) rfl (fun w k h => put_natc _ _ _ _ w k h) ?_
 simp only [Act.put]
 refine lexG_nil ?_
 intro κ x2 hS
 replace hL0 := hL0.ghs hS [(6, [.int .u64 ((lo g : Nat) : Int), .string (hs g)]), (5, [.int .u64 ((zl u : Nat) : Int), .string (zh u), .bool (zs u)])] (by simp) (by intro p hp; simp only [List.mem_cons, List.not_mem_nil, or_false] at hp; rcases hp with rfl | rfl <;> exact ⟨_, by simp only [toG, upd]; rfl⟩)
 simp only [List.map_cons, List.map_nil, List.cons_append, List.nil_append] at hL0
 simp only [over_toG, over_nil, Act.put, List.setIfInBounds_toArray, List.set_cons_succ, List.set_cons_zero]
 clear hS
 generalize κ 6 = k2_6 at *
 generalize κ 5 = k2_5 at *
 go_upto_region 2 with fail
 refine region_gh (by kernel_rfl) (by kernel_rfl) ?_
 refine lex_seg (gl := []) 8 (by kernel_rfl) ?_
 intro α iα F hF1 hF2
 have hq := GL.seg hF1 hL0
 simp only [fcC, cellsC, and_true, Nat.zero_add, Nat.reduceAdd] at hq
 simp only [List.take_succ_cons, List.take_zero, List.drop_succ_cons, List.drop_zero, List.take_nil, List.drop_nil]
 repeat (go_big_quiet_step (first | fail | (go_at_call 83; with_reducible exact seg_call hF2 HD.out _) | (go_at_call 82; with_reducible exact seg_call hF2 HY.out _)))
 refine wpQuiet_nil ?_
 clear hq hF1 hF2 iα F α
 refine lex_new [.int .u64 0, .string ⟨#[]⟩, .bool false] 7 36 36 rfl rfl (of_decide_eq_true (by kernel_rfl)) (by kernel_rfl) rfl new_int ?_
 simp only [Act.put, List.setIfInBounds_toArray, List.set_cons_succ, List.set_cons_zero]
 refine lex_new [.int .u64 0, .string ⟨#[]⟩] 8 34 34 rfl rfl (of_decide_eq_true (by kernel_rfl)) (by kernel_rfl) rfl new_natc ?_
 simp only [Act.put, List.setIfInBounds_toArray, List.set_cons_succ, List.set_cons_zero]
 refine lex_put [.int .u64 ((zl v : Nat) : Int), .string (zh v), .bool (zs v)] [.int .u64 0, .string ⟨#[]⟩, .bool false] 7 36 (.tmp 23) rfl (by kernel_rfl) (by simp [toG, upd]) rfl (fun w k h => put_int _ _ _ _ _ _ w k h) ?_
 simp only [Act.put]
 refine lex_put [.int .u64 ((lo h : Nat) : Int), .string (hs h)] [.int .u64 0, .string ⟨#[]⟩] 8 34 (.tmp 24) rfl (by kernel_rfl) (by simp [toG, upd]) rfl (fun w k h => put_natc _ _ _ _ w k h) ?_
 simp only [Act.put]
 refine lexG_nil ?_
 intro κ x3 hS
 replace hL0 := hL0.ghs hS [(8, [.int .u64 ((lo h : Nat) : Int), .string (hs h)]), (7, [.int .u64 ((zl v : Nat) : Int), .string (zh v), .bool (zs v)])] (by simp) (by intro p hp; simp only [List.mem_cons, List.not_mem_nil, or_false] at hp; rcases hp with rfl | rfl <;> exact ⟨_, by simp only [toG, upd]; rfl⟩)
 simp only [List.map_cons, List.map_nil, List.cons_append, List.nil_append] at hL0
 simp only [over_toG, over_nil, Act.put, List.setIfInBounds_toArray, List.set_cons_succ, List.set_cons_zero]
 clear hS
 generalize κ 8 = k3_8 at *
 generalize κ 7 = k3_7 at *
 go_upto_region 3 with fail
 obtain ⟨α, iα, F, hF1, hF2⟩ := cls x3
 have hq0 := cls_box hF1 hL0 _ _ List.mem_cons_self
 simp only [cellsC, and_true, Nat.zero_add, Nat.reduceAdd] at hq0
 have hq1 := cls_box hF1 hL0 _ _ (List.mem_cons_of_mem _ List.mem_cons_self)
 simp only [cellsC, and_true, Nat.zero_add, Nat.reduceAdd] at hq1
 have hq2 := cls_box hF1 hL0 _ _ (List.mem_cons_of_mem _ (List.mem_cons_of_mem _ List.mem_cons_self))
 simp only [cellsC, and_true, Nat.zero_add, Nat.reduceAdd] at hq2
 have hq3 := cls_box hF1 hL0 _ _ (List.mem_cons_of_mem _ (List.mem_cons_of_mem _ (List.mem_cons_of_mem _ List.mem_cons_self)))
 simp only [cellsC, and_true, Nat.zero_add, Nat.reduceAdd] at hq3
 refine region_qs 7 (C := fun w' => ∃ x, w' = F x) (by kernel_rfl) (by kernel_rfl) (cls_drew hF2) ?_
 simp only [List.take_succ_cons, List.take_zero, List.drop_succ_cons, List.drop_zero, List.take_nil, List.drop_nil]
 repeat (go_big_quiet_step (first | fail | (go_at_call 85; with_reducible exact cls_call hF1 hF2 HM.out _) | (go_at_call 86; with_reducible exact cls_call hF1 hF2 HP.out _) | (go_at_call 84; with_reducible exact cls_call hF1 hF2 HL.out _)))
 refine wpQuiet_nil ?_
 rintro wq ⟨xq, rfl⟩
 replace hL0 := hL0.call (hF1 xq)
 clear  hq0 hq1 hq2 hq3 hF2
 generalize F xq = x4 at hL0 ⊢
 clear hF1 xq iα F α
 have hA := hL0.fc
 simp only [fcG, cellsF, neK, and_true, ne_eq, Nat.zero_add, Nat.reduceAdd] at hA
 have hP := hL0.put 4 (w.heap.size + 1 + 1) _ rfl [.int .u64 ((zl y : Nat) : Int), .string (zh y), .bool (zs y), .int .u64 ((lo f : Nat) : Int), .string (hs f)] rfl
 simp only [setAll, List.set_cons_zero, List.set_cons_succ] at hP
 generalize hput1 : (((((x4.setCell ⟨w.heap.size + 1 + 1, 0, none⟩ (.int .u64 ((zl y : Nat) : Int))).setCell ⟨w.heap.size + 1 + 1, 1, none⟩ (.string (zh y))).setCell ⟨w.heap.size + 1 + 1, 2, none⟩ (.bool (zs y))).setCell ⟨w.heap.size + 1 + 1, 3, none⟩ (.int .u64 ((lo f : Nat) : Int))).setCell ⟨w.heap.size + 1 + 1, 4, none⟩ (.string (hs f))) = x5 at hP
 have hB1 := hP.fc
 simp only [fcG, cellsF, neK, and_true, ne_eq, Nat.zero_add, Nat.reduceAdd] at hB1
 replace hL0 := hP
 go_wp2_with fail
 exact bodyPost_ret (v := frV y f) (by simp [results, Tryz.results36, go_sem, hB1]) rfl ⟨rfl, hL0.bl⟩
set_option maxHeartbeats 4000000 in
set_option maxRecDepth 100000 in
theorem fcombine_add (m n x y s u z : Int) (d e p0 q0 g p q r t v f : Nat) (HD : RT 83 #[frV m d] (natV p0)) (HE : RT 83 #[frV n e] (natV q0)) (HG : RT 126 #[natV p0, natV q0] (natV g)) (HP : RT 127 #[natV p0, natV g] (natV p)) (HQ : RT 127 #[natV q0, natV g] (natV q)) (HS : RT 94 #[intV m, natV q] (intV x)) (HT : RT 94 #[intV n, natV p] (intV y)) (HB : RT 81 #[intV x, intV y] (intV s)) (HC : RT 82 #[intV s, natV g] (.tuple #[intV u, natV r])) (HU : RT 86 #[natV p, natV q] (natV t)) (HV : RT 86 #[natV t, natV r] (natV v)) (HL : RT 84 #[intV u, natV v] (frV z f)) (w : World) :
  Calls Tryz.prog 80 #[frV m d, frV n e, .func (.func 81) #[] #[]] w fun xe w' => xe = .returned (frV z f) ∧ Below w.heap.size w w' := by
 have hL0 : GL w w [] := GL.start w
 replace HD := Lib.hid HD
 replace HE := Lib.hid HE
 replace HG := Lib.hid HG
 replace HP := Lib.hid HP
 replace HQ := Lib.hid HQ
 replace HS := Lib.hid HS
 replace HT := Lib.hid HT
 replace HB := Lib.hid HB
 replace HC := Lib.hid HC
 replace HU := Lib.hid HU
 replace HV := Lib.hid HV
 replace HL := Lib.hid HL
 replace hL0 := (((hL0.new rfl [.int .u64 ((zl m : Nat) : Int), .string (zh m), .bool (zs m), .int .u64 ((lo d : Nat) : Int), .string (hs d)] 38).new (K := w.heap.size + 1) (szA _ _) [.int .u64 ((zl n : Nat) : Int), .string (zh n), .bool (zs n), .int .u64 ((lo e : Nat) : Int), .string (hs e)] 38).new (K := w.heap.size + 1 + 1) (by simp only [World.size_alloc]) [.int .u64 0, .string ⟨#[]⟩, .bool false, .int .u64 0, .string ⟨#[]⟩] 38)
 generalize hweq : (((w.alloc (.cells #[.int .u64 ((zl m : Nat) : Int), .string (zh m), .bool (zs m), .int .u64 ((lo d : Nat) : Int), .string (hs d)] 38)).alloc (.cells #[.int .u64 ((zl n : Nat) : Int), .string (zh n), .bool (zs n), .int .u64 ((lo e : Nat) : Int), .string (hs e)] 38)).alloc (.cells #[.int .u64 0, .string ⟨#[]⟩, .bool false, .int .u64 0, .string ⟨#[]⟩] 38)) = x1 at hL0
 go_enter Tryz.func80, Tryz.ntmps80
 go_upto_region 1 with fail
 clear hweq
 refine region_gh (by kernel_rfl) (by kernel_rfl) ?_
 refine lex_seg (gl := []) 5 (by kernel_rfl) ?_
 intro α iα F hF1 hF2
 have hq := GL.seg hF1 hL0
 simp only [fcC, cellsC, and_true, Nat.zero_add, Nat.reduceAdd] at hq
 simp only [List.take_succ_cons, List.take_zero, List.drop_succ_cons, List.drop_zero, List.take_nil, List.drop_nil]
 repeat (go_big_quiet_step (first | fail | (go_at_call 83; with_reducible exact seg_call hF2 HD.out _) | (go_at_call 83; with_reducible exact seg_call hF2 HE.out _) | (go_at_call 126; with_reducible exact seg_call hF2 HG.out _)))
 refine wpQuiet_nil ?_
 clear hq hF1 hF2 iα F α
 refine lex_new [.int .u64 0, .string ⟨#[]⟩] 7 34 34 rfl rfl (of_decide_eq_true (by kernel_rfl)) (by kernel_rfl) rfl new_natc ?_
 simp only [Act.put, List.setIfInBounds_toArray, List.set_cons_succ, List.set_cons_zero]
 refine lex_put [.int .u64 ((lo g : Nat) : Int), .string (hs g)] [.int .u64 0, .string ⟨#[]⟩] 7 34 (.tmp 16) rfl (by kernel_rfl) (by simp [toG, upd]) rfl (fun w k h => put_natc _ _ _ _ w k h) ?_
 simp only [Act.put]
 refine lexG_nil ?_
 intro κ x2 hS
 replace hL0 := hL0.ghs hS [(7, [.int .u64 ((lo g : Nat) : Int), .string (hs g)])] (by simp) (by intro p hp; simp only [List.mem_cons, List.not_mem_nil, or_false] at hp; rcases hp with rfl <;> exact ⟨_, by simp only [toG, upd]; rfl⟩)
 simp only [List.map_cons, List.map_nil, List.cons_append, List.nil_append] at hL0
 simp only [over_toG, over_nil, Act.put, List.setIfInBounds_toArray, List.set_cons_succ, List.set_cons_zero]
 clear hS
 generalize κ 7 = k2_7 at *
 go_upto_region 2 with fail
 refine region_gh (by kernel_rfl) (by kernel_rfl) ?_
 refine lex_seg (gl := []) 8 (by kernel_rfl) ?_
 intro α iα F hF1 hF2
 have hq := GL.seg hF1 hL0
 simp only [fcC, cellsC, and_true, Nat.zero_add, Nat.reduceAdd] at hq
 simp only [List.take_succ_cons, List.take_zero, List.drop_succ_cons, List.drop_zero, List.take_nil, List.drop_nil]
 repeat (go_big_quiet_step (first | fail | (go_at_call 83; with_reducible exact seg_call hF2 HD.out _) | (go_at_call 127; with_reducible exact seg_call hF2 HP.out _) | (go_at_call 83; with_reducible exact seg_call hF2 HE.out _) | (go_at_call 127; with_reducible exact seg_call hF2 HQ.out _)))
 refine wpQuiet_nil ?_
 clear hq hF1 hF2 iα F α
 refine lex_new [.int .u64 0, .string ⟨#[]⟩] 8 34 34 rfl rfl (of_decide_eq_true (by kernel_rfl)) (by kernel_rfl) rfl new_natc ?_
 simp only [Act.put, List.setIfInBounds_toArray, List.set_cons_succ, List.set_cons_zero]
 refine lex_new [.int .u64 0, .string ⟨#[]⟩] 9 34 34 rfl rfl (of_decide_eq_true (by kernel_rfl)) (by kernel_rfl) rfl new_natc ?_
 simp only [Act.put, List.setIfInBounds_toArray, List.set_cons_succ, List.set_cons_zero]
 refine lex_put [.int .u64 ((lo p : Nat) : Int), .string (hs p)] [.int .u64 0, .string ⟨#[]⟩] 8 34 (.tmp 20) rfl (by kernel_rfl) (by simp [toG, upd]) rfl (fun w k h => put_natc _ _ _ _ w k h) ?_
 simp only [Act.put]
 refine lex_put [.int .u64 ((lo q : Nat) : Int), .string (hs q)] [.int .u64 0, .string ⟨#[]⟩] 9 34 (.tmp 24) rfl (by kernel_rfl) (by simp [toG, upd]) rfl (fun w k h => put_natc _ _ _ _ w k h) ?_
 simp only [Act.put]
 refine lexG_nil ?_
 intro κ x3 hS
 replace hL0 := hL0.ghs hS [(9, [.int .u64 ((lo q : Nat) : Int), .string (hs q)]), (8, [.int .u64 ((lo p : Nat) : Int), .string (hs p)])] (by simp) (by intro p hp; simp only [List.mem_cons, List.not_mem_nil, or_false] at hp; rcases hp with rfl | rfl <;> exact ⟨_, by simp only [toG, upd]; rfl⟩)
 simp only [List.map_cons, List.map_nil, List.cons_append, List.nil_append] at hL0
 simp only [over_toG, over_nil, Act.put, List.setIfInBounds_toArray, List.set_cons_succ, List.set_cons_zero]
 clear hS
 generalize κ 9 = k3_9 at *
 generalize κ 8 = k3_8 at *
 go_upto_region 3 with fail
 refine region_gh (by kernel_rfl) (by kernel_rfl) ?_
 refine lex_seg (gl := []) 15 (by kernel_rfl) ?_
 intro α iα F hF1 hF2
 have hq := GL.seg hF1 hL0
 simp only [fcC, cellsC, and_true, Nat.zero_add, Nat.reduceAdd] at hq
 simp only [List.take_succ_cons, List.take_zero, List.drop_succ_cons, List.drop_zero, List.take_nil, List.drop_nil]
 repeat (go_big_quiet_step (first | fail | (go_at_call 94; with_reducible exact seg_call hF2 HS.out _) | (go_at_call 94; with_reducible exact seg_call hF2 HT.out _) | (go_at_call 81; with_reducible exact seg_call hF2 HB.out _) | (go_at_call 82; with_reducible exact seg_call hF2 HC.out _)))
 refine wpQuiet_nil ?_
 clear hq hF1 hF2 iα F α
 refine lex_new [.int .u64 0, .string ⟨#[]⟩, .bool false] 10 36 36 rfl rfl (of_decide_eq_true (by kernel_rfl)) (by kernel_rfl) rfl new_int ?_
 simp only [Act.put, List.setIfInBounds_toArray, List.set_cons_succ, List.set_cons_zero]
 refine lex_new [.int .u64 0, .string ⟨#[]⟩] 11 34 34 rfl rfl (of_decide_eq_true (by kernel_rfl)) (by kernel_rfl) rfl new_natc ?_
 simp only [Act.put, List.setIfInBounds_toArray, List.set_cons_succ, List.set_cons_zero]
 refine lex_put [.int .u64 ((zl u : Nat) : Int), .string (zh u), .bool (zs u)] [.int .u64 0, .string ⟨#[]⟩, .bool false] 10 36 (.tmp 38) rfl (by kernel_rfl) (by simp [toG, upd]) rfl (fun w k h => put_int _ _ _ _ _ _ w k h) ?_
 simp only [Act.put]
 refine lex_put [.int .u64 ((lo r : Nat) : Int), .string (hs r)] [.int .u64 0, .string ⟨#[]⟩] 11 34 (.tmp 39) rfl (by kernel_rfl) (by simp [toG, upd]) rfl (fun w k h => put_natc _ _ _ _ w k h) ?_
 simp only [Act.put]
 refine lexG_nil ?_
 intro κ x4 hS
 replace hL0 := hL0.ghs hS [(11, [.int .u64 ((lo r : Nat) : Int), .string (hs r)]), (10, [.int .u64 ((zl u : Nat) : Int), .string (zh u), .bool (zs u)])] (by simp) (by intro p hp; simp only [List.mem_cons, List.not_mem_nil, or_false] at hp; rcases hp with rfl | rfl <;> exact ⟨_, by simp only [toG, upd]; rfl⟩)
 simp only [List.map_cons, List.map_nil, List.cons_append, List.nil_append] at hL0
 simp only [over_toG, over_nil, Act.put, List.setIfInBounds_toArray, List.set_cons_succ, List.set_cons_zero]
 clear hS
 generalize κ 11 = k4_11 at *
 generalize κ 10 = k4_10 at *
 go_upto_region 4 with fail
 obtain ⟨α, iα, F, hF1, hF2⟩ := cls x4
 have hq0 := cls_box hF1 hL0 _ _ List.mem_cons_self
 simp only [cellsC, and_true, Nat.zero_add, Nat.reduceAdd] at hq0
 have hq1 := cls_box hF1 hL0 _ _ (List.mem_cons_of_mem _ List.mem_cons_self)
 simp only [cellsC, and_true, Nat.zero_add, Nat.reduceAdd] at hq1
 have hq2 := cls_box hF1 hL0 _ _ (List.mem_cons_of_mem _ (List.mem_cons_of_mem _ List.mem_cons_self))
 simp only [cellsC, and_true, Nat.zero_add, Nat.reduceAdd] at hq2
 have hq3 := cls_box hF1 hL0 _ _ (List.mem_cons_of_mem _ (List.mem_cons_of_mem _ (List.mem_cons_of_mem _ List.mem_cons_self)))
 simp only [cellsC, and_true, Nat.zero_add, Nat.reduceAdd] at hq3
 refine region_qs 7 (C := fun w' => ∃ x, w' = F x) (by kernel_rfl) (by kernel_rfl) (cls_drew hF2) ?_
 simp only [List.take_succ_cons, List.take_zero, List.drop_succ_cons, List.drop_zero, List.take_nil, List.drop_nil]
 repeat (go_big_quiet_step (first | fail | (go_at_call 86; with_reducible exact cls_call hF1 hF2 HU.out _) | (go_at_call 86; with_reducible exact cls_call hF1 hF2 HV.out _) | (go_at_call 84; with_reducible exact cls_call hF1 hF2 HL.out _)))
 refine wpQuiet_nil ?_
 rintro wq ⟨xq, rfl⟩
 replace hL0 := hL0.call (hF1 xq)
 clear  hq0 hq1 hq2 hq3 hF2
 generalize F xq = x5 at hL0 ⊢
 clear hF1 xq iα F α
 have hA := hL0.fc
 simp only [fcG, cellsF, neK, and_true, ne_eq, Nat.zero_add, Nat.reduceAdd] at hA
 have hP := hL0.put 5 (w.heap.size + 1 + 1) _ rfl [.int .u64 ((zl z : Nat) : Int), .string (zh z), .bool (zs z), .int .u64 ((lo f : Nat) : Int), .string (hs f)] rfl
 simp only [setAll, List.set_cons_zero, List.set_cons_succ] at hP
 generalize hput1 : (((((x5.setCell ⟨w.heap.size + 1 + 1, 0, none⟩ (.int .u64 ((zl z : Nat) : Int))).setCell ⟨w.heap.size + 1 + 1, 1, none⟩ (.string (zh z))).setCell ⟨w.heap.size + 1 + 1, 2, none⟩ (.bool (zs z))).setCell ⟨w.heap.size + 1 + 1, 3, none⟩ (.int .u64 ((lo f : Nat) : Int))).setCell ⟨w.heap.size + 1 + 1, 4, none⟩ (.string (hs f))) = x6 at hP
 have hB1 := hP.fc
 simp only [fcG, cellsF, neK, and_true, ne_eq, Nat.zero_add, Nat.reduceAdd] at hB1
 replace hL0 := hP
 go_wp2_with fail
 exact bodyPost_ret (v := frV z f) (by simp [results, Tryz.results80, go_sem, hB1]) rfl ⟨rfl, hL0.bl⟩
set_option maxHeartbeats 4000000 in
set_option maxRecDepth 100000 in
theorem fadd_w (m n z : Int) (d e f : Nat) (HC : RT 80 #[frV m d, frV n e, .func (.func 81) #[] #[]] (frV z f)) (w : World) :
  Calls Tryz.prog 35 #[frV m d, frV n e] w fun xe w' => xe = .returned (frV z f) ∧ Below w.heap.size w w' := by
 have hL0 : GL w w [] := GL.start w
 replace HC := Lib.hid HC
 replace hL0 := (((hL0.new rfl [.int .u64 ((zl m : Nat) : Int), .string (zh m), .bool (zs m), .int .u64 ((lo d : Nat) : Int), .string (hs d)] 38).new (K := w.heap.size + 1) (szA _ _) [.int .u64 ((zl n : Nat) : Int), .string (zh n), .bool (zs n), .int .u64 ((lo e : Nat) : Int), .string (hs e)] 38).new (K := w.heap.size + 1 + 1) (by simp only [World.size_alloc]) [.int .u64 0, .string ⟨#[]⟩, .bool false, .int .u64 0, .string ⟨#[]⟩] 38)
 generalize hweq : (((w.alloc (.cells #[.int .u64 ((zl m : Nat) : Int), .string (zh m), .bool (zs m), .int .u64 ((lo d : Nat) : Int), .string (hs d)] 38)).alloc (.cells #[.int .u64 ((zl n : Nat) : Int), .string (zh n), .bool (zs n), .int .u64 ((lo e : Nat) : Int), .string (hs e)] 38)).alloc (.cells #[.int .u64 0, .string ⟨#[]⟩, .bool false, .int .u64 0, .string ⟨#[]⟩] 38)) = x1 at hL0
 go_enter Tryz.func35, Tryz.ntmps35
 have hN0 := cells_of _ 0 [] rfl (hL0.get _ _ (List.mem_cons_of_mem _ List.mem_cons_self))
 simp only [cellsF, and_true, Nat.zero_add, Nat.reduceAdd] at hN0
 have hN1 := cells_of _ 0 [] rfl (hL0.get _ _ (List.mem_cons_of_mem _ (List.mem_cons_of_mem _ List.mem_cons_self)))
 simp only [cellsF, and_true, Nat.zero_add, Nat.reduceAdd] at hN1
 go_wp2_with fail
 clear hN0 hN1
 with_reducible refine Calls.mono (HC.out _) ?_
 rintro e x2 ⟨rfl, hb⟩
 replace hL0 := hL0.call hb
 clear hb hweq
 have hA := hL0.fc
 simp only [fcG, cellsF, neK, and_true, ne_eq, Nat.zero_add, Nat.reduceAdd] at hA
 have hP := hL0.put 0 (w.heap.size + 1 + 1) _ rfl [.int .u64 ((zl z : Nat) : Int), .string (zh z), .bool (zs z), .int .u64 ((lo f : Nat) : Int), .string (hs f)] rfl
 simp only [setAll, List.set_cons_zero, List.set_cons_succ] at hP
 generalize hput1 : (((((x2.setCell ⟨w.heap.size + 1 + 1, 0, none⟩ (.int .u64 ((zl z : Nat) : Int))).setCell ⟨w.heap.size + 1 + 1, 1, none⟩ (.string (zh z))).setCell ⟨w.heap.size + 1 + 1, 2, none⟩ (.bool (zs z))).setCell ⟨w.heap.size + 1 + 1, 3, none⟩ (.int .u64 ((lo f : Nat) : Int))).setCell ⟨w.heap.size + 1 + 1, 4, none⟩ (.string (hs f))) = x3 at hP
 have hB1 := hP.fc
 simp only [fcG, cellsF, neK, and_true, ne_eq, Nat.zero_add, Nat.reduceAdd] at hB1
 replace hL0 := hP
 go_wp2_with fail
 exact bodyPost_ret (v := frV z f) (by simp [results, Tryz.results35, go_sem, hB1]) rfl ⟨rfl, hL0.bl⟩
set_option maxHeartbeats 4000000 in
set_option maxRecDepth 100000 in
theorem fcombine_sub (m n x y s u z : Int) (d e p0 q0 g p q r t v f : Nat) (HD : RT 83 #[frV m d] (natV p0)) (HE : RT 83 #[frV n e] (natV q0)) (HG : RT 126 #[natV p0, natV q0] (natV g)) (HP : RT 127 #[natV p0, natV g] (natV p)) (HQ : RT 127 #[natV q0, natV g] (natV q)) (HS : RT 94 #[intV m, natV q] (intV x)) (HT : RT 94 #[intV n, natV p] (intV y)) (HB : RT 103 #[intV x, intV y] (intV s)) (HC : RT 82 #[intV s, natV g] (.tuple #[intV u, natV r])) (HU : RT 86 #[natV p, natV q] (natV t)) (HV : RT 86 #[natV t, natV r] (natV v)) (HL : RT 84 #[intV u, natV v] (frV z f)) (w : World) :
  Calls Tryz.prog 80 #[frV m d, frV n e, .func (.func 103) #[] #[]] w fun xe w' => xe = .returned (frV z f) ∧ Below w.heap.size w w' := by
 have hL0 : GL w w [] := GL.start w
 replace HD := Lib.hid HD
 replace HE := Lib.hid HE
 replace HG := Lib.hid HG
 replace HP := Lib.hid HP
 replace HQ := Lib.hid HQ
 replace HS := Lib.hid HS
 replace HT := Lib.hid HT
 replace HB := Lib.hid HB
 replace HC := Lib.hid HC
 replace HU := Lib.hid HU
 replace HV := Lib.hid HV
 replace HL := Lib.hid HL
 replace hL0 := (((hL0.new rfl [.int .u64 ((zl m : Nat) : Int), .string (zh m), .bool (zs m), .int .u64 ((lo d : Nat) : Int), .string (hs d)] 38).new (K := w.heap.size + 1) (szA _ _) [.int .u64 ((zl n : Nat) : Int), .string (zh n), .bool (zs n), .int .u64 ((lo e : Nat) : Int), .string (hs e)] 38).new (K := w.heap.size + 1 + 1) (by simp only [World.size_alloc]) [.int .u64 0, .string ⟨#[]⟩, .bool false, .int .u64 0, .string ⟨#[]⟩] 38)
 generalize hweq : (((w.alloc (.cells #[.int .u64 ((zl m : Nat) : Int), .string (zh m), .bool (zs m), .int .u64 ((lo d : Nat) : Int), .string (hs d)] 38)).alloc (.cells #[.int .u64 ((zl n : Nat) : Int), .string (zh n), .bool (zs n), .int .u64 ((lo e : Nat) : Int), .string (hs e)] 38)).alloc (.cells #[.int .u64 0, .string ⟨#[]⟩, .bool false, .int .u64 0, .string ⟨#[]⟩] 38)) = x1 at hL0
 go_enter Tryz.func80, Tryz.ntmps80
 go_upto_region 1 with fail
 clear hweq
 refine region_gh (by kernel_rfl) (by kernel_rfl) ?_
 refine lex_seg (gl := []) 5 (by kernel_rfl) ?_
 intro α iα F hF1 hF2
 have hq := GL.seg hF1 hL0
 simp only [fcC, cellsC, and_true, Nat.zero_add, Nat.reduceAdd] at hq
 simp only [List.take_succ_cons, List.take_zero, List.drop_succ_cons, List.drop_zero, List.take_nil, List.drop_nil]
 repeat (go_big_quiet_step (first | fail | (go_at_call 83; with_reducible exact seg_call hF2 HD.out _) | (go_at_call 83; with_reducible exact seg_call hF2 HE.out _) | (go_at_call 126; with_reducible exact seg_call hF2 HG.out _)))
 refine wpQuiet_nil ?_
 clear hq hF1 hF2 iα F α
 refine lex_new [.int .u64 0, .string ⟨#[]⟩] 7 34 34 rfl rfl (of_decide_eq_true (by kernel_rfl)) (by kernel_rfl) rfl new_natc ?_
 simp only [Act.put, List.setIfInBounds_toArray, List.set_cons_succ, List.set_cons_zero]
 refine lex_put [.int .u64 ((lo g : Nat) : Int), .string (hs g)] [.int .u64 0, .string ⟨#[]⟩] 7 34 (.tmp 16) rfl (by kernel_rfl) (by simp [toG, upd]) rfl (fun w k h => put_natc _ _ _ _ w k h) ?_
 simp only [Act.put]
 refine lexG_nil ?_
 intro κ x2 hS
 replace hL0 := hL0.ghs hS [(7, [.int .u64 ((lo g : Nat) : Int), .string (hs g)])] (by simp) (by intro p hp; simp only [List.mem_cons, List.not_mem_nil, or_false] at hp; rcases hp with rfl <;> exact ⟨_, by simp only [toG, upd]; rfl⟩)
 simp only [List.map_cons, List.map_nil, List.cons_append, List.nil_append] at hL0
 simp only [over_toG, over_nil, Act.put, List.setIfInBounds_toArray, List.set_cons_succ, List.set_cons_zero]
 clear hS
 generalize κ 7 = k2_7 at *
 go_upto_region 2 with fail
 refine region_gh (by kernel_rfl) (by kernel_rfl) ?_
 refine lex_seg (gl := []) 8 (by kernel_rfl) ?_
 intro α iα F hF1 hF2
 have hq := GL.seg hF1 hL0
 simp only [fcC, cellsC, and_true, Nat.zero_add, Nat.reduceAdd] at hq
 simp only [List.take_succ_cons, List.take_zero, List.drop_succ_cons, List.drop_zero, List.take_nil, List.drop_nil]
 repeat (go_big_quiet_step (first | fail | (go_at_call 83; with_reducible exact seg_call hF2 HD.out _) | (go_at_call 127; with_reducible exact seg_call hF2 HP.out _) | (go_at_call 83; with_reducible exact seg_call hF2 HE.out _) | (go_at_call 127; with_reducible exact seg_call hF2 HQ.out _)))
 refine wpQuiet_nil ?_
 clear hq hF1 hF2 iα F α
 refine lex_new [.int .u64 0, .string ⟨#[]⟩] 8 34 34 rfl rfl (of_decide_eq_true (by kernel_rfl)) (by kernel_rfl) rfl new_natc ?_
 simp only [Act.put, List.setIfInBounds_toArray, List.set_cons_succ, List.set_cons_zero]
 refine lex_new [.int .u64 0, .string ⟨#[]⟩] 9 34 34 rfl rfl (of_decide_eq_true (by kernel_rfl)) (by kernel_rfl) rfl new_natc ?_
 simp only [Act.put, List.setIfInBounds_toArray, List.set_cons_succ, List.set_cons_zero]
 refine lex_put [.int .u64 ((lo p : Nat) : Int), .string (hs p)] [.int .u64 0, .string ⟨#[]⟩] 8 34 (.tmp 20) rfl (by kernel_rfl) (by simp [toG, upd]) rfl (fun w k h => put_natc _ _ _ _ w k h) ?_
 simp only [Act.put]
 refine lex_put [.int .u64 ((lo q : Nat) : Int), .string (hs q)] [.int .u64 0, .string ⟨#[]⟩] 9 34 (.tmp 24) rfl (by kernel_rfl) (by simp [toG, upd]) rfl (fun w k h => put_natc _ _ _ _ w k h) ?_
 simp only [Act.put]
 refine lexG_nil ?_
 intro κ x3 hS
 replace hL0 := hL0.ghs hS [(9, [.int .u64 ((lo q : Nat) : Int), .string (hs q)]), (8, [.int .u64 ((lo p : Nat) : Int), .string (hs p)])] (by simp) (by intro p hp; simp only [List.mem_cons, List.not_mem_nil, or_false] at hp; rcases hp with rfl | rfl <;> exact ⟨_, by simp only [toG, upd]; rfl⟩)
 simp only [List.map_cons, List.map_nil, List.cons_append, List.nil_append] at hL0
 simp only [over_toG, over_nil, Act.put, List.setIfInBounds_toArray, List.set_cons_succ, List.set_cons_zero]
 clear hS
 generalize κ 9 = k3_9 at *
 generalize κ 8 = k3_8 at *
 go_upto_region 3 with fail
 refine region_gh (by kernel_rfl) (by kernel_rfl) ?_
 refine lex_seg (gl := []) 15 (by kernel_rfl) ?_
 intro α iα F hF1 hF2
 have hq := GL.seg hF1 hL0
 simp only [fcC, cellsC, and_true, Nat.zero_add, Nat.reduceAdd] at hq
 simp only [List.take_succ_cons, List.take_zero, List.drop_succ_cons, List.drop_zero, List.take_nil, List.drop_nil]
 repeat (go_big_quiet_step (first | fail | (go_at_call 94; with_reducible exact seg_call hF2 HS.out _) | (go_at_call 94; with_reducible exact seg_call hF2 HT.out _) | (go_at_call 103; with_reducible exact seg_call hF2 HB.out _) | (go_at_call 82; with_reducible exact seg_call hF2 HC.out _)))
 refine wpQuiet_nil ?_
 clear hq hF1 hF2 iα F α
 refine lex_new [.int .u64 0, .string ⟨#[]⟩, .bool false] 10 36 36 rfl rfl (of_decide_eq_true (by kernel_rfl)) (by kernel_rfl) rfl new_int ?_
 simp only [Act.put, List.setIfInBounds_toArray, List.set_cons_succ, List.set_cons_zero]
 refine lex_new [.int .u64 0, .string ⟨#[]⟩] 11 34 34 rfl rfl (of_decide_eq_true (by kernel_rfl)) (by kernel_rfl) rfl new_natc ?_
 simp only [Act.put, List.setIfInBounds_toArray, List.set_cons_succ, List.set_cons_zero]
 refine lex_put [.int .u64 ((zl u : Nat) : Int), .string (zh u), .bool (zs u)] [.int .u64 0, .string ⟨#[]⟩, .bool false] 10 36 (.tmp 38) rfl (by kernel_rfl) (by simp [toG, upd]) rfl (fun w k h => put_int _ _ _ _ _ _ w k h) ?_
 simp only [Act.put]
 refine lex_put [.int .u64 ((lo r : Nat) : Int), .string (hs r)] [.int .u64 0, .string ⟨#[]⟩] 11 34 (.tmp 39) rfl (by kernel_rfl) (by simp [toG, upd]) rfl (fun w k h => put_natc _ _ _ _ w k h) ?_
 simp only [Act.put]
 refine lexG_nil ?_
 intro κ x4 hS
 replace hL0 := hL0.ghs hS [(11, [.int .u64 ((lo r : Nat) : Int), .string (hs r)]), (10, [.int .u64 ((zl u : Nat) : Int), .string (zh u), .bool (zs u)])] (by simp) (by intro p hp; simp only [List.mem_cons, List.not_mem_nil, or_false] at hp; rcases hp with rfl | rfl <;> exact ⟨_, by simp only [toG, upd]; rfl⟩)
 simp only [List.map_cons, List.map_nil, List.cons_append, List.nil_append] at hL0
 simp only [over_toG, over_nil, Act.put, List.setIfInBounds_toArray, List.set_cons_succ, List.set_cons_zero]
 clear hS
 generalize κ 11 = k4_11 at *
 generalize κ 10 = k4_10 at *
 go_upto_region 4 with fail
 obtain ⟨α, iα, F, hF1, hF2⟩ := cls x4
 have hq0 := cls_box hF1 hL0 _ _ List.mem_cons_self
 simp only [cellsC, and_true, Nat.zero_add, Nat.reduceAdd] at hq0
 have hq1 := cls_box hF1 hL0 _ _ (List.mem_cons_of_mem _ List.mem_cons_self)
 simp only [cellsC, and_true, Nat.zero_add, Nat.reduceAdd] at hq1
 have hq2 := cls_box hF1 hL0 _ _ (List.mem_cons_of_mem _ (List.mem_cons_of_mem _ List.mem_cons_self))
 simp only [cellsC, and_true, Nat.zero_add, Nat.reduceAdd] at hq2
 have hq3 := cls_box hF1 hL0 _ _ (List.mem_cons_of_mem _ (List.mem_cons_of_mem _ (List.mem_cons_of_mem _ List.mem_cons_self)))
 simp only [cellsC, and_true, Nat.zero_add, Nat.reduceAdd] at hq3
 refine region_qs 7 (C := fun w' => ∃ x, w' = F x) (by kernel_rfl) (by kernel_rfl) (cls_drew hF2) ?_
 simp only [List.take_succ_cons, List.take_zero, List.drop_succ_cons, List.drop_zero, List.take_nil, List.drop_nil]
 repeat (go_big_quiet_step (first | fail | (go_at_call 86; with_reducible exact cls_call hF1 hF2 HU.out _) | (go_at_call 86; with_reducible exact cls_call hF1 hF2 HV.out _) | (go_at_call 84; with_reducible exact cls_call hF1 hF2 HL.out _)))
 refine wpQuiet_nil ?_
 rintro wq ⟨xq, rfl⟩
 replace hL0 := hL0.call (hF1 xq)
 clear  hq0 hq1 hq2 hq3 hF2
 generalize F xq = x5 at hL0 ⊢
 clear hF1 xq iα F α
 have hA := hL0.fc
 simp only [fcG, cellsF, neK, and_true, ne_eq, Nat.zero_add, Nat.reduceAdd] at hA
 have hP := hL0.put 5 (w.heap.size + 1 + 1) _ rfl [.int .u64 ((zl z : Nat) : Int), .string (zh z), .bool (zs z), .int .u64 ((lo f : Nat) : Int), .string (hs f)] rfl
 simp only [setAll, List.set_cons_zero, List.set_cons_succ] at hP
 generalize hput1 : (((((x5.setCell ⟨w.heap.size + 1 + 1, 0, none⟩ (.int .u64 ((zl z : Nat) : Int))).setCell ⟨w.heap.size + 1 + 1, 1, none⟩ (.string (zh z))).setCell ⟨w.heap.size + 1 + 1, 2, none⟩ (.bool (zs z))).setCell ⟨w.heap.size + 1 + 1, 3, none⟩ (.int .u64 ((lo f : Nat) : Int))).setCell ⟨w.heap.size + 1 + 1, 4, none⟩ (.string (hs f))) = x6 at hP
 have hB1 := hP.fc
 simp only [fcG, cellsF, neK, and_true, ne_eq, Nat.zero_add, Nat.reduceAdd] at hB1
 replace hL0 := hP
 go_wp2_with fail
 exact bodyPost_ret (v := frV z f) (by simp [results, Tryz.results80, go_sem, hB1]) rfl ⟨rfl, hL0.bl⟩
set_option maxHeartbeats 4000000 in
set_option maxRecDepth 100000 in
theorem fsub_w (m n z : Int) (d e f : Nat) (HC : RT 80 #[frV m d, frV n e, .func (.func 103) #[] #[]] (frV z f)) (w : World) :
  Calls Tryz.prog 57 #[frV m d, frV n e] w fun xe w' => xe = .returned (frV z f) ∧ Below w.heap.size w w' := by
 have hL0 : GL w w [] := GL.start w
 replace HC := Lib.hid HC
 replace hL0 := (((hL0.new rfl [.int .u64 ((zl m : Nat) : Int), .string (zh m), .bool (zs m), .int .u64 ((lo d : Nat) : Int), .string (hs d)] 38).new (K := w.heap.size + 1) (szA _ _) [.int .u64 ((zl n : Nat) : Int), .string (zh n), .bool (zs n), .int .u64 ((lo e : Nat) : Int), .string (hs e)] 38).new (K := w.heap.size + 1 + 1) (by simp only [World.size_alloc]) [.int .u64 0, .string ⟨#[]⟩, .bool false, .int .u64 0, .string ⟨#[]⟩] 38)
 generalize hweq : (((w.alloc (.cells #[.int .u64 ((zl m : Nat) : Int), .string (zh m), .bool (zs m), .int .u64 ((lo d : Nat) : Int), .string (hs d)] 38)).alloc (.cells #[.int .u64 ((zl n : Nat) : Int), .string (zh n), .bool (zs n), .int .u64 ((lo e : Nat) : Int), .string (hs e)] 38)).alloc (.cells #[.int .u64 0, .string ⟨#[]⟩, .bool false, .int .u64 0, .string ⟨#[]⟩] 38)) = x1 at hL0
 go_enter Tryz.func57, Tryz.ntmps57
 have hN0 := cells_of _ 0 [] rfl (hL0.get _ _ (List.mem_cons_of_mem _ List.mem_cons_self))
 simp only [cellsF, and_true, Nat.zero_add, Nat.reduceAdd] at hN0
 have hN1 := cells_of _ 0 [] rfl (hL0.get _ _ (List.mem_cons_of_mem _ (List.mem_cons_of_mem _ List.mem_cons_self)))
 simp only [cellsF, and_true, Nat.zero_add, Nat.reduceAdd] at hN1
 go_wp2_with fail
 clear hN0 hN1
 with_reducible refine Calls.mono (HC.out _) ?_
 rintro e x2 ⟨rfl, hb⟩
 replace hL0 := hL0.call hb
 clear hb hweq
 have hA := hL0.fc
 simp only [fcG, cellsF, neK, and_true, ne_eq, Nat.zero_add, Nat.reduceAdd] at hA
 have hP := hL0.put 0 (w.heap.size + 1 + 1) _ rfl [.int .u64 ((zl z : Nat) : Int), .string (zh z), .bool (zs z), .int .u64 ((lo f : Nat) : Int), .string (hs f)] rfl
 simp only [setAll, List.set_cons_zero, List.set_cons_succ] at hP
 generalize hput1 : (((((x2.setCell ⟨w.heap.size + 1 + 1, 0, none⟩ (.int .u64 ((zl z : Nat) : Int))).setCell ⟨w.heap.size + 1 + 1, 1, none⟩ (.string (zh z))).setCell ⟨w.heap.size + 1 + 1, 2, none⟩ (.bool (zs z))).setCell ⟨w.heap.size + 1 + 1, 3, none⟩ (.int .u64 ((lo f : Nat) : Int))).setCell ⟨w.heap.size + 1 + 1, 4, none⟩ (.string (hs f))) = x3 at hP
 have hB1 := hP.fc
 simp only [fcG, cellsF, neK, and_true, ne_eq, Nat.zero_add, Nat.reduceAdd] at hB1
 replace hL0 := hP
 go_wp2_with fail
 exact bodyPost_ret (v := frV z f) (by simp [results, Tryz.results57, go_sem, hB1]) rfl ⟨rfl, hL0.bl⟩
end Go.Proofs.YtoahpkelajimfaaGreatDoor
namespace Go.Proofs.YtoahpkelajimfaaGreatDoor
open Go.RowKit
attribute [local irreducible] lo hs sm s64 c64 d64 b64 mh ml pd pc qd qc val hiB str cmpI srD lz nb zl zh zs
set_option maxHeartbeats 4000000 in
set_option maxRecDepth 100000 in
theorem ffrom_w (n u z : Int) (d v f : Nat) (HO : RT 125 #[.int .u64 0] (natV 0)) (HC : RT 82 #[intV n, natV d] (.tuple #[intV u, natV v])) (HL : RT 84 #[intV u, natV v] (frV z f)) (hd : d ≠ 0) (w : World) :
  Calls Tryz.prog 99 #[intV n, natV d] w fun xe w' => xe = .returned (.tuple #[frV z f, .int .i64 0]) ∧ Below w.heap.size w w' := by
 have hL0 : GL w w [] := GL.start w
 replace HO := Lib.hid HO
 replace HC := Lib.hid HC
 replace HL := Lib.hid HL
 have hz := ne_nat hd
 clear hd
 rcases hz with e0 | ⟨e0, e1⟩
 all_goals (
  replace hL0 := (((hL0.new rfl [.int .u64 ((zl n : Nat) : Int), .string (zh n), .bool (zs n)] 36).new (K := w.heap.size + 1) (szA _ _) [.int .u64 ((lo d : Nat) : Int), .string (hs d)] 34).new (K := w.heap.size + 1 + 1) (by simp only [World.size_alloc]) [.int .u64 0, .string ⟨#[]⟩, .bool false, .int .u64 0, .string ⟨#[]⟩] 38)
  generalize hweq : (((w.alloc (.cells #[.int .u64 ((zl n : Nat) : Int), .string (zh n), .bool (zs n)] 36)).alloc (.cells #[.int .u64 ((lo d : Nat) : Int), .string (hs d)] 34)).alloc (.cells #[.int .u64 0, .string ⟨#[]⟩, .bool false, .int .u64 0, .string ⟨#[]⟩] 38)) = x1 at hL0
  go_enter Tryz.func99, Tryz.ntmps99
  go_upto_region 1 with fail
  clear hweq
  obtain ⟨α, iα, F, hF1, hF2⟩ := cls x1
  have hq0 := cls_box hF1 hL0 _ _ (List.mem_cons_of_mem _ List.mem_cons_self)
  simp only [cellsC, and_true, Nat.zero_add, Nat.reduceAdd] at hq0
  refine region_qs 3 (C := fun w' => ∃ x, w' = F x) (by kernel_rfl) (by kernel_rfl) (cls_drew hF2) ?_
  simp only [List.take_succ_cons, List.take_zero, List.drop_succ_cons, List.drop_zero, List.take_nil, List.drop_nil]
  repeat (go_big_quiet_step (first | fail | (go_at_call 125; with_reducible exact cls_call hF1 hF2 HO.out _)))
  refine wpQuiet_nil ?_
  rintro wq ⟨xq, rfl⟩
  replace hL0 := hL0.call (hF1 xq)
  clear  hq0 hF2
  generalize F xq = x2 at hL0 ⊢
  clear hF1 xq iα F α
  have hN0 := cells_of _ 0 [] rfl (hL0.get _ _ (List.mem_cons_of_mem _ List.mem_cons_self))
  simp only [cellsF, and_true, Nat.zero_add, Nat.reduceAdd] at hN0
  have hN1 := cells_of _ 0 [] rfl (hL0.get _ _ (List.mem_cons_of_mem _ (List.mem_cons_of_mem _ List.mem_cons_self)))
  simp only [cellsF, and_true, Nat.zero_add, Nat.reduceAdd] at hN1
  go_wp2_with fail
  clear hN0 hN1
  with_reducible refine Calls.mono (HC.out _) ?_
  rintro e x3 ⟨rfl, hb⟩
  replace hL0 := hL0.call hb
  clear hb
  go_wp2_with fail
  with_reducible refine Calls.mono (HL.out _) ?_
  rintro e x4 ⟨rfl, hb⟩
  replace hL0 := hL0.call hb
  clear hb
  have hA := hL0.fc
  simp only [fcG, cellsF, neK, and_true, ne_eq, Nat.zero_add, Nat.reduceAdd] at hA
  have hP := hL0.put 0 (w.heap.size + 1 + 1) _ rfl [.int .u64 ((zl z : Nat) : Int), .string (zh z), .bool (zs z), .int .u64 ((lo f : Nat) : Int), .string (hs f)] rfl
  simp only [setAll, List.set_cons_zero, List.set_cons_succ] at hP
  generalize hput1 : (((((x4.setCell ⟨w.heap.size + 1 + 1, 0, none⟩ (.int .u64 ((zl z : Nat) : Int))).setCell ⟨w.heap.size + 1 + 1, 1, none⟩ (.string (zh z))).setCell ⟨w.heap.size + 1 + 1, 2, none⟩ (.bool (zs z))).setCell ⟨w.heap.size + 1 + 1, 3, none⟩ (.int .u64 ((lo f : Nat) : Int))).setCell ⟨w.heap.size + 1 + 1, 4, none⟩ (.string (hs f))) = x5 at hP
  have hB1 := hP.fc
  simp only [fcG, cellsF, neK, and_true, ne_eq, Nat.zero_add, Nat.reduceAdd] at hB1
  replace hL0 := hP
  go_wp2_with fail
  exact bodyPost_ret (v := .tuple #[frV z f, .int .i64 0]) (by simp [results, Tryz.results99, go_sem, hB1]) rfl ⟨rfl, hL0.bl⟩)
end Go.Proofs.YtoahpkelajimfaaGreatDoor
namespace Go.Proofs.YtoahpkelajimfaaGreatDoor
open Go.RowKit
attribute [local irreducible] lo hs sm s64 c64 d64 b64 mh ml pd pc qd qc val hiB str cmpI srD lz nb zl zh zs
theorem fe_den (q : Rat) : q.den = if fe q = 0 then 1 else fe q := by
 unfold fe
 have := q.den_nz
 split <;> simp_all
theorem frV_z (n : Int) : frV n 0 = .agg #[.int .u64 ((zl n : Nat) : Int), .string (zh n), .bool (zs n), .int .u64 0, .string ⟨#[]⟩] := by unfold frV; rw [lo_small Bs_pos, hs_small Bs_pos]; rfl
theorem fracV_of {q : Rat} {n : Int} {d : Nat} (hn : q.num = n) (hd : q.den = d) : fracV q = frV n (if d = 1 then 0 else d) := by subst hn hd; rfl
theorem one_o (w : World) : Calls Tryz.prog 125 #[.int .u64 1] w fun e w' => e = .returned (natV 1) ∧ Below w.heap.size w w' := of_val 1 1 rfl (by unfold Bs; omega) w
theorem zero_o (w : World) : Calls Tryz.prog 125 #[.int .u64 0] w fun e w' => e = .returned (natV 0) ∧ Below w.heap.size w w' := of_val 0 0 rfl (by unfold Bs; omega) w
theorem dec_sgn (z : Int) : decide (sgn z < 0) = decide (z < 0) := by
 have : sgn z < 0 ↔ z < 0 := by unfold sgn; split <;> (try split) <;> omega
 simp only [this]
theorem den_raw (n : Int) (e : Nat) (w : World) : Calls Tryz.prog 83 #[frV n e] w fun x w' => x = .returned (natV (if e = 0 then 1 else e)) ∧ Below w.heap.size w w' := by
 by_cases h : e = 0
 ·subst h; rw [if_pos rfl]; exact den_one_w n (whole_yes n) one_o w
 ·rw [if_neg h]; exact den_part_w n e (whole_no n e h) w
theorem denF (q : Rat) (w : World) : Calls Tryz.prog 83 #[fracV q] w fun x w' => x = .returned (natV q.den) ∧ Below w.heap.size w w' := by
 have h := den_raw q.num (fe q) w
 rw [← fe_den] at h
 exact h
theorem lowest_raw (n : Int) (d : Nat) (w : World) : Calls Tryz.prog 84 #[intV n, natV d] w fun x w' => x = .returned (frV n (if d = 1 then 0 else d)) ∧ Below w.heap.size w w' := by
 by_cases h : d = 1
 ·subst h; rw [if_pos rfl, frV_z]; exact lowest_one n one_o w
 ·rw [if_neg h]; exact lowest_part n d one_o h w
theorem lowestF {q : Rat} {n : Int} {d : Nat} (hn : q.num = n) (hd : q.den = d) (w : World) : Calls Tryz.prog 84 #[intV n, natV d] w fun x w' => x = .returned (fracV q) ∧ Below w.heap.size w w' := by
 rw [fracV_of hn hd]; exact lowest_raw n d w
theorem pon_raw (n g : Nat) (hg : g ≠ 0) (hn : (digs n).length ≤ 100000000) (w : World) : Calls Tryz.prog 127 #[natV n, natV g] w fun x w' => x = .returned (natV (n / g)) ∧ Below w.heap.size w w' := by
 by_cases h : g = 1
 ·subst h; rw [Nat.div_one]; exact pon_one n one_o w
 ·exact pon_div n g (n / g) (n % g) one_o (fun w => div_pos n g (by omega) (by omega) w) h w
theorem tdiv_sgn (z : Int) (g : Nat) : z.tdiv (g : Int) = if decide (z < 0) then -((z.natAbs / g : Nat) : Int) else ((z.natAbs / g : Nat) : Int) := by
 by_cases h : z < 0
 ·obtain ⟨n, rfl⟩ : ∃ n : Nat, z = -(n : Int) := ⟨z.natAbs, by omega⟩
  rw [decide_eq_true h, if_pos rfl, Int.natAbs_neg, Int.natAbs_natCast, Int.neg_tdiv, ← Int.ofNat_tdiv]
 ·obtain ⟨n, rfl⟩ : ∃ n : Nat, z = (n : Int) := ⟨z.natAbs, by omega⟩
  rw [decide_eq_false h, Int.natAbs_natCast, ← Int.ofNat_tdiv]; rfl
theorem part_raw (z : Int) (g : Nat) (hg : g ≠ 0) (hz : dI z ≤ 100000000) (w : World) : Calls Tryz.prog 131 #[intV z, natV g] w fun x w' => x = .returned (intV (z.tdiv g)) ∧ Below w.heap.size w w' := by
 have hF := fun w => fromI (decide (z < 0)) (z.natAbs / g) (z.tdiv g) (tdiv_sgn z g) w
 have hs := dec_sgn z
 by_cases h : z < 0
 ·rw [decide_eq_true h] at hF hs
  exact part_true z (sgn z) _ _ g _ (signI z) (absI z) (pon_raw _ g hg hz) hF hs w
 ·rw [decide_eq_false h] at hF hs
  exact part_false z (sgn z) _ _ g _ (signI z) (absI z) (pon_raw _ g hg hz) hF hs w
theorem cancel_raw (z : Int) (d : Nat) (hd : d ≠ 0) (hz : dI z ≤ 100000000) (hl : (digs d).length ≤ 100000000) (w : World) :
  Calls Tryz.prog 82 #[intV z, natV d] w fun x w' => x = .returned (.tuple #[intV (z.tdiv (Nat.gcd z.natAbs d : Nat)), natV (d / Nat.gcd z.natAbs d)]) ∧ Below w.heap.size w w' := by
 have hg : Nat.gcd z.natAbs d ≠ 0 := fun e => hd (Nat.gcd_eq_zero_iff.1 e).2
 exact cancel_w z _ _ d _ _ (absI z) (fun w => gcd_any z.natAbs d (Nat.le_trans hz (by omega)) (by omega) w) (part_raw z _ hg hz) (pon_raw d _ hg hl) w
theorem times_raw (z : Int) (d : Nat) (hz : dI z ≤ 100000000) (hd : (digs d).length ≤ 100000000) (w : World) : Calls Tryz.prog 94 #[intV z, natV d] w fun x w' => x = .returned (intV (z * (d : Int))) ∧ Below w.heap.size w w' := by
 by_cases h : d = 1
 ·subst h; rw [show z * ((1 : Nat) : Int) = z by omega]; exact times_one z one_o w
 ·exact times_mul z (d : Int) _ d one_o (fun w => fromI false d (d : Int) rfl w) (fun w => mulI z (d : Int) (by omega) (by rw [dI_nat]; omega) w) h w
theorem fromF (z : Int) (d : Nat) (hd : d ≠ 0) (hz : dI z ≤ 100000000) (hl : (digs d).length ≤ 100000000) (w : World) : Calls Tryz.prog 99 #[intV z, natV d] w fun x w' => x = .returned (.tuple #[fracV (mkRat z d), .int .i64 0]) ∧ Below w.heap.size w w' := by
 obtain ⟨h1, h2⟩ := canc (z := z) hd
 exact ffrom_w z _ _ d _ _ zero_o (cancel_raw z d hd hz hl) (fun w => lowestF h1 h2 w) hd w
end Go.Proofs.YtoahpkelajimfaaGreatDoor
namespace Go.Proofs.YtoahpkelajimfaaGreatDoor
open Go.RowKit
attribute [local irreducible] lo hs sm s64 c64 d64 b64 mh ml pd pc qd qc val hiB str cmpI srD lz nb zl zh zs
/-- The absolute value. -/
def absQ (q : Rat) : Rat := if q < 0 then -q else q
theorem num_neg_iff (q : Rat) : q.num < 0 ↔ q < 0 := by rw [← Rat.not_le, ← Rat.num_nonneg]; omega
theorem absQ_num (q : Rat) : (absQ q).num = (q.num.natAbs : Int) ∧ fe (absQ q) = fe q := by
 unfold absQ
 have := num_neg_iff q
 split
 ·rename_i h
  have h1 := this.2 h
  exact ⟨by rw [Rat.neg_num]; omega, rfl⟩
 ·rename_i h
  have h1 := mt this.1 h
  exact ⟨by omega, rfl⟩
theorem absF (q : Rat) (w : World) : Calls Tryz.prog 46 #[fracV q] w fun x w' => x = .returned (fracV (absQ q)) ∧ Below w.heap.size w w' := by
 rw [show fracV (absQ q) = frV (absQ q).num (fe (absQ q)) from rfl, (absQ_num q).1, (absQ_num q).2]
 exact fabs_w q.num (q.num.natAbs : Int) _ (fe q) (fun w => absI q.num w) (fun w => fromI false _ _ rfl w) w
theorem cmpF (p q : Rat) (k : Nat) (hp : Sz p k) (hq : Sz q k) (hk : k ≤ 100000000) (w : World) : Calls Tryz.prog 44 #[fracV p, fracV q] w fun x w' => x = .returned (.int .i64 (cmpQ p q)) ∧ Below w.heap.size w w' := by
 rw [cmpQ_parts]
 exact fcmp_w p.num q.num _ _ _ (fe p) (fe q) p.den q.den (denF p) (denF q) (times_raw p.num q.den (Nat.le_trans hp.1 hk) (Nat.le_trans hq.2 hk)) (times_raw q.num p.den (Nat.le_trans hq.1 hk) (Nat.le_trans hp.2 hk)) (fun w => cmpII _ _ w) w
theorem tdiv_dI {z : Int} {g k : Nat} (h : dI z ≤ k) : dI (z.tdiv (g : Int)) ≤ k := by
 refine Nat.le_trans (dI_mono ?_) h
 rw [Int.natAbs_tdiv]; exact Nat.div_le_self _ _
theorem ndiv_digs {n g k : Nat} (h : (digs n).length ≤ k) : (digs (n / g)).length ≤ k := Nat.le_trans (digs_mono (Nat.div_le_self _ _)) h
theorem mulF (p q : Rat) (k : Nat) (hp : Sz p k) (hq : Sz q k) (hk : k ≤ 100000000) (w : World) : Calls Tryz.prog 36 #[fracV p, fracV q] w fun x w' => x = .returned (fracV (p * q)) ∧ Below w.heap.size w w' := by
 obtain ⟨h1, h2⟩ := rmul_parts p q
 rw [Nat.mul_comm] at h2
 exact fmul_w p.num q.num _ _ _ _ (fe p) (fe q) p.den q.den _ _ _ _ (denF p) (denF q) (cancel_raw p.num q.den q.den_nz (Nat.le_trans hp.1 hk) (Nat.le_trans hq.2 hk)) (cancel_raw q.num p.den p.den_nz (Nat.le_trans hq.1 hk) (Nat.le_trans hp.2 hk))
  (fun w => mulI _ _ (Nat.le_trans (tdiv_dI hp.1) (by omega)) (Nat.le_trans (tdiv_dI hq.1) (by omega)) w) (fun w => mul_any _ _ (Nat.le_trans (ndiv_digs hp.2) (by omega)) (Nat.le_trans (ndiv_digs hq.2) (by omega)) w) (fun w => lowestF h1 h2 w) w
theorem frV_00 : frV 0 0 = .agg #[.int .u64 0, .string ⟨#[]⟩, .bool false, .int .u64 0, .string ⟨#[]⟩] := by
 rw [frV_z, (z0).1, (z0).2.1, (z0).2.2]; rfl
theorem addF (p q : Rat) (k : Nat) (hp : Sz p k) (hq : Sz q k) (hk : k ≤ 10000000) (w : World) : Calls Tryz.prog 35 #[fracV p, fracV q] w fun x w' => x = .returned (fracV (p + q)) ∧ Below w.heap.size w w' := by
 obtain ⟨h1, h2⟩ := radd_parts p q
 have hg : Nat.gcd p.den q.den ≠ 0 := fun e => p.den_nz (Nat.gcd_eq_zero_iff.1 e).1
 have l1 : (digs (p.den / Nat.gcd p.den q.den)).length ≤ k := ndiv_digs hp.2
 have l2 : (digs (q.den / Nat.gcd p.den q.den)).length ≤ k := ndiv_digs hq.2
 have l3 : (digs (Nat.gcd p.den q.den)).length ≤ k := Nat.le_trans (digs_mono (Nat.gcd_le_left _ p.den_pos)) hp.2
 have lx : dI (p.num * ((q.den / Nat.gcd p.den q.den : Nat) : Int)) ≤ k + k := dI_mul hp.1 (by rw [dI_nat]; exact l2)
 have ly : dI (q.num * ((p.den / Nat.gcd p.den q.den : Nat) : Int)) ≤ k + k := dI_mul hq.1 (by rw [dI_nat]; exact l1)
 have ls := dI_add lx ly
 refine fadd_w p.num q.num _ (fe p) (fe q) _ ?_ w
 exact fcombine_add p.num q.num _ _ _ _ _ (fe p) (fe q) p.den q.den _ _ _ _ _ _ _ (denF p) (denF q) (fun w => gcd_any _ _ (Nat.le_trans hp.2 (by omega)) (Nat.le_trans hq.2 (by omega)) w)
  (pon_raw _ _ hg (Nat.le_trans hp.2 (by omega))) (pon_raw _ _ hg (Nat.le_trans hq.2 (by omega))) (times_raw _ _ (Nat.le_trans hp.1 (by omega)) (by omega)) (times_raw _ _ (Nat.le_trans hq.1 (by omega)) (by omega))
  (fun w => addI _ _ (by omega) (by omega) w) (cancel_raw _ _ hg (by omega) (by omega)) (fun w => mul_any _ _ (by omega) (by omega) w)
  (fun w => mul_any _ _ (Nat.le_trans (digs_mul_le l1 l2) (by omega)) (Nat.le_trans (ndiv_digs l3) (by omega)) w) (fun w => lowestF h1 h2 w)
theorem subF (p q : Rat) (k : Nat) (hp : Sz p k) (hq : Sz q k) (hk : k ≤ 10000000) (w : World) : Calls Tryz.prog 57 #[fracV p, fracV q] w fun x w' => x = .returned (fracV (p - q)) ∧ Below w.heap.size w w' := by
 have hp' := radd_parts p (-q)
 rw [← Rat.sub_eq_add_neg, Rat.neg_num, Rat.neg_den, Int.neg_mul, ← Int.sub_eq_add_neg] at hp'
 obtain ⟨h1, h2⟩ := hp'
 have hg : Nat.gcd p.den q.den ≠ 0 := fun e => p.den_nz (Nat.gcd_eq_zero_iff.1 e).1
 have l1 : (digs (p.den / Nat.gcd p.den q.den)).length ≤ k := ndiv_digs hp.2
 have l2 : (digs (q.den / Nat.gcd p.den q.den)).length ≤ k := ndiv_digs hq.2
 have l3 : (digs (Nat.gcd p.den q.den)).length ≤ k := Nat.le_trans (digs_mono (Nat.gcd_le_left _ p.den_pos)) hp.2
 have lx : dI (p.num * ((q.den / Nat.gcd p.den q.den : Nat) : Int)) ≤ k + k := dI_mul hp.1 (by rw [dI_nat]; exact l2)
 have ly : dI (q.num * ((p.den / Nat.gcd p.den q.den : Nat) : Int)) ≤ k + k := dI_mul hq.1 (by rw [dI_nat]; exact l1)
 have ls := dI_sub lx ly
 refine fsub_w p.num q.num _ (fe p) (fe q) _ ?_ w
 exact fcombine_sub p.num q.num _ _ _ _ _ (fe p) (fe q) p.den q.den _ _ _ _ _ _ _ (denF p) (denF q) (fun w => gcd_any _ _ (Nat.le_trans hp.2 (by omega)) (Nat.le_trans hq.2 (by omega)) w)
  (pon_raw _ _ hg (Nat.le_trans hp.2 (by omega))) (pon_raw _ _ hg (Nat.le_trans hq.2 (by omega))) (times_raw _ _ (Nat.le_trans hp.1 (by omega)) (by omega)) (times_raw _ _ (Nat.le_trans hq.1 (by omega)) (by omega))
  (fun w => subI _ _ (by omega) (by omega) w) (cancel_raw _ _ hg (by omega) (by omega)) (fun w => mul_any _ _ (by omega) (by omega) w)
  (fun w => mul_any _ _ (Nat.le_trans (digs_mul_le l1 l2) (by omega)) (Nat.le_trans (ndiv_digs l3) (by omega)) w) (fun w => lowestF h1 h2 w)
theorem of_val_q (n d : Int) (h0 : d ≠ 0) : mkRat (if d < 0 then -n else n) d.natAbs = (n : Rat) / (d : Rat) := by
 rw [Rat.mkRat_eq_div]
 by_cases h : d < 0
 ·rw [if_pos h]
  have e : ((d.natAbs : Nat) : Rat) = -(d : Rat) := by
   rw [show ((d.natAbs : Nat) : Rat) = (((d.natAbs : Nat) : Int) : Rat) from (Rat.intCast_natCast _).symm, show ((d.natAbs : Nat) : Int) = -d by omega, Rat.intCast_neg]
  rw [e, Rat.intCast_neg]
  have hd : (d : Rat) ≠ 0 := by simpa using h0
  grind
 ·rw [if_neg h, show ((d.natAbs : Nat) : Rat) = (((d.natAbs : Nat) : Int) : Rat) from (Rat.intCast_natCast _).symm, show ((d.natAbs : Nat) : Int) = d by omega]
theorem i64_dI {z : Int} (h1 : -9223372036854775808 ≤ z) (h2 : z < 9223372036854775808) : dI z ≤ 1 := digs_length_iff.2 (by unfold Bs; omega)
theorem ofF (n d : Int) (a1 : -9223372036854775808 ≤ n) (a2 : n < 9223372036854775808) (b1 : -9223372036854775808 ≤ d) (b2 : d < 9223372036854775808) (h0 : d ≠ 0) (w : World) :
  Calls Tryz.prog 50 #[.int .i64 n, .int .i64 d] w fun x w' => x = .returned (.tuple #[fracV ((n : Rat) / (d : Rat)), .int .i64 0]) ∧ Below w.heap.size w w' := by
 rw [← of_val_q n d h0]
 have hs := dec_sgn d
 have ln := i64_dI a1 a2
 have ld : (digs d.natAbs).length ≤ 1 := i64_dI b1 b2
 by_cases h : d < 0
 ·rw [decide_eq_true h] at hs
  rw [if_pos h]
  exact fof_true n d (sgn d) (-n) _ n d _ _ 0 (fun w => ofI n a1 a2 w) (fun w => ofI d b1 b2 w) (signI d) (fun w => negI n w) (absI d) (fromF (-n) d.natAbs (by omega) (by rw [dI_neg]; omega) (by omega)) hs w
 ·rw [decide_eq_false h] at hs
  rw [if_neg h]
  exact fof_false n d (sgn d) n _ n d _ _ 0 (fun w => ofI n a1 a2 w) (fun w => ofI d b1 b2 w) (signI d) (absI d) (fromF n d.natAbs (by omega) (by omega) (by omega)) hs w
end Go.Proofs.YtoahpkelajimfaaGreatDoor
namespace Go.Proofs.YtoahpkelajimfaaGreatDoor
open Go.RowKit
attribute [local irreducible] lo hs sm s64 c64 d64 b64 mh ml pd pc qd qc val hiB str cmpI srD lz nb zl zh zs fe
/-- A slice's fractions. -/
structure FS (w : World) (g : Nat) (qs : List Rat) : Prop where
 cell : ∀ i (h : i < qs.length), w.cell? ⟨g, i * 5, none⟩ = some (.int .u64 ((zl qs[i].num : Nat) : Int)) ∧ w.cell? ⟨g, i * 5 + 1, none⟩ = some (.string (zh qs[i].num)) ∧ w.cell? ⟨g, i * 5 + 2, none⟩ = some (.bool (zs qs[i].num)) ∧
  w.cell? ⟨g, i * 5 + 3, none⟩ = some (.int .u64 ((lo (fe qs[i]) : Nat) : Int)) ∧ w.cell? ⟨g, i * 5 + 4, none⟩ = some (.string (hs (fe qs[i])))
 lt : g < w.heap.size
theorem FS.below {w w' : World} {g : Nat} {qs : List Rat} (h : FS w g qs) (hb : Below w.heap.size w w') : FS w' g qs := by
 have hs := hb.size
 have hl := h.lt
 refine ⟨fun i hi => ?_, by omega⟩
 obtain ⟨h0, h1, h2, h3, h4⟩ := h.cell i hi
 exact ⟨(hb.cell (p := ⟨g, i * 5, none⟩) hl).trans h0, (hb.cell (p := ⟨g, i * 5 + 1, none⟩) hl).trans h1, (hb.cell (p := ⟨g, i * 5 + 2, none⟩) hl).trans h2, (hb.cell (p := ⟨g, i * 5 + 3, none⟩) hl).trans h3, (hb.cell (p := ⟨g, i * 5 + 4, none⟩) hl).trans h4⟩
def SlQ (w : World) (v : Value) (qs : List Rat) : Prop := (∃ ao c, v = .slice ao 0 c ∧ qs = []) ∨ ∃ g c, v = .slice (some ⟨g, 0, none⟩) qs.length c ∧ FS w g qs
theorem SlQ.below {w w' : World} {v : Value} {qs : List Rat} (h : SlQ w v qs) (hb : Below w.heap.size w w') : SlQ w' v qs := by
 rcases h with h | ⟨g, c, h1, h2⟩
 ·exact .inl h
 ·exact .inr ⟨g, c, h1, h2.below hb⟩
theorem SlQ.keeps (v : Value) (qs : List Rat) : Keeps (fun w => SlQ w v qs) := fun _ _ hb h => h.below hb
/-- The choice of the first that no other is better than. -/
def amg (r : Rat → Rat → Bool) : List Rat → Rat
 | [] => 0
 | q :: l => l.foldl (fun b a => if r a b then a else b) q
theorem amg_snoc (r : Rat → Rat → Bool) (l : List Rat) (a : Rat) (h : l ≠ []) : amg r (l ++ [a]) = if r a (amg r l) then a else amg r l := by
 cases l with
 | nil => exact absurd rfl h
 | cons q l => simp only [amg, List.cons_append, List.foldl_append, List.foldl_cons, List.foldl_nil]; rfl
theorem amg_mem (r : Rat → Rat → Bool) : ∀ (l : List Rat), l ≠ [] → amg r l ∈ l := by
 intro l
 refine snoc_ind (p := fun l => l ≠ [] → amg r l ∈ l) l (fun h => absurd rfl h) fun m a ih _ => ?_
 by_cases hm : m = []
 ·subst hm; simp [amg]
 ·rw [amg_snoc r m a hm]
  split
  ·simp
  ·exact List.mem_append_left _ (ih hm)
theorem fe_zero : fe 0 = 0 := fe_one rfl
def gtQ (p q : Rat) : Bool := decide (q < p)
theorem cmpQ_gt (p q : Rat) : decide (0 < cmpQ p q) = gtQ p q := by
 unfold cmpQ gtQ
 by_cases h : p < q
 ·rw [if_pos h, decide_eq_false (p := q < p) (by grind)]; rfl
 ·rw [if_neg h]
  by_cases h' : p = q
  ·rw [if_pos h', decide_eq_false (p := q < p) (by grind)]; rfl
  ·rw [if_neg h', decide_eq_true (p := q < p) (by grind)]; rfl
set_option maxHeartbeats 4000000 in
set_option maxRecDepth 100000 in
theorem gtr_true (m n c : Int) (d e : Nat) (HC : RT 44 #[frV m d, frV n e] (.int .i64 c)) (hc : decide (0 < c) = true) (w : World) :
  Calls Tryz.prog 121 #[frV m d, frV n e] w fun xe w' => xe = .returned (.bool true) ∧ Below w.heap.size w w' := by
 have hL0 : GL w w [] := GL.start w
 replace HC := Lib.hid HC
 replace hL0 := ((hL0.new rfl [.int .u64 ((zl m : Nat) : Int), .string (zh m), .bool (zs m), .int .u64 ((lo d : Nat) : Int), .string (hs d)] 38).new (K := w.heap.size + 1) (szA _ _) [.int .u64 ((zl n : Nat) : Int), .string (zh n), .bool (zs n), .int .u64 ((lo e : Nat) : Int), .string (hs e)] 38)
 generalize hweq : ((w.alloc (.cells #[.int .u64 ((zl m : Nat) : Int), .string (zh m), .bool (zs m), .int .u64 ((lo d : Nat) : Int), .string (hs d)] 38)).alloc (.cells #[.int .u64 ((zl n : Nat) : Int), .string (zh n), .bool (zs n), .int .u64 ((lo e : Nat) : Int), .string (hs e)] 38)) = x1 at hL0
 go_enter Tryz.func121, Tryz.ntmps121
 have hN0 := cells_of _ 0 [] rfl (hL0.get _ _ List.mem_cons_self)
 simp only [cellsF, and_true, Nat.zero_add, Nat.reduceAdd] at hN0
 have hN1 := cells_of _ 0 [] rfl (hL0.get _ _ (List.mem_cons_of_mem _ List.mem_cons_self))
 simp only [cellsF, and_true, Nat.zero_add, Nat.reduceAdd] at hN1
 go_wp2_with fail
 clear hN0 hN1
 with_reducible refine Calls.mono (HC.out _) ?_
 rintro e x2 ⟨rfl, hb⟩
 replace hL0 := hL0.call hb
 clear hb hweq
 go_wp2_with fail
 exact bodyPost_ret (v := .bool true) (by simp [results, Tryz.results121, go_sem]) rfl ⟨rfl, hL0.bl⟩
set_option maxHeartbeats 4000000 in
set_option maxRecDepth 100000 in
theorem gtr_false (m n c : Int) (d e : Nat) (HC : RT 44 #[frV m d, frV n e] (.int .i64 c)) (hc : decide (0 < c) = false) (w : World) :
  Calls Tryz.prog 121 #[frV m d, frV n e] w fun xe w' => xe = .returned (.bool false) ∧ Below w.heap.size w w' := by
 have hL0 : GL w w [] := GL.start w
 replace HC := Lib.hid HC
 replace hL0 := ((hL0.new rfl [.int .u64 ((zl m : Nat) : Int), .string (zh m), .bool (zs m), .int .u64 ((lo d : Nat) : Int), .string (hs d)] 38).new (K := w.heap.size + 1) (szA _ _) [.int .u64 ((zl n : Nat) : Int), .string (zh n), .bool (zs n), .int .u64 ((lo e : Nat) : Int), .string (hs e)] 38)
 generalize hweq : ((w.alloc (.cells #[.int .u64 ((zl m : Nat) : Int), .string (zh m), .bool (zs m), .int .u64 ((lo d : Nat) : Int), .string (hs d)] 38)).alloc (.cells #[.int .u64 ((zl n : Nat) : Int), .string (zh n), .bool (zs n), .int .u64 ((lo e : Nat) : Int), .string (hs e)] 38)) = x1 at hL0
 go_enter Tryz.func121, Tryz.ntmps121
 have hN0 := cells_of _ 0 [] rfl (hL0.get _ _ List.mem_cons_self)
 simp only [cellsF, and_true, Nat.zero_add, Nat.reduceAdd] at hN0
 have hN1 := cells_of _ 0 [] rfl (hL0.get _ _ (List.mem_cons_of_mem _ List.mem_cons_self))
 simp only [cellsF, and_true, Nat.zero_add, Nat.reduceAdd] at hN1
 go_wp2_with fail
 clear hN0 hN1
 with_reducible refine Calls.mono (HC.out _) ?_
 rintro e x2 ⟨rfl, hb⟩
 replace hL0 := hL0.call hb
 clear hb hweq
 go_wp2_with fail
 exact bodyPost_ret (v := .bool false) (by simp [results, Tryz.results121, go_sem]) rfl ⟨rfl, hL0.bl⟩
set_option maxHeartbeats 4000000 in
set_option maxRecDepth 100000 in
theorem among_max (ao : Option Addr) (n c : Nat) (qs : List Rat) (HB : ∀ p q, p ∈ qs → q ∈ qs → RT 121 #[fracV p, fracV q] (.bool (gtQ p q))) (w : World) (hq : SlQ w (.slice ao n c) qs) (hn : (0 < n → ∃ g, ao = some ⟨g, 0, none⟩ ∧ FS w g qs) ∧ qs.length = n ∧ n ≤ 1000000) :
  Calls Tryz.prog 122 #[.agg #[.func (.func 121) #[] #[]], .slice ao n c] w fun xe w' => xe = .returned (fracV (amg gtQ qs)) ∧ Below w.heap.size w w' := by
 have hL0 : GL w w [] := GL.start w
 have HB := Lib.hid HB
 have hle := hn.2
 have hcell := Lib.hid hn.1
 clear hn
 replace hL0 := (((hL0.new rfl [.func (.func 121) #[] #[]] 153).new (K := w.heap.size + 1) (szA _ _) [.int .u64 0, .string ⟨#[]⟩, .bool false, .int .u64 0, .string ⟨#[]⟩] 38).new (K := w.heap.size + 1 + 1) (by simp only [World.size_alloc]) [.int .u64 0, .string ⟨#[]⟩, .bool false, .int .u64 0, .string ⟨#[]⟩] 38)
 generalize hweq : (((w.alloc (.cells #[.func (.func 121) #[] #[]] 153)).alloc (.cells #[.int .u64 0, .string ⟨#[]⟩, .bool false, .int .u64 0, .string ⟨#[]⟩] 38)).alloc (.cells #[.int .u64 0, .string ⟨#[]⟩, .bool false, .int .u64 0, .string ⟨#[]⟩] 38)) = x1 at hL0
 have hsl := Lib.hid (SlQ.below hq hL0.bl)
 clear hq
 go_enter Tryz.func122, Tryz.ntmps122
 have hA := hL0.fc
 simp only [fcG, cellsF, neK, and_true, ne_eq, Nat.zero_add, Nat.reduceAdd] at hA
 go_wp2_with fail
 clear hA
 go_loopw [10] (fun z wr => ∃ i : Nat, i ≤ n ∧ z = .int .i64 (i : Int) ∧ ∃ q : Rat, q = amg gtQ (qs.take i) ∧ GL w wr [(w.heap.size + 1 + 1, [.int .u64 ((zl q.num : Nat) : Int), .string (zh q.num), .bool (zs q.num), .int .u64 ((lo (fe q) : Nat) : Int), .string (hs (fe q))]), (w.heap.size + 1, [.int .u64 0, .string ⟨#[]⟩, .bool false, .int .u64 0, .string ⟨#[]⟩]), (w.heap.size, [.func (.func 121) #[] #[]])]) (fun z _ => n - (intOf z).toNat)
 case atStart => exact ⟨0, Nat.zero_le _, rfl, 0, rfl, by rw [fe_zero, (show (0 : Rat).num = 0 from rfl), (z0).1, (z0).2.1, (z0).2.2, lo_small Bs_pos, hs_small Bs_pos]; exact hL0⟩
 case round =>
  clear hL0 hweq
  obtain ⟨i, hi, rfl, q, hq, hL0⟩ := hrel
  rcases Nat.lt_or_ge i n with hin | hin
  ·obtain ⟨g, rfl, hfs⟩ := hcell.out (by omega)
   have hf := (hfs.below hL0.bl).cell i (by omega)
   have k2 : decide ((i : Int) < (n : Int)) = true := decide_eq_true (by omega)
   have k1 : (i : Int) < (n : Int) := by omega
   have hlen : qs.length = n := by omega
   obtain ⟨a, ha⟩ : ∃ a, a = qs[i]'(by omega) := ⟨_, rfl⟩
   rw [← ha] at hf
   have hmem : a ∈ qs := by rw [ha]; exact List.getElem_mem _
   have htk : qs.take (i + 1) = qs.take i ++ [a] := by rw [List.take_succ_eq_append_getElem (by omega), ha]
   clear ha
   obtain ⟨f0, f1, f2, f3, f4⟩ := hf
   by_cases hi0 : i = 0
   ·subst hi0
    have ek : (((0 : Nat) : Int) == 0) = true := rfl
    have kn : 0 < n := by omega
    have kd : decide (0 < n) = true := decide_eq_true kn
    simp only [Nat.zero_mul, Nat.zero_add] at f0 f1 f2 f3 f4
    replace htk := Lib.hid htk
    replace hq := Lib.hid hq
    replace hlen := Lib.hid hlen
    clear k1 hin hi
    replace hL0 := (hL0.new rfl [.int .u64 ((zl a.num : Nat) : Int), .string (zh a.num), .bool (zs a.num), .int .u64 ((lo (fe a) : Nat) : Int), .string (hs (fe a))] 38)
    generalize hweq : (wr.alloc (.cells #[.int .u64 ((zl a.num : Nat) : Int), .string (zh a.num), .bool (zs a.num), .int .u64 ((lo (fe a) : Nat) : Int), .string (hs (fe a))] 38)) = x2 at hL0
    have hA := hL0.fc
    simp only [fcG, cellsF, neK, and_true, ne_eq, Nat.zero_add, Nat.reduceAdd] at hA
    have hP := hL0.put 1 (w.heap.size + 1 + 1) _ rfl [.int .u64 ((zl a.num : Nat) : Int), .string (zh a.num), .bool (zs a.num), .int .u64 ((lo (fe a) : Nat) : Int), .string (hs (fe a))] rfl
    simp only [setAll, List.set_cons_zero, List.set_cons_succ] at hP
    generalize hput1 : (((((x2.setCell ⟨w.heap.size + 1 + 1, 0, none⟩ (.int .u64 ((zl a.num : Nat) : Int))).setCell ⟨w.heap.size + 1 + 1, 1, none⟩ (.string (zh a.num))).setCell ⟨w.heap.size + 1 + 1, 2, none⟩ (.bool (zs a.num))).setCell ⟨w.heap.size + 1 + 1, 3, none⟩ (.int .u64 ((lo (fe a) : Nat) : Int))).setCell ⟨w.heap.size + 1 + 1, 4, none⟩ (.string (hs (fe a)))) = x3 at hP
    have hB1 := hP.fc
    simp only [fcG, cellsF, neK, and_true, ne_eq, Nat.zero_add, Nat.reduceAdd] at hB1
    replace hL0 := hP
    go_wp2_with fail
    go_roundw
    case rel => exact ⟨0 + 1, by omega, by first | rfl | go_num, a, by rw [htk.out]; rfl, hL0.weak (List.Sublist.cons _ (List.Sublist.refl _))⟩
    case measure => simp [intOf]; omega
   ·have ek : ((i : Int) == 0) = false := beq_eq_false_iff_ne.2 (by omega)
    have hne : qs.take i ≠ [] := fun e => by have := congrArg List.length e; rw [List.length_take, List.length_nil] at this; omega
    have hsn := Lib.hid (amg_snoc gtQ (qs.take i) a hne)
    clear hne
    have hqm : q = 0 ∨ q ∈ qs := .inr (by rw [hq]; exact List.mem_of_mem_take (amg_mem gtQ (qs.take i) (fun e => by have := congrArg List.length e; rw [List.length_take, List.length_nil] at this; omega)))
    have hqm2 : q ∈ qs := by rw [hq]; exact List.mem_of_mem_take (amg_mem gtQ (qs.take i) (fun e => by have := congrArg List.length e; rw [List.length_take, List.length_nil] at this; omega))
    clear hqm
    have HB1 := Lib.hid (HB.out a q hmem hqm2)
    clear hmem hqm2
    replace htk := Lib.hid htk
    replace hq := Lib.hid hq
    replace hlen := Lib.hid hlen
    obtain ⟨d, hd⟩ : ∃ d, d = gtQ a q := ⟨_, rfl⟩
    rw [← hd] at HB1
    replace hd := Lib.hid hd
    have k3 := Lib.hid hi
    have k4 := Lib.hid hin
    replace hL0 := (hL0.new rfl [.int .u64 ((zl a.num : Nat) : Int), .string (zh a.num), .bool (zs a.num), .int .u64 ((lo (fe a) : Nat) : Int), .string (hs (fe a))] 38)
    generalize hweq : (wr.alloc (.cells #[.int .u64 ((zl a.num : Nat) : Int), .string (zh a.num), .bool (zs a.num), .int .u64 ((lo (fe a) : Nat) : Int), .string (hs (fe a))] 38)) = x4 at hL0
    have hA := hL0.fc
    simp only [fcG, cellsF, neK, and_true, ne_eq, Nat.zero_add, Nat.reduceAdd] at hA
    go_wp2_with fail
    clear hA
    with_reducible refine Calls.mono (HB1.out _) ?_
    rintro e x5 ⟨rfl, hb⟩
    replace hL0 := hL0.call hb
    clear hb hweq
    cases d with
    | true =>
     have hA := hL0.fc
     simp only [fcG, cellsF, neK, and_true, ne_eq, Nat.zero_add, Nat.reduceAdd] at hA
     have hP := hL0.put 1 (w.heap.size + 1 + 1) _ rfl [.int .u64 ((zl a.num : Nat) : Int), .string (zh a.num), .bool (zs a.num), .int .u64 ((lo (fe a) : Nat) : Int), .string (hs (fe a))] rfl
     simp only [setAll, List.set_cons_zero, List.set_cons_succ] at hP
     generalize hput2 : (((((x5.setCell ⟨w.heap.size + 1 + 1, 0, none⟩ (.int .u64 ((zl a.num : Nat) : Int))).setCell ⟨w.heap.size + 1 + 1, 1, none⟩ (.string (zh a.num))).setCell ⟨w.heap.size + 1 + 1, 2, none⟩ (.bool (zs a.num))).setCell ⟨w.heap.size + 1 + 1, 3, none⟩ (.int .u64 ((lo (fe a) : Nat) : Int))).setCell ⟨w.heap.size + 1 + 1, 4, none⟩ (.string (hs (fe a)))) = x6 at hP
     have hB2 := hP.fc
     simp only [fcG, cellsF, neK, and_true, ne_eq, Nat.zero_add, Nat.reduceAdd] at hB2
     replace hL0 := hP
     go_wp2_with fail
     go_roundw
     case rel => exact ⟨i + 1, by omega, by first | rfl | go_num, a, by rw [htk.out, hsn.out, ← hq.out, if_pos hd.out.symm], hL0.weak (List.Sublist.cons _ (List.Sublist.refl _))⟩
     case measure => simp [intOf]; omega
    | false =>
     have hA := hL0.fc
     simp only [fcG, cellsF, neK, and_true, ne_eq, Nat.zero_add, Nat.reduceAdd] at hA
     go_wp2_with fail
     go_roundw
     case rel => exact ⟨i + 1, by omega, by first | rfl | go_num, q, by rw [htk.out, hsn.out, ← hq.out, if_neg (by rw [← hd.out]; exact Bool.false_ne_true)], hL0.weak (List.Sublist.cons _ (List.Sublist.refl _))⟩
     case measure => simp [intOf]; omega
  ·obtain rfl : i = n := by omega
   have k2 : decide ((i : Int) < (i : Int)) = false := decide_eq_false (by omega)
   have hqq : q = amg gtQ qs := by rw [hq, List.take_of_length_le (by omega)]
   clear hq
   replace hqq := Lib.hid hqq
   replace hle := Lib.hid hle
   have hA := hL0.fc
   simp only [fcG, cellsF, neK, and_true, ne_eq, Nat.zero_add, Nat.reduceAdd] at hA
   have hP := hL0.put 1 (w.heap.size + 1) _ rfl [.int .u64 ((zl q.num : Nat) : Int), .string (zh q.num), .bool (zs q.num), .int .u64 ((lo (fe q) : Nat) : Int), .string (hs (fe q))] rfl
   simp only [setAll, List.set_cons_zero, List.set_cons_succ] at hP
   generalize hput3 : (((((wr.setCell ⟨w.heap.size + 1, 0, none⟩ (.int .u64 ((zl q.num : Nat) : Int))).setCell ⟨w.heap.size + 1, 1, none⟩ (.string (zh q.num))).setCell ⟨w.heap.size + 1, 2, none⟩ (.bool (zs q.num))).setCell ⟨w.heap.size + 1, 3, none⟩ (.int .u64 ((lo (fe q) : Nat) : Int))).setCell ⟨w.heap.size + 1, 4, none⟩ (.string (hs (fe q)))) = x6 at hP
   have hB3 := hP.fc
   simp only [fcG, cellsF, neK, and_true, ne_eq, Nat.zero_add, Nat.reduceAdd] at hB3
   replace hL0 := hP
   go_wp2_with fail
   exact bodyPost_ret (v := fracV q) (by simp [results, Tryz.results122, go_sem, hB3]) rfl ⟨by rw [hqq.out], hL0.bl⟩
end Go.Proofs.YtoahpkelajimfaaGreatDoor
namespace Go.Proofs.YtoahpkelajimfaaGreatDoor
open Go.RowKit
attribute [local irreducible] lo hs sm s64 c64 d64 b64 mh ml pd pc qd qc val hiB str cmpI srD lz nb zl zh zs fe
theorem GL.join {w x y : World} {L M : List (Nat × List Value)} (h : GL w x L) (g : GL x y M) : GL w y (M ++ L) := by
 have h2 := h.call g.bl
 refine ⟨h2.bl, fun p hp => ?_, ?_⟩
 ·rcases List.mem_append.1 hp with hp | hp
  ·exact ⟨Nat.le_trans h.bl.size (g.all p hp).1, (g.all p hp).2⟩
  ·exact h2.all p hp
 ·rw [List.map_append, List.nodup_append]
  refine ⟨g.nd, h.nd, fun a ha b hb => ?_⟩
  obtain ⟨p, hp, rfl⟩ := List.mem_map.1 ha
  obtain ⟨q, hq, rfl⟩ := List.mem_map.1 hb
  have h3 := (g.all p hp).1
  have h4 := (h.all q hq).2.lt
  omega
theorem zero_cells : ([.int .u64 ((zl ((0 : Rat)).num : Nat) : Int), .string (zh ((0 : Rat)).num), .bool (zs ((0 : Rat)).num), .int .u64 ((lo (fe (0 : Rat)) : Nat) : Int), .string (hs (fe (0 : Rat)))] : List Value) = ([.int .u64 0, .string ⟨#[]⟩, .bool false, .int .u64 0, .string ⟨#[]⟩] : List Value) := by
 rw [fe_zero, (show (0 : Rat).num = 0 from rfl), (z0).1, (z0).2.1, (z0).2.2, lo_small Bs_pos, hs_small Bs_pos]; rfl
/-- The sum, from the left. -/
def qsum (l : List Rat) : Rat := l.foldl (· + ·) 0
theorem qsum_snoc (l : List Rat) (a : Rat) : qsum (l ++ [a]) = qsum l + a := by unfold qsum; rw [List.foldl_append]; rfl
theorem qsum_sz {k : Nat} : ∀ (l : List Rat) (m : Nat) (s : Rat), Sz s m → (∀ q ∈ l, Sz q k) → Sz (l.foldl (· + ·) s) (m + l.length * (k + 1)) := by
 intro l
 induction l with
 | nil => intro m s hs _; simpa using hs
 | cons a l ih =>
  intro m s hs hl
  have h := ih (m + k + 1) (s + a) (hs.add (hl a (by simp))) (fun q hq => hl q (by simp [hq]))
  rw [List.foldl_cons, List.length_cons, Nat.succ_mul]
  exact h.mono (by omega)
set_option maxHeartbeats 4000000 in
set_option maxRecDepth 100000 in
theorem total_add (w0 : World) (t : Nat) (q a r : Rat) (HA : RT 35 #[fracV q, fracV a] (fracV r)) (w : World) (hL0 : GL w0 w [(t, [.int .u64 ((zl q.num : Nat) : Int), .string (zh q.num), .bool (zs q.num), .int .u64 ((lo (fe q) : Nat) : Int), .string (hs (fe q))])]) :
  Calls Tryz.prog 137 #[.pointer (some ⟨t, 0, none⟩), fracV a] w fun xe w' => xe = .returned (.tuple #[]) ∧ GL w0 w' [(t, [.int .u64 ((zl r.num : Nat) : Int), .string (zh r.num), .bool (zs r.num), .int .u64 ((lo (fe r) : Nat) : Int), .string (hs (fe r))])] := by
 replace HA := Lib.hid HA
 replace hL0 := (hL0.new rfl [.int .u64 ((zl a.num : Nat) : Int), .string (zh a.num), .bool (zs a.num), .int .u64 ((lo (fe a) : Nat) : Int), .string (hs (fe a))] 38)
 generalize hweq : (w.alloc (.cells #[.int .u64 ((zl a.num : Nat) : Int), .string (zh a.num), .bool (zs a.num), .int .u64 ((lo (fe a) : Nat) : Int), .string (hs (fe a))] 38)) = x1 at hL0
 go_enter Tryz.func137, Tryz.ntmps137
 go_upto_region 1 with fail
 clear hweq
 obtain ⟨α, iα, F, hF1, hF2⟩ := cls x1
 have hq0 := cls_box hF1 hL0 _ _ List.mem_cons_self
 simp only [cellsC, and_true, Nat.zero_add, Nat.reduceAdd] at hq0
 have hq1 := cls_box hF1 hL0 _ _ (List.mem_cons_of_mem _ List.mem_cons_self)
 simp only [cellsC, and_true, Nat.zero_add, Nat.reduceAdd] at hq1
 refine region_qs 9 (C := fun w' => ∃ x, w' = F x) (by kernel_rfl) (by kernel_rfl) (cls_drew hF2) ?_
 simp only [List.take_succ_cons, List.take_zero, List.drop_succ_cons, List.drop_zero, List.take_nil, List.drop_nil]
 repeat (go_big_quiet_step (first | fail | (go_at_call 35; with_reducible exact cls_call hF1 hF2 HA.out _)))
 refine wpQuiet_nil ?_
 rintro wq ⟨xq, rfl⟩
 replace hL0 := hL0.call (hF1 xq)
 clear  hq0 hq1 hF2
 generalize F xq = x2 at hL0 ⊢
 clear hF1 xq iα F α
 have hA := hL0.fc
 simp only [fcG, cellsF, neK, and_true, ne_eq, Nat.zero_add, Nat.reduceAdd] at hA
 have hP := hL0.put 1 (t) _ rfl [.int .u64 ((zl r.num : Nat) : Int), .string (zh r.num), .bool (zs r.num), .int .u64 ((lo (fe r) : Nat) : Int), .string (hs (fe r))] rfl
 simp only [setAll, List.set_cons_zero, List.set_cons_succ] at hP
 generalize hput1 : (((((x2.setCell ⟨t, 0, none⟩ (.int .u64 ((zl r.num : Nat) : Int))).setCell ⟨t, 1, none⟩ (.string (zh r.num))).setCell ⟨t, 2, none⟩ (.bool (zs r.num))).setCell ⟨t, 3, none⟩ (.int .u64 ((lo (fe r) : Nat) : Int))).setCell ⟨t, 4, none⟩ (.string (hs (fe r)))) = x3 at hP
 have hB1 := hP.fc
 simp only [fcG, cellsF, neK, and_true, ne_eq, Nat.zero_add, Nat.reduceAdd] at hB1
 replace hL0 := hP
 go_wp2_with fail
 go_end0
 exact ⟨rfl, hL0.weak (List.Sublist.cons _ (List.Sublist.refl _))⟩
set_option maxHeartbeats 4000000 in
set_option maxRecDepth 100000 in
theorem each_add (w0 : World) (t : Nat) (ao : Option Addr) (n c : Nat) (qs : List Rat) (q : Rat) (hq0 : q = 0) (hn : (0 < n → ∃ g, ao = some ⟨g, 0, none⟩ ∧ FS w0 g qs) ∧ qs.length = n ∧ n ≤ 1000000)
  (HA : ∀ (q a : Rat) (i : Nat), a ∈ qs → q = qsum (qs.take i) → ∀ w, GL w0 w [(t, [.int .u64 ((zl q.num : Nat) : Int), .string (zh q.num), .bool (zs q.num), .int .u64 ((lo (fe q) : Nat) : Int), .string (hs (fe q))])] → Calls Tryz.prog 137 #[.pointer (some ⟨t, 0, none⟩), fracV a] w fun xe w' => xe = .returned (.tuple #[]) ∧ GL w0 w' [(t, [.int .u64 ((zl (q + a).num : Nat) : Int), .string (zh (q + a).num), .bool (zs (q + a).num), .int .u64 ((lo (fe (q + a)) : Nat) : Int), .string (hs (fe (q + a)))])])
  (w : World) (hL0 : GL w0 w [(t, [.int .u64 ((zl q.num : Nat) : Int), .string (zh q.num), .bool (zs q.num), .int .u64 ((lo (fe q) : Nat) : Int), .string (hs (fe q))])]) :
  Calls Tryz.prog 136 #[.slice ao n c, .func (.func 137) #[.pointer (some ⟨t, 0, none⟩)] #[]] w fun xe w' => xe = .returned (.tuple #[]) ∧ GL w0 w' [(t, [.int .u64 ((zl (qsum qs).num : Nat) : Int), .string (zh (qsum qs).num), .bool (zs (qsum qs).num), .int .u64 ((lo (fe (qsum qs)) : Nat) : Int), .string (hs (fe (qsum qs)))])] := by
 replace HA := Lib.hid HA
 have hle := hn.2.2
 have hcell := Lib.hid hn.1
 have hlen := hn.2.1
 clear hn
 go_enter Tryz.func136, Tryz.ntmps136
 have hA := hL0.fc
 simp only [fcG, cellsF, neK, and_true, ne_eq, Nat.zero_add, Nat.reduceAdd] at hA
 go_wp2_with fail
 clear hA
 go_loopw [8] (fun z wr => ∃ (i : Nat) (zi : Int) (q : Rat), i ≤ n ∧ z = .int .i64 zi ∧ zi = (i : Int) ∧ q = qsum (qs.take i) ∧ GL w0 wr [(t, [.int .u64 ((zl q.num : Nat) : Int), .string (zh q.num), .bool (zs q.num), .int .u64 ((lo (fe q) : Nat) : Int), .string (hs (fe q))])]) (fun z _ => n - (intOf z).toNat)
 case atStart => exact ⟨0, _, _, Nat.zero_le _, rfl, rfl, by rw [hq0]; rfl, hL0⟩
 case round =>
  clear hL0 hq0 q
  obtain ⟨i, zi, q, hi, rfl, hzi, hq, hL0⟩ := hrel
  rcases Nat.lt_or_ge i n with hin | hin
  ·obtain ⟨g, rfl, hfs⟩ := hcell.out (by omega)
   subst hzi
   have hf := (hfs.below hL0.bl).cell i (by omega)
   have k1 : (i : Int) < (n : Int) := by omega
   have k0 : (0 : Int) ≤ (i : Int) := Int.natCast_nonneg _
   obtain ⟨a, ha⟩ : ∃ a, a = qs[i]'(by omega) := ⟨_, rfl⟩
   rw [← ha] at hf
   have hmem : a ∈ qs := by rw [ha]; exact List.getElem_mem _
   have htk : qs.take (i + 1) = qs.take i ++ [a] := by rw [List.take_succ_eq_append_getElem (by omega), ha]
   clear ha
   obtain ⟨f0, f1, f2, f3, f4⟩ := hf
   have HA1 := Lib.hid (HA.out q a i hmem hq)
   replace htk := Lib.hid htk
   replace hq := Lib.hid hq
   clear hmem
   replace hL0 := (hL0.new rfl [.int .u64 ((zl a.num : Nat) : Int), .string (zh a.num), .bool (zs a.num), .int .u64 ((lo (fe a) : Nat) : Int), .string (hs (fe a))] 38)
   generalize hweq : (wr.alloc (.cells #[.int .u64 ((zl a.num : Nat) : Int), .string (zh a.num), .bool (zs a.num), .int .u64 ((lo (fe a) : Nat) : Int), .string (hs (fe a))] 38)) = x1 at hL0
   have hN0 := cells_of _ 0 [] rfl (hL0.get _ _ List.mem_cons_self)
   simp only [cellsF, and_true, Nat.zero_add, Nat.reduceAdd] at hN0
   go_wp2_with fail
   clear hN0
   with_reducible refine Calls.mono (HA1.out _ (hL0.weak (List.Sublist.cons _ (List.Sublist.refl _)))) ?_
   rintro e x9 ⟨rfl, hG⟩
   clear hL0 hweq f0 f1 f2 f3 f4
   go_wp2_with fail
   go_roundw
   case rel => exact ⟨i + 1, _, _, by omega, by first | rfl | go_num, by omega, by rw [htk.out, qsum_snoc, ← hq.out], hG⟩
   case measure => simp [intOf]; omega
  ·obtain rfl : i = n := by omega
   subst hzi
   have k1 : ¬ (i : Int) < (i : Int) := by omega
   have hqq := hq.trans (congrArg qsum (List.take_of_length_le (Nat.le_of_eq hlen)))
   subst hqq
   clear hq
   go_wp2_with fail
   go_end0
   exact ⟨rfl, hL0⟩
set_option maxHeartbeats 4000000 in
set_option maxRecDepth 100000 in
theorem sum_w (ao : Option Addr) (n c : Nat) (qs : List Rat) (hn0 : n ≤ 1000000)
  (HE : ∀ (w0 : World) (t : Nat), (0 < n → ∃ g, ao = some ⟨g, 0, none⟩ ∧ FS w0 g qs) ∧ qs.length = n ∧ n ≤ 1000000 → ∀ w, GL w0 w [(t, [.int .u64 ((zl ((0 : Rat)).num : Nat) : Int), .string (zh ((0 : Rat)).num), .bool (zs ((0 : Rat)).num), .int .u64 ((lo (fe (0 : Rat)) : Nat) : Int), .string (hs (fe (0 : Rat)))])] → Calls Tryz.prog 136 #[.slice ao n c, .func (.func 137) #[.pointer (some ⟨t, 0, none⟩)] #[]] w fun xe w' => xe = .returned (.tuple #[]) ∧ GL w0 w' [(t, [.int .u64 ((zl (qsum qs).num : Nat) : Int), .string (zh (qsum qs).num), .bool (zs (qsum qs).num), .int .u64 ((lo (fe (qsum qs)) : Nat) : Int), .string (hs (fe (qsum qs)))])])
  (w : World) (hn : (0 < n → ∃ g, ao = some ⟨g, 0, none⟩ ∧ FS w g qs) ∧ qs.length = n ∧ n ≤ 1000000) :
  Calls Tryz.prog 88 #[.slice ao n c] w fun xe w' => xe = .returned (fracV (qsum qs)) ∧ Below w.heap.size w w' := by
 have hL0 : GL w w [] := GL.start w
 generalize qsum qs = s at *
 replace HE := Lib.hid HE
 have hn2 := Lib.hid hn.2
 have hcell := Lib.hid hn.1
 clear hn
 replace hL0 := (hL0.new rfl [.int .u64 0, .string ⟨#[]⟩, .bool false, .int .u64 0, .string ⟨#[]⟩] 38)
 generalize hweq : (w.alloc (.cells #[.int .u64 0, .string ⟨#[]⟩, .bool false, .int .u64 0, .string ⟨#[]⟩] 38)) = x1 at hL0
 have hG : GL x1 x1 [] := GL.start x1
 replace hG := hG.new rfl [.int .u64 0, .string ⟨#[]⟩, .bool false, .int .u64 0, .string ⟨#[]⟩] 166
 generalize hweq2 : x1.alloc (.cells #[.int .u64 0, .string ⟨#[]⟩, .bool false, .int .u64 0, .string ⟨#[]⟩] 166) = x2 at hG
 go_enter Tryz.func88, Tryz.ntmps88
 go_wp2_with fail
 rw [← zero_cells] at hG
 have hc2 : 0 < n → ∃ g, ao = some ⟨g, 0, none⟩ ∧ FS x1 g qs := fun h => by obtain ⟨g, h1, h2⟩ := hcell.out h; exact ⟨g, h1, h2.below hL0.bl⟩
 with_reducible refine Calls.mono (HE.out x1 x1.heap.size ⟨hc2, hn2.out⟩ x2 hG) ?_
 rintro e x3 ⟨rfl, hE⟩
 replace hL0 := hL0.join hE
 simp only [List.cons_append, List.nil_append] at hL0
 clear hE hG hweq hweq2 hc2 hcell hn2 HE
 generalize x1.heap.size = t at *
 have hA := hL0.fc
 simp only [fcG, cellsF, neK, and_true, ne_eq, Nat.zero_add, Nat.reduceAdd] at hA
 have hP := hL0.put 1 (w.heap.size) _ rfl [.int .u64 ((zl s.num : Nat) : Int), .string (zh s.num), .bool (zs s.num), .int .u64 ((lo (fe s) : Nat) : Int), .string (hs (fe s))] rfl
 simp only [setAll, List.set_cons_zero, List.set_cons_succ] at hP
 generalize hput1 : (((((x3.setCell ⟨w.heap.size, 0, none⟩ (.int .u64 ((zl s.num : Nat) : Int))).setCell ⟨w.heap.size, 1, none⟩ (.string (zh s.num))).setCell ⟨w.heap.size, 2, none⟩ (.bool (zs s.num))).setCell ⟨w.heap.size, 3, none⟩ (.int .u64 ((lo (fe s) : Nat) : Int))).setCell ⟨w.heap.size, 4, none⟩ (.string (hs (fe s)))) = x2 at hP
 have hB1 := hP.fc
 simp only [fcG, cellsF, neK, and_true, ne_eq, Nat.zero_add, Nat.reduceAdd] at hB1
 replace hL0 := hP
 go_wp2_with fail
 exact bodyPost_ret (v := fracV s) (by simp [results, Tryz.results88, go_sem, hB1]) rfl ⟨rfl, hL0.bl⟩
theorem slq_parts' {w : World} {ao : Option Addr} {n c : Nat} {qs : List Rat} (h : SlQ w (.slice ao n c) qs) (hl : qs.length ≤ 1000000) : (0 < n → ∃ g, ao = some ⟨g, 0, none⟩ ∧ FS w g qs) ∧ qs.length = n ∧ n ≤ 1000000 := by
 rcases h with ⟨ao, c, h1, rfl⟩ | ⟨g, c, h1, h2⟩
 ·simp only [Value.slice.injEq] at h1
  obtain ⟨-, rfl, -⟩ := h1
  exact ⟨fun h => absurd h (by omega), rfl, by omega⟩
 ·simp only [Value.slice.injEq] at h1
  obtain ⟨rfl, rfl, -⟩ := h1
  exact ⟨fun _ => ⟨g, rfl, h2⟩, rfl, hl⟩
theorem sumF (ao : Option Addr) (n c : Nat) (qs : List Rat) (k : Nat) (hk : k ≤ 10) (hl : qs.length ≤ 1000) (hs : ∀ q ∈ qs, Sz q k) (w : World) (h : SlQ w (.slice ao n c) qs) :
  Calls Tryz.prog 88 #[.slice ao n c] w fun xe w' => xe = .returned (fracV (qsum qs)) ∧ Below w.heap.size w w' := by
 have hp := slq_parts' h (by omega)
 refine sum_w ao n c qs hp.2.2 (fun w0 t hn w hG => each_add w0 t ao n c qs 0 rfl hn (fun q a i ha hq w hG => total_add w0 t q a (q + a) (fun w => addF q a 20000 ?_ ((hs a ha).mono (by omega)) (by omega) w) w hG) w hG) w hp
 rw [hq]
 have h0 : Sz 0 1 := ⟨digs_length_iff.2 (by unfold Bs; decide), digs_length_iff.2 (by unfold Bs; decide)⟩
 have hz := qsum_sz (qs.take i) 1 0 h0 (fun q hq => hs q (List.mem_of_mem_take hq))
 refine hz.mono ?_
 rw [List.length_take]
 have h1 : min i qs.length * (k + 1) ≤ 1000 * 11 := Nat.mul_le_mul (by omega) (by omega)
 omega
end Go.Proofs.YtoahpkelajimfaaGreatDoor
namespace Go.Proofs.YtoahpkelajimfaaGreatDoor
open Go.RowKit
attribute [local irreducible] lo hs sm s64 c64 d64 b64 mh ml pd pc qd qc val hiB str cmpI srD lz nb zl zh zs
theorem greaterF (p q : Rat) (k : Nat) (hp : Sz p k) (hq : Sz q k) (hk : k ≤ 100000000) (w : World) : Calls Tryz.prog 121 #[fracV p, fracV q] w fun x w' => x = .returned (.bool (gtQ p q)) ∧ Below w.heap.size w w' := by
 have h := cmpQ_gt p q
 cases hb : gtQ p q with
 | true => rw [hb] at h; exact gtr_true p.num q.num _ (fe p) (fe q) (cmpF p q k hp hq hk) h w
 | false => rw [hb] at h; exact gtr_false p.num q.num _ (fe p) (fe q) (cmpF p q k hp hq hk) h w
end Go.Proofs.YtoahpkelajimfaaGreatDoor
namespace Go.Proofs.YtoahpkelajimfaaGreatDoor
open Go.RowKit
attribute [local irreducible] lo hs sm s64 c64 d64 b64 mh ml pd pc qd qc val hiB str cmpI srD lz nb zl zh zs
theorem szc (q : Rat) (h1 : q.num.natAbs < 18446744073709551616) (h2 : q.den < 18446744073709551616) : Sz q 1 :=
 ⟨digs_length_iff.2 (by rw [Nat.pow_one]; exact h1), digs_length_iff.2 (by rw [Nat.pow_one]; exact h2)⟩
theorem frV_q0 : fracV 0 = .agg #[.int .u64 0, .string ⟨#[]⟩, .bool false, .int .u64 0, .string ⟨#[]⟩] := frV_00
set_option maxHeartbeats 4000000 in
set_option maxRecDepth 100000 in
theorem fmax_w (ao : Option Addr) (n c : Nat) (x : Int) (e : Nat) (K : World → Prop) (hK : Keeps K) (HA : RK K 122 #[.agg #[.func (.func 121) #[] #[]], .slice ao n c] (frV x e)) (w : World) (kK : K w) :
  Calls Tryz.prog 72 #[.slice ao n c] w fun xe w' => xe = .returned (frV x e) ∧ Below w.heap.size w w' := by
 have hL0 : GL w w [] := GL.start w
 replace hK := Lib.hid hK
 replace HA := Lib.hid HA
 replace hL0 := (hL0.new rfl [.int .u64 0, .string ⟨#[]⟩, .bool false, .int .u64 0, .string ⟨#[]⟩] 38)
 generalize hweq : (w.alloc (.cells #[.int .u64 0, .string ⟨#[]⟩, .bool false, .int .u64 0, .string ⟨#[]⟩] 38)) = x1 at hL0
 go_enter Tryz.func72, Tryz.ntmps72
 go_wp2_with fail
 with_reducible refine Calls.mono (HA.out _ (hK.out.at hL0.bl kK)) ?_
 rintro e x2 ⟨rfl, hb⟩
 replace hL0 := hL0.call hb
 clear hb hweq
 have hA := hL0.fc
 simp only [fcG, cellsF, neK, and_true, ne_eq, Nat.zero_add, Nat.reduceAdd] at hA
 have hP := hL0.put 0 (w.heap.size) _ rfl [.int .u64 ((zl x : Nat) : Int), .string (zh x), .bool (zs x), .int .u64 ((lo e : Nat) : Int), .string (hs e)] rfl
 simp only [setAll, List.set_cons_zero, List.set_cons_succ] at hP
 generalize hput1 : (((((x2.setCell ⟨w.heap.size, 0, none⟩ (.int .u64 ((zl x : Nat) : Int))).setCell ⟨w.heap.size, 1, none⟩ (.string (zh x))).setCell ⟨w.heap.size, 2, none⟩ (.bool (zs x))).setCell ⟨w.heap.size, 3, none⟩ (.int .u64 ((lo e : Nat) : Int))).setCell ⟨w.heap.size, 4, none⟩ (.string (hs e))) = x3 at hP
 have hB1 := hP.fc
 simp only [fcG, cellsF, neK, and_true, ne_eq, Nat.zero_add, Nat.reduceAdd] at hB1
 replace hL0 := hP
 go_wp2_with fail
 exact bodyPost_ret (v := frV x e) (by simp [results, Tryz.results72, go_sem, hB1]) rfl ⟨rfl, hL0.bl⟩
theorem slq_parts {w : World} {ao : Option Addr} {n c : Nat} {qs : List Rat} (h : SlQ w (.slice ao n c) qs) (hl : qs.length ≤ 1000000) : (0 < n → ∃ g, ao = some ⟨g, 0, none⟩ ∧ FS w g qs) ∧ qs.length = n ∧ n ≤ 1000000 := by
 rcases h with ⟨a, c', h1, h2⟩ | ⟨g, c', h1, h2⟩
 ·simp only [Value.slice.injEq] at h1
  obtain ⟨-, rfl, -⟩ := h1
  subst h2
  exact ⟨fun h => absurd h (Nat.lt_irrefl 0), rfl, by omega⟩
 ·simp only [Value.slice.injEq] at h1
  obtain ⟨rfl, rfl, -⟩ := h1
  exact ⟨fun _ => ⟨g, rfl, h2⟩, rfl, hl⟩
theorem maxF (ao : Option Addr) (n c : Nat) (qs : List Rat) (k : Nat) (hk : k ≤ 100000000) (hl : qs.length ≤ 1000000) (hs : ∀ q ∈ qs, Sz q k) (w : World) (h : SlQ w (.slice ao n c) qs) :
  Calls Tryz.prog 72 #[.slice ao n c] w fun xe w' => xe = .returned (fracV (amg gtQ qs)) ∧ Below w.heap.size w w' :=
 fmax_w ao n c (amg gtQ qs).num (fe (amg gtQ qs)) _ (SlQ.keeps (.slice ao n c) qs) (fun w h => among_max ao n c qs (fun p q hp hq w => greaterF p q k (hs p hp) (hs q hq) hk w) w h (slq_parts h hl)) w h
/-- The variable of package bytealg that strings.Cut looks at. -/
def MaxL (w : World) : Prop := ∃ m, w.cell? ⟨3, 0, none⟩ = some (.int .i64 m)
theorem MaxL.keeps : Keeps MaxL := fun w w' hb ⟨m, h⟩ => ⟨m, by
 have hl := World.block_lt_of_cell? w _ h
 exact (hb.cell (p := ⟨3, 0, none⟩) hl).trans h⟩
end Go.Proofs.YtoahpkelajimfaaGreatDoor
namespace Go.Proofs.YtoahpkelajimfaaGreatDoor
/-- Every operation waits for earlier ones alone, and what comes behind it waits for it or is apart from it. -/
def fastFrom (md : Region.Mode) (ops : Array Oper) : Nat → List Oper → Bool
 | _, [] => true
 | k, o :: l => (o.after.all fun e => !Region.binds md e || decide (e.on < k)) &&
   (l.all fun oj => (oj.after.any fun e => Region.binds md e && e.on == k) || o.apart ops oj) && fastFrom md ops (k + 1) l
def fastB (md : Region.Mode) (l : List Oper) : Bool := Region.noSelect l.toArray && fastFrom md l.toArray 0 l
def preL (s n : Nat) : Array Bool := ((List.range s).map fun i => decide (i < n)).toArray
theorem preL_get (s n i : Nat) (d : Bool) : (preL s n).getD i d = if i < s then decide (i < n) else d := by
 unfold preL
 by_cases h : i < s
 ·simp [h]
 ·simp [h]
theorem preL_set (s n : Nat) : (preL s n).setIfInBounds n true = preL s (n + 1) := by
 apply Array.ext
 ·simp [preL]
 ·intro i h1 h2
  simp only [preL, List.setIfInBounds_toArray, List.getElem_toArray]
  by_cases e : n = i
  ·subst e; simp
  ·rw [List.getElem_set_ne e]
   simp only [List.getElem_map, List.getElem_range]
   by_cases h : i < n
   ·rw [decide_eq_true h, decide_eq_true (by omega)]
   ·rw [decide_eq_false h, decide_eq_false (by omega)]
theorem preL_zero (s : Nat) : preL s 0 = Array.replicate s false := by
 apply Array.ext
 ·simp [preL]
 ·intro i h1 h2; simp [preL]
theorem lexFrom_of_fast {md : Region.Mode} {ops : Array Oper} : ∀ (l : List Oper) (k : Nat), (∀ j, l[j]? = ops[k + j]?) → k + l.length = ops.size → fastFrom md ops k l = true → Region.lexFrom md ops l.length k (preL ops.size k) = true
 | [], k, hl, hs, _ => by
  have : Region.ready md ops (preL ops.size k) = [] := by
   apply List.eq_nil_iff_forall_not_mem.2
   intro j hj
   obtain ⟨h1, o, ho, -⟩ := mem_ready.1 hj
   have hj' : j < ops.size := (Array.getElem?_eq_some_iff.1 ho).1
   rw [preL_get, if_pos hj', decide_eq_true (by simp at hs; omega)] at h1
   cases h1
  simp [Region.lexFrom, this]
 | o :: l, k, hl, hs, h => by
  have h0 : ops[k]? = some o := by simpa using (hl 0).symm
  have hk : k < ops.size := (Array.getElem?_eq_some_iff.1 h0).1
  simp only [fastFrom, Bool.and_eq_true] at h
  obtain ⟨⟨hw, hf⟩, hr⟩ := h
  simp only [List.length_cons, Region.lexFrom, Bool.and_eq_true]
  refine ⟨⟨List.contains_iff_mem.2 (mem_ready.2 ⟨by rw [preL_get, if_pos hk, decide_eq_false (by omega)], o, h0, fun e he hb => ?_⟩), ?_⟩, ?_⟩
  ·have h1 := (Array.all_eq_true_iff_forall_mem.1 hw) e he
   simp only [hb, Bool.not_true, Bool.false_or, decide_eq_true_eq] at h1
   rw [preL_get, if_pos (by omega), decide_eq_true h1]
  ·simp only [Region.free, h0, List.all_eq_true, List.mem_range]
   intro j hj
   by_cases e : j = k
   ·simp [e]
   ·by_cases hjk : j < k
    ·rw [preL_get, if_pos hj, decide_eq_true hjk]; simp
    ·have h2 : l[j - k - 1]? = ops[j]? := by
      have := hl (j - k)
      rw [show k + (j - k) = j by omega] at this
      rw [← this, show j - k = (j - k - 1) + 1 by omega, List.getElem?_cons_succ]
      rfl
     rw [Array.getElem?_eq_getElem hj] at h2
     have h3 := (List.all_eq_true.1 hf) ops[j] (List.mem_of_getElem? h2)
     rw [Array.getElem?_eq_getElem hj]
     simp only [Bool.or_eq_true] at h3 ⊢
     exact .inr h3
  ·rw [preL_set]
   exact lexFrom_of_fast l (k + 1) (fun j => by have := hl (j + 1); simpa [Nat.add_assoc, Nat.add_comm 1 j] using this) (by simp at hs; omega) hr
theorem lexB_of_fast {md : Region.Mode} {l : List Oper} (h : fastB md l = true) : Region.lexB md l.toArray = true := by
 simp only [fastB, Bool.and_eq_true] at h
 simp only [Region.lexB, Bool.and_eq_true]
 refine ⟨h.1, ?_⟩
 have := lexFrom_of_fast (md := md) (ops := l.toArray) l 0 (fun j => by simp) (by simp) h.2
 rw [preL_zero] at this
 simpa using this
end Go.Proofs.YtoahpkelajimfaaGreatDoor
namespace Go.Proofs.YtoahpkelajimfaaGreatDoor
open Go.RowKit
attribute [local irreducible] lo hs sm s64 c64 d64 b64 mh ml pd pc qd qc val hiB str cmpI srD lz zl zh zs dval
/-- A fraction of small data. -/
def qmade (n : Int) (d : Nat) : Rat := mkRat n (if d < 1 then 1 else d)
theorem qmade_parts (n : Int) (d : Nat) : (qmade n d).num.natAbs ≤ n.natAbs ∧ (qmade n d).den ≤ (if d < 1 then 1 else d) := by
 unfold qmade
 obtain ⟨h1, h2⟩ := canc (z := n) (d := if d < 1 then 1 else d) (by split <;> omega)
 rw [h1, h2, Int.natAbs_tdiv]
 exact ⟨Nat.div_le_self _ _, Nat.div_le_self _ _⟩
theorem qmade_sz (n : Int) (d : Nat) (h1 : -9223372036854775808 ≤ n) (h2 : n < 9223372036854775808) (h3 : d < 4294967296) : Sz (qmade n d) 1 := by
 obtain ⟨e1, e2⟩ := qmade_parts n d
 exact szc _ (by omega) (by split at e2 <;> omega)
end Go.Proofs.YtoahpkelajimfaaGreatDoor
namespace Go.Proofs.YtoahpkelajimfaaGreatDoor
open Go.RowKit
attribute [local irreducible] lo hs sm s64 c64 d64 b64 mh ml pd pc qd qc val hiB str cmpI srD lz nb zl zh zs dval
/-- A fraction's cells; those of a list. -/
def frC (q : Rat) : List Value := [.int .u64 ((zl q.num : Nat) : Int), .string (zh q.num), .bool (zs q.num), .int .u64 ((lo (fe q) : Nat) : Int), .string (hs (fe q))]
def frCs (l : List Rat) : List Value := l.flatMap frC
theorem frC_length (q : Rat) : (frC q).length = 5 := rfl
theorem frCs_length : ∀ l : List Rat, (frCs l).length = l.length * 5
 | [] => rfl
 | q :: l => by unfold frCs; rw [List.flatMap_cons, List.length_append, frC_length, List.length_cons]; have := frCs_length l; unfold frCs at this; omega
theorem frCs_append (l m : List Rat) : frCs (l ++ m) = frCs l ++ frCs m := by unfold frCs; rw [List.flatMap_append]
theorem frCs_snoc (l : List Rat) (q : Rat) : frCs (l ++ [q]) = frCs l ++ frC q := by rw [frCs_append]; simp [frCs]
theorem frCs_get : ∀ (l : List Rat) (i j : Nat) (h : i < l.length), j < 5 → (frCs l)[i * 5 + j]? = (frC l[i])[j]?
 | q :: l, 0, j, h, hj => by
  unfold frCs
  rw [List.flatMap_cons, Nat.zero_mul, Nat.zero_add, List.getElem?_append_left (by rw [frC_length]; exact hj)]; rfl
 | q :: l, i + 1, j, h, hj => by
  have hi : i < l.length := by simpa using h
  have ih := frCs_get l i j hi hj
  unfold frCs at ih ⊢
  rw [List.flatMap_cons, List.getElem?_append_right (by rw [frC_length]; omega), frC_length, show (i + 1) * 5 + j - 5 = i * 5 + j by omega, ih]
  rfl
theorem frC_one : ∀ (q : Rat), ∀ u ∈ frC q, u.oneCell' = true := by
 intro q u hu
 unfold frC at hu
 simp only [List.mem_cons, List.not_mem_nil, or_false] at hu
 rcases hu with rfl | rfl | rfl | rfl | rfl <;> rfl
theorem add0 (g j : Nat) : (⟨g, 0, none⟩ : Addr).add j = ⟨g, j, none⟩ := by
 unfold Addr.add
 by_cases h : j = 0
 ·subst h; simp
 ·simp [h]
theorem own_cells {w : World} {B n : Nat} {v : Value} {l : List Rat} {g : Nat} {c : Nat} (h : w.ownsRow B 38 5 v n (frCs l)) (hv : v = .slice (some ⟨g, 0, none⟩) n c) (j : Nat) (u : Value) (hu : (frCs l)[j]? = some u) : w.cell? ⟨g, j, none⟩ = some u := by
 have := World.ownsRow.cells h (g := g) (by rw [hv]; rfl) j u hu
 rw [add0] at this
 exact this
theorem own_fs {w : World} {B n g c : Nat} {v : Value} {l : List Rat} (h : w.ownsRow B 38 5 v n (frCs l)) (hv : v = .slice (some ⟨g, 0, none⟩) n c) : FS w g l := by
 have hc := own_cells h hv
 refine ⟨fun i hi => ?_, (h.lt g (by rw [hv]; rfl)).2⟩
 have e := fun j hj => frCs_get l i j hi hj
 exact ⟨hc _ _ (by have := e 0 (by omega); rw [Nat.add_zero] at this; exact this), hc _ _ (e 1 (by omega)), hc _ _ (e 2 (by omega)), hc _ _ (e 3 (by omega)), hc _ _ (e 4 (by omega))⟩
theorem own_slq {w : World} {B n : Nat} {v : Value} {l : List Rat} (h : w.ownsRow B 38 5 v n (frCs l)) (hn : n = l.length) : SlQ w v l := by
 rcases h.2 with ⟨h1, h2⟩ | ⟨g, cap, cur, h1, h2, h3, h4, h5, h6, h7⟩
 ·exact .inl ⟨none, 0, h1, List.eq_nil_of_length_eq_zero (by omega)⟩
 ·exact .inr ⟨g, cap, by rw [h1, hn], own_fs h h1⟩
theorem own_below {w w' : World} {B n : Nat} {v : Value} {l : List Rat} (h : w.ownsRow B 38 5 v n (frCs l)) (hb : Below w.heap.size w w') : w'.ownsRow B 38 5 v n (frCs l) := by
 refine ⟨h.1, ?_⟩
 rcases h.2 with h1 | ⟨g, cap, cur, h1, h2, h3, h4⟩
 ·exact .inl h1
 ·refine .inr ⟨g, cap, cur, h1, h2, ?_, h4⟩
  have hg := (h.lt g (by rw [h1]; rfl)).2
  rw [hb.block g hg]; exact h3
end Go.Proofs.YtoahpkelajimfaaGreatDoor
namespace Go.Proofs.YtoahpkelajimfaaGreatDoor
open Go.RowKit
def tabV (n : Nat) (f : Nat → Rat) : List Rat := (List.range n).map f
def gv (l : List Rat) (i : Nat) : Rat := l.getD i 0
theorem tabV_len (n : Nat) (f : Nat → Rat) : (tabV n f).length = n := by unfold tabV; rw [List.length_map, List.length_range]
theorem tabV_get {n : Nat} {f : Nat → Rat} {i : Nat} (h : i < (tabV n f).length) : (tabV n f)[i]'h = f i := by simp only [tabV, List.getElem_map, List.getElem_range]
theorem gv_get {l : List Rat} {i : Nat} (h : i < l.length) : gv l i = l[i]'h := by unfold gv; rw [List.getD_eq_getElem?_getD, List.getElem?_eq_getElem h]; rfl
theorem gv_tab {n : Nat} {f : Nat → Rat} {i : Nat} (h : i < n) : gv (tabV n f) i = f i := by rw [gv_get (by rw [tabV_len]; exact h), tabV_get]
theorem tab_gv (l : List Rat) : tabV l.length (gv l) = l := by
 apply List.ext_getElem (tabV_len _ _)
 intro i h1 h2
 rw [tabV_get, gv_get h2]
theorem tab_gv' {l : List Rat} {n : Nat} (h : l.length = n) : tabV n (gv l) = l := by subst h; exact tab_gv l
theorem tab_ext {n : Nat} {f g : Nat → Rat} (h : ∀ i, i < n → f i = g i) : tabV n f = tabV n g := by
 unfold tabV
 exact List.map_congr_left fun i hi => h i (List.mem_range.1 hi)
theorem tab_mem {n : Nat} {f : Nat → Rat} {q : Rat} (h : q ∈ tabV n f) : ∃ i, i < n ∧ q = f i := by
 obtain ⟨i, hi, e⟩ := List.mem_map.1 h
 exact ⟨i, List.mem_range.1 hi, e.symm⟩
theorem tabV_succ (n : Nat) (f : Nat → Rat) : tabV (n + 1) f = tabV n f ++ [f n] := by unfold tabV; rw [List.range_succ, List.map_append]; rfl
theorem tabV_zero (f : Nat → Rat) : tabV 0 f = [] := rfl
theorem tab_all {n : Nat} {f : Nat → Rat} {P : Rat → Prop} (h : ∀ i, i < n → P (f i)) : ∀ q ∈ tabV n f, P q := fun q hq => by
 obtain ⟨i, hi, rfl⟩ := tab_mem hq; exact h i hi
/-- A finite sum. -/
def bsV : Nat → (Nat → Rat) → Rat
 | 0, _ => 0
 | n + 1, f => bsV n f + f n
theorem qsum_tab (n : Nat) (f : Nat → Rat) : qsum (tabV n f) = bsV n f := by
 induction n with
 | zero => rfl
 | succ n ih => rw [tabV_succ, qsum_snoc, ih]; rfl
/-- The maximum norm. -/
def mxV (l : List Rat) : Rat := amg gtQ (l.map absQ)
theorem gv_mem {l : List Rat} {i : Nat} (h : i < l.length) : gv l i ∈ l := by rw [gv_get h]; exact List.getElem_mem h
/-- Sizes. -/
theorem bs_sz {n : Nat} {f : Nat → Rat} {k : Nat} (hf : ∀ i, i < n → Sz (f i) k) : Sz (bsV n f) (n * (k + 1) + 1) := by
 rw [← qsum_tab]
 have h := qsum_sz (k := k) (tabV n f) 1 0 (szc 0 (by decide) (by decide)) (tab_all hf)
 rw [tabV_len] at h
 exact h.mono (by omega)
theorem absQ_szV {q : Rat} {k : Nat} (h : Sz q k) : Sz (absQ q) k := by
 unfold absQ; split
 ·exact h.neg
 ·exact h
end Go.Proofs.YtoahpkelajimfaaGreatDoor
namespace Go.Proofs.YtoahpkelajimfaaGreatDoor
open Go.RowKit
section
variable {P : Program} {ops : Array Oper} {C : World → Prop}
/-- How many of the first n have not come up. -/
def left (n : Nat) (listed : Array Bool) : Nat := (List.range n).countP fun i => !listed.getD i false
end
end Go.Proofs.YtoahpkelajimfaaGreatDoor
namespace Go.Proofs.YtoahpkelajimfaaGreatDoor
open Go.RowKit
attribute [local irreducible] lo hs sm s64 c64 d64 b64 mh ml pd pc qd qc val hiB str cmpI srD lz nb zl zh zs fe
def setCells (c : List Value) : Nat → List Value → List Value
 | _, [] => c
 | i, v :: vs => setCells (c.set i v) (i + 1) vs
theorem setAll_hdn {k : Nat} : ∀ (c : List Value) (o : Nat) (W : World) (c0 : List Value), o + c.length ≤ c0.length → Hd W k c0 → Hd (setAll W k o c) k (setCells c0 o c)
 | [], _, _, _, _, h => h
 | v :: vs, o, W, c0, hl, h => setAll_hdn vs (o + 1) _ (c0.set o v) (by rw [List.length_set]; rw [List.length_cons] at hl; omega) (hd_set h o v (by rw [List.length_cons] at hl; omega))
theorem GL.putn {w0 W : World} {L : List (Nat × List Value)} (h : GL w0 W L) (i k : Nat) (c0 : List Value) (hi : L[i]? = some (k, c0)) (o : Nat) (c : List Value) (hc : o + c.length ≤ c0.length) :
  GL w0 (setAll W k o c) (L.set i (k, setCells c0 o c)) := by
 have hu := setAll_upd k c o W
 obtain ⟨hil, he⟩ := List.getElem?_eq_some_iff.1 hi
 have hm : (k, c0) ∈ L := he ▸ List.getElem_mem hil
 have hk := h.all _ hm
 have hd := setAll_hdn c o W c0 hc hk.2
 have hmap : (L.set i (k, setCells c0 o c)).map (·.1) = L.map (·.1) := by
  rw [List.map_set]
  apply List.ext_getElem?
  intro j
  by_cases e : i = j
  ·subst e
   rw [List.getElem?_set_self (by simpa using hil), List.getElem?_map, hi]; rfl
  ·rw [List.getElem?_set_ne e]
 refine ⟨h.bl.trans (hu.below hk.1), fun p hp => ?_, by rw [hmap]; exact h.nd⟩
 obtain ⟨j, hj, hpj⟩ := List.getElem_of_mem hp
 by_cases e : i = j
 ·subst e
  rw [List.getElem_set_self] at hpj
  subst hpj
  exact ⟨hk.1, hd⟩
 ·rw [List.getElem_set_ne e] at hpj
  rw [List.length_set] at hj
  have hp' : p ∈ L := hpj ▸ List.getElem_mem hj
  have hne : p.1 ≠ k := fun e2 => by
   have h1 : (L.map (·.1))[i]? = some k := by rw [List.getElem?_map, hi]; rfl
   have h2 : (L.map (·.1))[j]? = some k := by rw [List.getElem?_map, List.getElem?_eq_getElem hj, hpj]; simp [e2]
   exact e ((List.getElem?_inj (by simpa using hil) h.nd).1 (h1.trans h2.symm))
  exact ⟨(h.all p hp').1, hu.hd hne (h.all p hp').2⟩
theorem setCells_app : ∀ (c p r : List Value) (o : Nat), setCells (p ++ r) (p.length + o) c = p ++ setCells r o c
 | [], _, _, _ => rfl
 | v :: c, p, r, o => by
  show setCells ((p ++ r).set (p.length + o) v) (p.length + o + 1) c = p ++ setCells (r.set o v) (o + 1) c
  rw [List.set_append_right _ _ (Nat.le_add_right _ _), Nat.add_sub_cancel_left, Nat.add_assoc, setCells_app c p (r.set o v) (o + 1)]
theorem setF_frC : ∀ (L : List Rat) (i : Nat) (q : Rat), i < L.length → setCells (frCs L) (i * 5) (frC q) = frCs (L.set i q)
 | x :: L, 0, q, _ => by
  show setCells (frC x ++ frCs L) 0 (frC q) = frC q ++ frCs L
  rfl
 | x :: L, i + 1, q, h => by
  have ih := setF_frC L i q (by simpa using h)
  have e := setCells_app (frC q) (frC x) (frCs L) (i * 5)
  rw [frC_length] at e
  show setCells (frC x ++ frCs L) ((i + 1) * 5) (frC q) = frC x ++ frCs (L.set i q)
  rw [show (i + 1) * 5 = 5 + i * 5 by omega, e, ih]
theorem frCs_at : ∀ (L : List Rat) (i j : Nat) (h : i < L.length), j < 5 → (frCs L)[i * 5 + j]? = (frC (L[i]'h))[j]?
 | x :: L, 0, j, _, hj => by
  show (frC x ++ frCs L)[0 * 5 + j]? = _
  rw [Nat.zero_mul, Nat.zero_add, List.getElem?_append_left (by rw [frC_length]; exact hj)]; rfl
 | x :: L, i + 1, j, h, hj => by
  have ih := frCs_at L i j (by simpa using h) hj
  show (frC x ++ frCs L)[(i + 1) * 5 + j]? = _
  rw [List.getElem?_append_right (by rw [frC_length]; omega), frC_length, show (i + 1) * 5 + j - 5 = i * 5 + j by omega, ih]; rfl
theorem hd_fs {w : World} {g : Nat} {L : List Rat} (h : Hd w g (frCs L)) : FS w g L := by
 refine ⟨fun i hi => ?_, h.lt⟩
 have key : ∀ (j : Nat) (v : Value), j < 5 → (frC (L[i]'hi))[j]? = some v → w.cell? ⟨g, i * 5 + j, none⟩ = some v := fun j v hj hv => by
  rw [← frCs_at L i j hi hj] at hv
  obtain ⟨h1, h2⟩ := List.getElem?_eq_some_iff.1 hv
  rw [h.cell _ h1, h2]
 exact ⟨key 0 _ (by decide) rfl, key 1 _ (by decide) rfl, key 2 _ (by decide) rfl, key 3 _ (by decide) rfl, key 4 _ (by decide) rfl⟩
/-- A store into a row of fractions. -/
theorem GL.putF {w0 W : World} {L : List (Nat × List Value)} (h : GL w0 W L) (i k : Nat) (l : List Rat) (hi : L[i]? = some (k, frCs l)) (o : Nat) (q : Rat) (ho : o < l.length) :
  GL w0 (((((W.setCell ⟨k, o * 5, none⟩ (.int .u64 ((zl q.num : Nat) : Int))).setCell ⟨k, o * 5 + 1, none⟩ (.string (zh q.num))).setCell ⟨k, o * 5 + 2, none⟩ (.bool (zs q.num))).setCell ⟨k, o * 5 + 3, none⟩ (.int .u64 ((lo (fe q) : Nat) : Int))).setCell ⟨k, o * 5 + 4, none⟩ (.string (hs (fe q)))) (L.set i (k, frCs (l.set o q))) := by
 have hp := h.putn i k (frCs l) hi (o * 5) (frC q) (by rw [frCs_length, frC_length]; omega)
 rw [setF_frC l o q ho] at hp
 exact hp
theorem infoFr : (Tryz.prog.info? 38).map (fun i => (i.zero, i.size, i.bytes)) = some (some (.agg #[.int .u64 0, .string ⟨#[]⟩, .bool false, .int .u64 0, .string ⟨#[]⟩]), 5, 56) := by kernel_rfl
theorem frC_zero : frC 0 = [.int .u64 0, .string ⟨#[]⟩, .bool false, .int .u64 0, .string ⟨#[]⟩] := by
 have h := frV_q0
 simpa [fracV, frC] using h
theorem made_zerosF : ∀ (n : Nat), madeCells (Value.cells (.agg #[.int .u64 0, .string ⟨#[]⟩, .bool false, .int .u64 0, .string ⟨#[]⟩])) (n * 5) = (frCs (List.replicate n 0)).toArray := by
 intro n
 apply Array.ext_getElem?
 intro i
 have hc : Value.cells (.agg #[.int .u64 0, .string ⟨#[]⟩, .bool false, .int .u64 0, .string ⟨#[]⟩]) = #[.int .u64 0, .string ⟨#[]⟩, .bool false, .int .u64 0, .string ⟨#[]⟩] := rfl
 have e2 : (frCs (List.replicate n 0)).toArray[i]? = (frCs (List.replicate n 0))[i]? := by simp
 rcases Nat.lt_or_ge i (n * 5) with h | h
 ·have hl : i / 5 < (List.replicate n (0 : Rat)).length := by rw [List.length_replicate]; omega
  have e := frCs_at (List.replicate n 0) (i / 5) (i % 5) hl (Nat.mod_lt _ (by decide))
  rw [show i / 5 * 5 + i % 5 = i by omega, List.getElem_replicate, frC_zero] at e
  rw [e2, e, hc]
  simp only [madeCells, Array.getElem?_map, Array.getElem?_range, h, if_true, Option.map_some]
  have h5 := Nat.mod_lt i (show 0 < 5 by decide)
  have hi5 : i % 5 = 0 ∨ i % 5 = 1 ∨ i % 5 = 2 ∨ i % 5 = 3 ∨ i % 5 = 4 := by omega
  show some (_ : Value) = _
  rcases hi5 with h | h | h | h | h <;> (show some (#[_, _, _, _, _][i % 5]!) = _) <;> rw [h] <;> rfl
 ·rw [Array.getElem?_eq_none (by rw [size_madeCells]; exact h), e2, List.getElem?_eq_none (by rw [frCs_length, List.length_replicate]; exact h)]
theorem add0H (g j : Nat) : (⟨g, 0, none⟩ : Addr).add j = ⟨g, j, none⟩ := by
 unfold Addr.add
 by_cases h : j = 0
 ·subst h; simp
 ·simp [h]
theorem hd_newsH {w : World} {k : Nat} {c : List Value} (h : Hd w k c) : ∀ (j : Nat) (u : Value), c[j]? = some u → w.cell? ((⟨k, 0, none⟩ : Addr).add j) = some u := by
 intro j u hu
 obtain ⟨hj, he⟩ := List.getElem?_eq_some_iff.1 hu
 rw [add0H, h.cell j hj, he]
theorem slq_pos {w : World} {ao : Option Addr} {n c : Nat} {l : List Rat} (h : SlQ w (.slice ao n c) l) (h0 : 0 < l.length) : ∃ g, ao = some ⟨g, 0, none⟩ ∧ n = l.length ∧ FS w g l := by
 rcases h with ⟨a, c2, e, rfl⟩ | ⟨g, c2, e, hf⟩
 ·exact absurd h0 (Nat.lt_irrefl _)
 ·simp only [Value.slice.injEq] at e
  obtain ⟨rfl, rfl, -⟩ := e
  exact ⟨g, rfl, rfl, hf⟩
theorem makeV (w : World) (c : Int) (n : Nat) (hc : c = n) (h : n ≤ 1000000) :
  (Instr.makeSlice 30 (.int .i64 c) (.int .i64 c)).run Tryz.prog w = .ok (.slice (some ⟨w.heap.size, 0, none⟩) n n) (w.alloc (.cells (frCs (List.replicate n 0)).toArray 38)) := by
 subst hc
 obtain ⟨i, hi, hz, h1, h2⟩ := info_parts infoFr
 have := run_make (P := Tryz.prog) w 30 38 i _ Tryz.underlying30 hi hz .i64 .i64 (n : Int) (n : Int) (by omega) (Int.le_refl _) (by rw [h2]; omega) (by omega)
 rw [this, h1]
 simp only [Int.toNat_natCast]
 rw [made_zerosF]
/-- A vector that is being filled: the first k elements are f's. -/
def rowV (f : Nat → Rat) (n k : Nat) : List Rat := tabV k f ++ List.replicate (n - k) 0
theorem rowV_len (f : Nat → Rat) (n k : Nat) (h : k ≤ n) : (rowV f n k).length = n := by unfold rowV; simp [tabV_len]; omega
theorem rowV_zero (f : Nat → Rat) (n : Nat) : rowV f n 0 = List.replicate n 0 := by unfold rowV; simp [tabV_zero]
theorem rowV_end (f : Nat → Rat) (n : Nat) : rowV f n n = tabV n f := by unfold rowV; simp
theorem rowV_step (f : Nat → Rat) (n k : Nat) (h : k < n) : (rowV f n k).set k (f k) = rowV f n (k + 1) := by
 unfold rowV
 obtain ⟨m, hm⟩ : ∃ m, n - k = m + 1 := ⟨n - k - 1, by omega⟩
 rw [hm, show n - (k + 1) = m by omega, List.set_append_right _ _ (by rw [tabV_len]; omega), tabV_succ, tabV_len]
 simp [List.replicate_succ]
theorem rep_tab (n : Nat) : List.replicate n (0 : Rat) = tabV n fun _ => 0 := by
 apply List.ext_getElem (by rw [tabV_len, List.length_replicate])
 intro i h1 h2
 rw [tabV_get, List.getElem_replicate]
/-- A vector that a call has made. -/
def NV (B : Nat) (l : List Rat) (v : Value) (w : World) : Prop := ∃ g, v = .slice (some ⟨g, 0, none⟩) l.length l.length ∧ B ≤ g ∧ Hd w g (frCs l)
theorem NV.below {B : Nat} {l : List Rat} {v : Value} {w w' : World} (h : NV B l v w) (hb : Below w.heap.size w w') : NV B l v w' := by
 obtain ⟨g, h1, h2, h3⟩ := h
 exact ⟨g, h1, h2, h3.below hb⟩
theorem NV.slq {B : Nat} {l : List Rat} {v : Value} {w : World} (h : NV B l v w) : SlQ w v l := by
 obtain ⟨g, h1, h2, h3⟩ := h
 exact .inr ⟨g, _, h1, hd_fs h3⟩
theorem NV.mono {B C : Nat} {l : List Rat} {v : Value} {w : World} (h : NV B l v w) (hc : C ≤ B) : NV C l v w := by
 obtain ⟨g, h1, h2, h3⟩ := h
 exact ⟨g, h1, Nat.le_trans hc h2, h3⟩
/-- A slice of vectors. -/
def VLs (w : World) (v : Value) (L : List (List Rat)) : Prop := ∃ ao c g, v = .slice ao L.length c ∧ (0 < L.length → ao = some ⟨g, 0, none⟩ ∧ g < w.heap.size) ∧ ∀ i (h : i < L.length), ∃ u, w.cell? ⟨g, i, none⟩ = some u ∧ SlQ w u (L[i]'h)
theorem VLs.below {w w' : World} {v : Value} {L : List (List Rat)} (h : VLs w v L) (hb : Below w.heap.size w w') : VLs w' v L := by
 obtain ⟨ao, c, g, h1, h2, h3⟩ := h
 refine ⟨ao, c, g, h1, fun h => ⟨(h2 h).1, Nat.lt_of_lt_of_le (h2 h).2 hb.size⟩, fun i hi => ?_⟩
 obtain ⟨u, h4, h5⟩ := h3 i hi
 exact ⟨u, (hb.cell (p := ⟨g, i, none⟩) (h2 (by omega)).2).trans h4, h5.below hb⟩
theorem VLs.keeps (v : Value) (L : List (List Rat)) : Keeps (fun w => VLs w v L) := fun _ _ hb h => h.below hb
theorem VLs.nil (w : World) (ao : Option Addr) (c : Nat) : VLs w (.slice ao 0 c) [] := ⟨ao, c, 0, rfl, fun h => absurd h (Nat.lt_irrefl _), fun i h => absurd h (Nat.not_lt_zero _)⟩
theorem slq_len {w : World} {v : Value} {l : List Rat} (h : SlQ w v l) : ∃ ao c, v = .slice ao l.length c ∧ (0 < l.length → ∃ g, ao = some ⟨g, 0, none⟩ ∧ FS w g l) := by
 rcases h with ⟨ao, c, h1, h2⟩ | ⟨g, c, h1, h2⟩
 ·subst h2; exact ⟨ao, c, h1, fun h => by simp at h⟩
 ·exact ⟨_, c, h1, fun _ => ⟨g, rfl, h2⟩⟩
end Go.Proofs.YtoahpkelajimfaaGreatDoor
namespace Go.Proofs.YtoahpkelajimfaaGreatDoor.Rx
open Go.RowKit
/-- The number that digits spell. -/
def tv : List Nat → Nat
 | [] => 0
 | d :: l => d + 10000 * tv l
theorem tv_nil : tv [] = 0 := rfl
/-- The digits of a number. -/
def td (n : Nat) : List Nat := if h : n = 0 then [] else n % 10000 :: td (n / 10000)
theorem td_zero : td 0 = [] := by rw [td, dif_pos rfl]
theorem td_pos {n : Nat} (h : n ≠ 0) : td n = n % 10000 :: td (n / 10000) := by rw [td, dif_neg h]
theorem td_lt (n : Nat) : ∀ d ∈ td n, d < 10000 := by
 induction n using Nat.strongRecOn with
 | _ n ih =>
  by_cases h : n = 0
  ·rw [h, td_zero]; intro d hd; cases hd
  ·rw [td_pos h]
   intro d hd
   rcases List.mem_cons.1 hd with rfl | hd
   ·omega
   ·exact ih (n / 10000) (by omega) d hd
theorem td_nil {n : Nat} : td n = [] ↔ n = 0 := by
 by_cases h : n = 0
 ·rw [h, td_zero]; simp
 ·rw [td_pos h]; simp [h]
theorem tv_append (l m : List Nat) : tv (l ++ m) = tv l + 10000 ^ l.length * tv m := by
 induction l with
 | nil => simp [tv]
 | cons d l ih => rw [List.cons_append, tv, ih, tv, List.length_cons, Nat.pow_succ, Nat.mul_add, Nat.mul_comm _ 10000, Nat.mul_assoc]; omega
theorem tv_lt {l : List Nat} (h : ∀ d ∈ l, d < 10000) : tv l < 10000 ^ l.length := by
 induction l with
 | nil => exact Nat.one_pos
 | cons d l ih =>
  have h1 := ih fun x hx => h x (List.mem_cons_of_mem _ hx)
  have h2 := h d List.mem_cons_self
  rw [tv, List.length_cons, Nat.pow_succ]
  omega
theorem tv_zeros (k : Nat) : tv (List.replicate k 0) = 0 := by
 induction k with
 | zero => rfl
 | succ k ih => rw [List.replicate_succ, tv, ih]
/-- Digits are those of their number, and zeros behind them. -/
theorem td_tv {l : List Nat} (h : ∀ d ∈ l, d < 10000) : ∃ z, l = td (tv l) ++ List.replicate z 0 := by
 induction l with
 | nil => exact ⟨0, by rw [tv, td_zero]; rfl⟩
 | cons d l ih =>
  obtain ⟨z, hz⟩ := ih fun x hx => h x (List.mem_cons_of_mem _ hx)
  have hd := h d List.mem_cons_self
  rw [tv]
  by_cases h0 : d + 10000 * tv l = 0
  ·have h1 : tv l = 0 := by omega
   rw [h1, td_zero, List.nil_append] at hz
   refine ⟨z + 1, ?_⟩
   rw [h0, td_zero, List.nil_append, List.replicate_succ, ← hz, show d = 0 by omega]
  ·refine ⟨z, ?_⟩
   rw [td_pos h0, show (d + 10000 * tv l) % 10000 = d by omega, show (d + 10000 * tv l) / 10000 = tv l by omega, List.cons_append, ← hz]
theorem td_length {n k : Nat} : (td n).length ≤ k ↔ n < 10000 ^ k := by
 induction k generalizing n with
 | zero =>
  rw [Nat.pow_zero]
  constructor
  ·intro h; have := td_nil.1 (List.eq_nil_of_length_eq_zero (l := td n) (by omega)); omega
  ·intro h; rw [show n = 0 by omega, td_zero]; exact Nat.le_refl _
 | succ k ih =>
  by_cases h : n = 0
  ·rw [h, td_zero]; exact ⟨fun _ => Nat.pow_pos (by omega), fun _ => Nat.zero_le _⟩
  ·rw [td_pos h, List.length_cons, Nat.pow_succ]
   have := ih (n := n / 10000)
   constructor
   ·intro h1; have := this.1 (by omega); omega
   ·intro h1; have := this.2 (by omega); omega
theorem tv_snoc (l : List Nat) (d : Nat) : tv (l ++ [d]) = tv l + 10000 ^ l.length * d := by rw [tv_append]; simp [tv]
theorem tv_take_getElem {l : List Nat} {k : Nat} (h : k < l.length) : tv (l.take (k + 1)) = tv (l.take k) + 10000 ^ k * l[k] := by
 rw [List.take_succ_eq_append_getElem h, tv_snoc, List.length_take, Nat.min_eq_left (Nat.le_of_lt h)]
theorem td_last {n : Nat} (h : td n ≠ []) : (td n).getLast h ≠ 0 := by
 induction n using Nat.strongRecOn with
 | _ n ih =>
  have h0 : n ≠ 0 := fun e => h (td_nil.2 e)
  by_cases h1 : n / 10000 = 0
  ·simp only [td_pos h0, h1, td_zero, List.getLast_singleton]; omega
  ·have h2 : td (n / 10000) ≠ [] := fun e => h1 (td_nil.1 e)
   have := ih (n / 10000) (by omega) h2
   simp only [td_pos h0]
   rwa [List.getLast_cons h2]
/-- A digit, or 0 behind the last one. -/
def dg (l : List Nat) (i : Nat) : Nat := l.getD i 0
theorem dg_lt {l : List Nat} (h : ∀ d ∈ l, d < 10000) (i : Nat) : dg l i < 10000 := by
 unfold dg
 rcases Nat.lt_or_ge i l.length with hi | hi
 ·simp [hi]; exact h _ (List.getElem_mem hi)
 ·simp [hi]
theorem dg_in {l : List Nat} {i : Nat} (h : i < l.length) : dg l i = l[i] := by unfold dg; simp [h]
theorem dg_out {l : List Nat} {i : Nat} (h : l.length ≤ i) : dg l i = 0 := by unfold dg; simp [h]
theorem tv_take (l : List Nat) (k : Nat) : tv (l.take (k + 1)) = tv (l.take k) + 10000 ^ k * dg l k := by
 rcases Nat.lt_or_ge k l.length with h | h
 ·rw [tv_take_getElem h, dg_in h]
 ·rw [dg_out h, List.take_of_length_le (by omega), List.take_of_length_le h]; omega
/-- A slice of ints that can be read. -/
structure Sd (w : World) (a : Addr) (l : List Nat) : Prop where
 cell : ∀ (i : Nat) (h : i < l.length), w.cell? (a.add i) = some (.int .i64 ((l[i] : Nat) : Int))
 blk : a.block < w.heap.size
theorem addB (a : Addr) (i : Nat) : (a.add i).block = a.block := by unfold Addr.add; split <;> rfl
theorem Sd.below {w w' : World} {a : Addr} {l : List Nat} (h : Sd w a l) (hb : Below w.heap.size w w') : Sd w' a l :=
 ⟨fun i hi => (hb.cell (p := a.add i) (by rw [addB]; exact h.blk)).trans (h.cell i hi), Nat.lt_of_lt_of_le h.blk hb.size⟩
theorem Sd.left {w : World} {a : Addr} {l m : List Nat} (h : Sd w a (l ++ m)) : Sd w a l :=
 ⟨fun i hi => by rw [h.cell i (by rw [List.length_append]; omega), List.getElem_append_left hi], h.blk⟩
def Sl (w : World) (v : Value) (l : List Nat) : Prop := (∃ ao c, v = .slice ao 0 c ∧ l = [] ∧ (ao = none → c = 0)) ∨ ∃ a c, v = .slice (some a) l.length c ∧ l.length ≤ c ∧ Sd w a l
theorem Sl.below {w w' : World} {v : Value} {l : List Nat} (h : Sl w v l) (hb : Below w.heap.size w w') : Sl w' v l := by
 rcases h with h | ⟨a, c, h1, h2, h3⟩
 ·exact .inl h
 ·exact .inr ⟨a, c, h1, h2, h3.below hb⟩
theorem Sl.form {w : World} {v : Value} {l : List Nat} (h : Sl w v l) : ∃ ao c, v = .slice ao l.length c := by
 rcases h with ⟨ao, c, rfl, rfl, -⟩ | ⟨a, c, rfl, _⟩
 ·exact ⟨_, _, rfl⟩
 ·exact ⟨_, _, rfl⟩
theorem Sl.nil (w : World) : Sl w (.slice none 0 0) [] := .inl ⟨_, _, rfl, rfl, fun _ => rfl⟩
theorem Sl.drew {w : World} {v : Value} {l : List Nat} (h : Sl w v l) : Sl w.drew v l := by
 rcases h with h | ⟨a, c, h1, h2, h3⟩
 ·exact .inl h
 ·exact .inr ⟨a, c, h1, h2, h3.cell, h3.blk⟩
abbrev iv (d : Nat) : Value := .int .i64 (d : Int)
end Go.Proofs.YtoahpkelajimfaaGreatDoor.Rx
namespace Go.Proofs.YtoahpkelajimfaaGreatDoor.Rx
open Go.RowKit
attribute [local irreducible] tv dg
def lenOf : Value → Nat | .slice _ n _ => n | _ => 0
theorem trim_nil (ao : Option Addr) (c : Nat) (w : World) :
  Calls Tryz.prog 147 #[.slice ao 0 c] w fun e w' => e = .returned (.slice ao 0 c) ∧ w = w' := by
 go_enter Tryz.func147, Tryz.ntmps147
 go_wp2_with fail
 go_loopw [0] (fun v wr => v = .slice ao 0 c ∧ wr = w) (fun v _ => lenOf v)
 case atStart => exact ⟨rfl, rfl⟩
 case round =>
  obtain ⟨rfl, rfl⟩ := hrel
  go_wp2_with fail
  go_ret
  exact ⟨rfl, rfl⟩
theorem trim_row (a : Addr) (c m z : Nat) (l : List Nat) (hm : l.length = m) (hc : m + z ≤ c) (hB : m + z < 9223372036854775807) (hlast : ∀ h : l ≠ [], l.getLast h ≠ 0) (w : World) (h : Sd w a (l ++ List.replicate z 0)) :
  Calls Tryz.prog 147 #[.slice (some a) (m + z) c] w fun e w' => e = .returned (.slice (some a) m c) ∧ w = w' := by
 have hz : ∀ k, k < z → w.cell? (a.add (m + k)) = some (.int .i64 0) := fun k hk => by
  rw [h.cell (m + k) (by simp; omega), List.getElem_append_right (by omega)]; simp
 have hl : ∀ p, m = p + 1 → ∃ d : Nat, d ≠ 0 ∧ w.cell? (a.add p) = some (.int .i64 (d : Int)) := fun p hp => by
  have hne : l ≠ [] := fun e => by rw [e] at hm; simp at hm; omega
  refine ⟨l.getLast hne, hlast hne, ?_⟩
  rw [h.cell p (by simp; omega), List.getElem_append_left (by omega), List.getLast_eq_getElem hne]
  simp [hm, hp]
 clear h hlast hm
 replace hz := Lib.hid hz
 replace hl := Lib.hid hl
 go_enter Tryz.func147, Tryz.ntmps147
 go_wp2_with fail
 go_loopw [0] (fun v wr => ∃ k, k ≤ z ∧ v = .slice (some a) (m + k) c ∧ wr = w) (fun v _ => lenOf v)
 case atStart => exact ⟨z, Nat.le_refl _, rfl, rfl⟩
 case round =>
  obtain ⟨k, hk, rfl, rfl⟩ := hrel
  cases k with
  | zero =>
   rw [Nat.add_zero]
   cases m with
   | zero =>
    go_wp2_with fail
    go_ret
    exact ⟨rfl, rfl⟩
   | succ p =>
    obtain ⟨d, hd, hcell⟩ := hl.out p rfl
    have hd1 : ((d : Int) == 0) = false := beq_eq_false_iff_ne.2 (by omega)
    go_wp2_with fail
    go_ret
    exact ⟨rfl, rfl⟩
  | succ j =>
   have hcell := hz.out j (by omega)
   rw [show m + (j + 1) = (m + j) + 1 from by omega]
   obtain ⟨q, hq⟩ : ∃ q, q = m + j := ⟨_, rfl⟩
   rw [← hq] at hcell ⊢
   have hqc : q + 1 ≤ c := by omega
   have hqB : q + 1 < 9223372036854775807 := by omega
   replace hq := Lib.hid hq
   go_wp2_with fail
   go_roundw
   case rel => exact ⟨j, by omega, by rw [hq.out], trivial⟩
   case measure => simp [lenOf]
/-- trim: the digits of a number. -/
theorem trim_any (v : Value) (l : List Nat) (hd : ∀ d ∈ l, d < 10000) (hB : l.length < 9223372036854775807) (w : World) (h : Sl w v l) :
  Calls Tryz.prog 147 #[v] w fun e w' => ∃ v', e = .returned v' ∧ Sl w v' (td (tv l)) ∧ w = w' := by
 obtain ⟨z, hz⟩ := td_tv hd
 rcases h with ⟨ao, c, rfl, rfl, hc0⟩ | ⟨a, c, rfl, h2, h3⟩
 ·refine (trim_nil ao c w).mono ?_
  rintro e w' ⟨rfl, rfl⟩
  exact ⟨_, rfl, .inl ⟨ao, c, rfl, by rw [tv_nil, td_zero], hc0⟩, rfl⟩
 ·have hlen : l.length = (td (tv l)).length + z := by
   have := congrArg List.length hz
   rwa [List.length_append, List.length_replicate] at this
  rw [hz] at h3
  rw [hlen] at h2 hB ⊢
  refine (trim_row a c _ z (td (tv l)) rfl h2 hB (fun h => td_last h) w h3).mono ?_
  rintro e w' ⟨rfl, rfl⟩
  exact ⟨_, rfl, .inr ⟨a, c, rfl, by omega, h3.left⟩, rfl⟩
end Go.Proofs.YtoahpkelajimfaaGreatDoor.Rx
namespace Go.Proofs.YtoahpkelajimfaaGreatDoor.Rx
open Go.RowKit
attribute [local irreducible] tv dg
/-- What the digits so far spell, with what is left. -/
theorem td_step {n k : Nat} (hk : k < (td n).length) : n / 10000 ^ k ≠ 0 ∧ (td n)[k] = n / 10000 ^ k % 10000 := by
 induction k generalizing n with
 | zero =>
  have h0 : n ≠ 0 := fun e => by rw [e, td_zero] at hk; exact absurd hk (by simp)
  simp only [Nat.pow_zero, Nat.div_one]
  refine ⟨h0, ?_⟩
  simp only [td_pos h0, List.getElem_cons_zero]
 | succ k ih =>
  have h0 : n ≠ 0 := fun e => by rw [e, td_zero] at hk; exact absurd hk (by simp)
  have hk' : k < (td (n / 10000)).length := by rw [td_pos h0, List.length_cons] at hk; omega
  have := ih hk'
  rw [Nat.div_div_eq_div_mul, Nat.mul_comm, ← Nat.pow_succ] at this
  refine ⟨this.1, ?_⟩
  simp only [td_pos h0, List.getElem_cons_succ]
  exact this.2
theorem td_end {n k : Nat} (hk : (td n).length ≤ k) : n / 10000 ^ k = 0 := Nat.div_eq_of_lt (td_length.1 hk)
end Go.Proofs.YtoahpkelajimfaaGreatDoor.Rx
namespace Go.Proofs.YtoahpkelajimfaaGreatDoor.Rx
open Go.RowKit
attribute [local irreducible] tv dg
/-- What Add's rounds keep. -/
structure AddS (A B S : List Nat) (i c : Nat) : Prop where
 len : S.length = i
 lt : ∀ d ∈ S, d < 10000
 car : c ≤ 1
 eq : tv S + 10000 ^ i * c = tv (A.take i) + tv (B.take i)
theorem AddS.step {A B S : List Nat} {i c : Nat} (h : AddS A B S i c) (hA : ∀ d ∈ A, d < 10000) (hB : ∀ d ∈ B, d < 10000) :
  AddS A B (S ++ [(dg A i + dg B i + c) % 10000]) (i + 1) ((dg A i + dg B i + c) / 10000) := by
 have h1 := dg_lt hA i
 have h2 := dg_lt hB i
 have h3 := h.car
 refine ⟨by rw [List.length_append, h.len]; rfl, fun d hd => ?_, by omega, ?_⟩
 ·rcases List.mem_append.1 hd with hd | hd
  ·exact h.lt d hd
  ·rw [List.mem_singleton.1 hd]; omega
 ·rw [tv_snoc, h.len, tv_take, tv_take, Nat.pow_succ]
  have h4 := h.eq
  generalize dg A i = x at *
  generalize dg B i = y at *
  have h5 : (x + y + c) % 10000 + 10000 * ((x + y + c) / 10000) = x + y + c := by omega
  have h6 : 10000 ^ i * ((x + y + c) % 10000) + 10000 ^ i * 10000 * ((x + y + c) / 10000) = 10000 ^ i * x + 10000 ^ i * y + 10000 ^ i * c := by
   rw [Nat.mul_assoc, ← Nat.mul_add, h5, Nat.mul_add, Nat.mul_add]
  generalize 10000 ^ i * ((x + y + c) % 10000) = p at *
  generalize 10000 ^ i * 10000 * ((x + y + c) / 10000) = q at *
  omega
end Go.Proofs.YtoahpkelajimfaaGreatDoor.Rx
namespace Go.Proofs.YtoahpkelajimfaaGreatDoor.Rx
open Go.RowKit
attribute [local irreducible] tv dg
theorem add0 (g i : Nat) : (⟨g, 0, none⟩ : Addr).add i = ⟨g, i, none⟩ := by
 unfold Addr.add
 split <;> simp_all
/-- Block g holds just these ints. -/
def IB (w : World) (g : Nat) (l : List Nat) : Prop := w.heap[g]? = some (.cells (l.map iv).toArray 3 (0, 0))
section
variable {w w' : World} {g : Nat} {l : List Nat}
theorem IB.lt (h : IB w g l) : g < w.heap.size := (Array.getElem?_eq_some_iff.1 h).1
theorem IB.cell (h : IB w g l) (i : Nat) (hi : i < l.length) : w.cell? ⟨g, i, none⟩ = some (.int .i64 ((l[i] : Nat) : Int)) := by
 rw [cell_of_row w g i _ _ _ h]; simp [hi]
theorem IB.frozen (h : IB w g l) (i : Nat) : w.frozen? ⟨g, i, none⟩ = false := frozen_of_row w g i _ _ h
theorem IB.set (h : IB w g l) (i : Nat) (d : Nat) : IB (w.setCell ⟨g, i, none⟩ (.int .i64 (d : Int))) g (l.set i d) := by
 unfold IB at *
 rw [heap_setCell_same w g i _ _ _ h]
 congr 2
 rw [List.map_set]; simp
theorem IB.keep (h : IB w g l) (hk : w'.heap[g]? = w.heap[g]?) : IB w' g l := hk.trans h
theorem IB.below {B : Nat} (h : IB w g l) (hb : Below B w w') (hg : g < B) : IB w' g l := h.keep (hb.block g hg)
theorem IB.drewN (h : IB w g l) (n : Nat) : IB (w.drewN n) g l := h
end
/-- Zeros, as make lays them. -/
def zobjI (n : Nat) : Obj := .cells ((List.replicate n 0).map iv).toArray 3
theorem IB.zeros (w : World) (n : Nat) : IB (w.alloc (zobjI n)) w.heap.size (List.replicate n 0) := heap_alloc_new w _
theorem tv_set {l : List Nat} {j : Nat} (h : j < l.length) (d : Nat) : tv (l.set j d) + 10000 ^ j * l[j] = tv l + 10000 ^ j * d := by
 induction l generalizing j with
 | nil => exact absurd h (by simp)
 | cons x l ih =>
  cases j with
  | zero => simp only [List.set_cons_zero, List.getElem_cons_zero, tv, Nat.pow_zero, Nat.one_mul]; omega
  | succ j =>
   have hj : j < l.length := by simpa using h
   have := ih (j := j) hj
   simp only [List.set_cons_succ, List.getElem_cons_succ, tv, Nat.pow_succ]
   rw [Nat.mul_comm (10000 ^ j) 10000, Nat.mul_assoc, Nat.mul_assoc]
   generalize 10000 ^ j * l[j] = p at *
   generalize 10000 ^ j * d = q at *
   omega
/-- What Mul's inner rounds keep. -/
structure MulS (A B X : List Nat) (i k c : Nat) : Prop where
 len : X.length = A.length + B.length
 lt : ∀ d ∈ X, d < 10000
 car : c < 10000
 eq : tv X + 10000 ^ (i + k) * c = tv (A.take i) * tv B + 10000 ^ i * (dg A i * tv (B.take k))
theorem MulS.step {A B X : List Nat} {i k c : Nat} (h : MulS A B X i k c) (hA : ∀ d ∈ A, d < 10000) (hB : ∀ d ∈ B, d < 10000) (hj : i + k < X.length) {s : Nat} (hs : s = X[i + k] + dg A i * dg B k + c) :
  s < 100000000 ∧ MulS A B (X.set (i + k) (s % 10000)) i (k + 1) (s / 10000) := by
 have h1 := dg_lt hA i
 have h2 := dg_lt hB k
 have h3 := h.car
 have hx := h.lt _ (List.getElem_mem hj)
 have hp : dg A i * dg B k ≤ 9999 * 9999 := Nat.mul_le_mul (by omega) (by omega)
 have hs1 : s < 100000000 := by omega
 refine ⟨hs1, by rw [List.length_set]; exact h.len, fun d hd => ?_, by omega, ?_⟩
 ·rcases List.mem_or_eq_of_mem_set hd with hd | hd
  ·exact h.lt d hd
  ·omega
 ·have e1 := tv_set hj (s % 10000)
  have e2 := h.eq
  rw [tv_take, ← Nat.add_assoc, Nat.pow_succ]
  have e3 : s % 10000 + 10000 * (s / 10000) = X[i + k] + dg A i * dg B k + c := by omega
  have e4 : 10000 ^ (i + k) * (s % 10000) + 10000 ^ (i + k) * 10000 * (s / 10000) = 10000 ^ (i + k) * X[i + k] + 10000 ^ (i + k) * (dg A i * dg B k) + 10000 ^ (i + k) * c := by
   rw [Nat.mul_assoc, ← Nat.mul_add, e3, Nat.mul_add, Nat.mul_add]
  have e5 : 10000 ^ i * (dg A i * (tv (B.take k) + 10000 ^ k * dg B k)) = 10000 ^ i * (dg A i * tv (B.take k)) + 10000 ^ (i + k) * (dg A i * dg B k) := by
   rw [Nat.mul_add, Nat.mul_add, Nat.pow_add, Nat.mul_left_comm (dg A i), Nat.mul_assoc (10000 ^ i)]
  rw [e5]
  generalize 10000 ^ (i + k) * (s % 10000) = p1 at *
  generalize 10000 ^ (i + k) * 10000 * (s / 10000) = p2 at *
  generalize 10000 ^ (i + k) * X[i + k] = p3 at *
  generalize 10000 ^ (i + k) * (dg A i * dg B k) = p4 at *
  generalize 10000 ^ (i + k) * c = p5 at *
  generalize 10000 ^ i * (dg A i * tv (B.take k)) = p6 at *
  generalize tv (A.take i) * tv B = p7 at *
  generalize tv (X.set (i + k) (s % 10000)) = p8 at *
  generalize tv X = p9 at *
  omega
/-- Behind b's digits one carry may be left, and no more. -/
theorem MulS.carry {A B X : List Nat} {i k c : Nat} (h : MulS A B X i k c) (hA : ∀ d ∈ A, d < 10000) (hB : ∀ d ∈ B, d < 10000) (hi : i < A.length) (hk : B.length + 1 ≤ k) : c = 0 := by
 rcases Nat.eq_zero_or_pos c with h0 | h0
 ·exact h0
 ·have e := h.eq
  have e2 : tv (A.take i) * tv B + 10000 ^ i * (dg A i * tv (B.take k)) = tv (A.take (i + 1)) * tv B := by
   rw [List.take_of_length_le (l := B) (by omega), tv_take, Nat.add_mul, Nat.mul_assoc]
  have e3 : tv (A.take (i + 1)) < 10000 ^ (i + 1) := by
   have := tv_lt (l := A.take (i + 1)) fun d hd => hA d (List.mem_of_mem_take hd)
   rwa [List.length_take, Nat.min_eq_left (by omega)] at this
  have e4 := tv_lt hB
  have e5 : tv (A.take (i + 1)) * tv B < 10000 ^ (i + 1) * 10000 ^ B.length := Nat.lt_of_le_of_lt (Nat.mul_le_mul_left _ (Nat.le_of_lt e4)) (Nat.mul_lt_mul_of_pos_right e3 (Nat.pow_pos (by omega)))
  rw [← Nat.pow_add] at e5
  have e6 : 10000 ^ (i + 1 + B.length) ≤ 10000 ^ (i + k) := Nat.pow_le_pow_right (by omega) (by omega)
  have e7 : 10000 ^ (i + k) ≤ 10000 ^ (i + k) * c := Nat.le_mul_of_pos_right _ h0
  omega
theorem MulS.done {A B X : List Nat} {i k : Nat} (h : MulS A B X i k 0) (hk : B.length ≤ k) : MulS A B X (i + 1) 0 0 := by
 refine ⟨h.len, h.lt, by omega, ?_⟩
 have e := h.eq
 rw [List.take_of_length_le hk] at e
 rw [List.take_zero, tv_take, Nat.add_mul, Nat.mul_assoc]
 rw [Nat.mul_zero, Nat.add_zero] at e ⊢
 rw [e]
 have : tv [] = 0 := by unfold tv; rfl
 rw [this, Nat.mul_zero, Nat.mul_zero, Nat.add_zero]
theorem MulS.start (A B : List Nat) : MulS A B (List.replicate (A.length + B.length) 0) 0 0 0 := by
 refine ⟨List.length_replicate, fun d hd => by rw [(List.mem_replicate.1 hd).2]; omega, by omega, ?_⟩
 have : tv [] = 0 := by unfold tv; rfl
 rw [tv_zeros, List.take_zero, List.take_zero, this]
 simp
end Go.Proofs.YtoahpkelajimfaaGreatDoor.Rx
namespace Go.Proofs.YtoahpkelajimfaaGreatDoor.Rx
open Go.RowKit
attribute [local irreducible] tv dg
/-- A slice that holds a number's digits. -/
abbrev Rn (w : World) (v : Value) (n : Nat) : Prop := Sl w v (td n)
end Go.Proofs.YtoahpkelajimfaaGreatDoor.Rx
namespace Go.Proofs.YtoahpkelajimfaaGreatDoor.Rx
open Go.RowKit
attribute [local irreducible] tv dg cmpI
end Go.Proofs.YtoahpkelajimfaaGreatDoor.Rx
namespace Go.Proofs.YtoahpkelajimfaaGreatDoor.Rx
open Go.RowKit
attribute [local irreducible] tv dg cmpI
/-- What Sub's rounds keep. -/
structure SubS (A B S : List Nat) (i c : Nat) : Prop where
 len : S.length = i
 lt : ∀ d ∈ S, d < 10000
 car : c ≤ 1
 eq : tv (A.take i) + 10000 ^ i * c = tv S + tv (B.take i)
theorem SubS.step {A B S : List Nat} {i c d c' : Nat} (h : SubS A B S i c) (hd : d < 10000) (hc : c' ≤ 1) (he : d + dg B i + c = dg A i + 10000 * c') : SubS A B (S ++ [d]) (i + 1) c' := by
 refine ⟨by rw [List.length_append, h.len]; rfl, fun x hx => ?_, hc, ?_⟩
 ·rcases List.mem_append.1 hx with hx | hx
  ·exact h.lt x hx
  ·rw [List.mem_singleton.1 hx]; exact hd
 ·rw [tv_snoc, h.len, tv_take, tv_take, Nat.pow_succ]
  have h4 := h.eq
  have h6 : 10000 ^ i * d + 10000 ^ i * dg B i + 10000 ^ i * c = 10000 ^ i * dg A i + 10000 ^ i * 10000 * c' := by
   rw [Nat.mul_assoc, ← Nat.mul_add, ← Nat.mul_add, ← Nat.mul_add, he]
  generalize 10000 ^ i * d = p1 at *
  generalize 10000 ^ i * dg B i = p2 at *
  generalize 10000 ^ i * c = p3 at *
  generalize 10000 ^ i * dg A i = p4 at *
  generalize 10000 ^ i * 10000 * c' = p5 at *
  omega
theorem SubS.done {A B S : List Nat} {c : Nat} (h : SubS A B S A.length c) (hB : B.length ≤ A.length) (hle : tv B ≤ tv A) : tv S = tv A - tv B := by
 have e := h.eq
 rw [List.take_of_length_le (Nat.le_refl _), List.take_of_length_le hB] at e
 have h1 := tv_lt h.lt
 rw [h.len] at h1
 have hc := h.car
 rcases Nat.eq_zero_or_pos c with h0 | h0
 ·rw [h0, Nat.mul_zero] at e; omega
 ·rw [show c = 1 by omega, Nat.mul_one] at e; omega
end Go.Proofs.YtoahpkelajimfaaGreatDoor.Rx
namespace Go.Proofs.YtoahpkelajimfaaGreatDoor.Rx
open Go.RowKit
open Go.Lib (decDigits)
attribute [local irreducible] tv dg cmpI
/-- What Text has written behind digit i. -/
def TS (n i : Nat) (T : List UInt8) : Prop := (i < (td n).length ∧ decDigits n = decDigits (n / 10000 ^ i) ++ T) ∨ (i = (td n).length ∧ T = decDigits n)
theorem TS.start {n : Nat} (h : 0 < (td n).length) : TS n 0 [] := .inl ⟨h, by simp⟩
theorem TS.step {n i : Nat} {T : List UInt8} (h : TS n i T) (hl : i < (td n).length) (hi : i + 1 < (td n).length) : TS n (i + 1) (pad 4 ((td n)[i]'hl) ++ T) := by
 rcases h with ⟨h1, h2⟩ | ⟨h1, h2⟩
 ·refine .inl ⟨hi, ?_⟩
  have hd := (td_step h1).2
  have hq := (td_step hi).1
  have e : n / 10000 ^ i = n / 10000 ^ (i + 1) * 10 ^ 4 + (td n)[i] := by
   rw [hd, Nat.pow_succ, ← Nat.div_div_eq_div_mul]
   show _ = _ * 10000 + _
   omega
  have hlt : (td n)[i] < 10 ^ 4 := td_lt n _ (List.getElem_mem _)
  have := dec_mul_add 4 (n / 10000 ^ (i + 1)) ((td n)[i]) (by omega) hlt
  rw [h2, e, this, List.append_assoc]
 ·omega
theorem TS.last {n i : Nat} {T : List UInt8} (h : TS n i T) (hl : i < (td n).length) (hi : i + 1 = (td n).length) : 0 < (td n)[i]'hl ∧ TS n (i + 1) (decDigits ((td n)[i]'hl) ++ T) := by
 rcases h with ⟨h1, h2⟩ | ⟨h1, h2⟩
 ·have hd := td_step h1
  have h0 : n / 10000 ^ (i + 1) = 0 := td_end (by omega)
  have e : n / 10000 ^ i = (td n)[i] := by
   rw [hd.2]
   rw [Nat.pow_succ, ← Nat.div_div_eq_div_mul] at h0
   omega
  refine ⟨by rw [← e]; omega, .inr ⟨hi, ?_⟩⟩
  rw [h2, e]
 ·omega
theorem TS.len {n i : Nat} {T : List UInt8} (h : TS n i T) : T.length ≤ (decDigits n).length := by
 rcases h with ⟨h1, h2⟩ | ⟨h1, h2⟩
 ·rw [h2, List.length_append]; omega
 ·rw [h2]; exact Nat.le_refl _
end Go.Proofs.YtoahpkelajimfaaGreatDoor.Rx
namespace Go.Proofs.YtoahpkelajimfaaGreatDoor.Rx
open Go.RowKit
attribute [local irreducible] lo hs tv dg cmpI
end Go.Proofs.YtoahpkelajimfaaGreatDoor.Rx
namespace Go.Proofs.YtoahpkelajimfaaGreatDoor.Rx
open Go.RowKit
attribute [local irreducible] tv dg cmpI
/-- What is appended, chunk by chunk. -/
structure PS (l : List UInt8) (S : List Nat) (t e : Nat) : Prop where
 len : S.length = t
 lt : ∀ d ∈ S, d < 10000
 pos : e = l.length - 4 * t
 eq : tv S + 10000 ^ t * dval (l.take e) = dval l
theorem PS.step {l : List UInt8} {S : List Nat} {t e : Nat} (h : PS l S t e) (hd : ∀ c ∈ l, isDig c) (he : 0 < e) :
  dval ((l.drop (e - 4)).take (e - (e - 4))) < 10000 ∧ PS l (S ++ [dval ((l.drop (e - 4)).take (e - (e - 4)))]) (t + 1) (e - 4) := by
 have hle : e ≤ l.length := by have := h.pos; omega
 have hch : ((l.drop (e - 4)).take (e - (e - 4))).length = e - (e - 4) := by rw [List.length_take, List.length_drop]; omega
 have hlt : dval ((l.drop (e - 4)).take (e - (e - 4))) < 10000 := by
  have h1 := dval_lt (l := (l.drop (e - 4)).take (e - (e - 4))) fun c hc => hd c (List.mem_of_mem_drop (List.mem_of_mem_take hc))
  rw [hch] at h1
  exact Nat.lt_of_lt_of_le h1 (Nat.le_trans (Nat.pow_le_pow_right (by omega) (show e - (e - 4) ≤ 4 by omega)) (by decide))
 refine ⟨hlt, by rw [List.length_append, h.len]; rfl, fun d hx => ?_, by have := h.pos; omega, ?_⟩
 ·rcases List.mem_append.1 hx with hx | hx
  ·exact h.lt d hx
  ·rw [List.mem_singleton.1 hx]; exact hlt
 ·have e1 : l.take e = l.take (e - 4) ++ (l.drop (e - 4)).take (e - (e - 4)) := by
   have := List.take_add (l := l) (i := e - 4) (j := e - (e - 4))
   rw [show e - 4 + (e - (e - 4)) = e by omega] at this
   exact this
  have e2 := h.eq
  rw [e1, dval_append, hch] at e2
  rw [tv_snoc, h.len, Nat.pow_succ]
  generalize dval ((l.drop (e - 4)).take (e - (e - 4))) = d at *
  rcases Nat.lt_or_ge e 4 with h4 | h4
  ·have h0 : dval (l.take (e - 4)) = 0 := by rw [show e - 4 = 0 by omega, List.take_zero, dval_nil]
   rw [h0, Nat.zero_mul, Nat.zero_add] at e2
   rw [h0, Nat.mul_zero]; omega
  ·rw [show e - (e - 4) = 4 by omega] at e2
   rw [Nat.mul_add, Nat.mul_comm (dval _) (10 ^ 4), ← Nat.mul_assoc, show (10 : Nat) ^ 4 = 10000 by rfl] at e2
   omega
theorem PS.start (l : List UInt8) : PS l [] 0 l.length := ⟨rfl, (fun d hd => by cases hd), by omega, by rw [tv_nil, List.take_length]; simp⟩
end Go.Proofs.YtoahpkelajimfaaGreatDoor.Rx
namespace Go.Proofs.YtoahpkelajimfaaGreatDoor
open Go.RowKit Go.Proofs.YtoahpkelajimfaaGreatDoor.Rx
attribute [local irreducible] lo hs sm s64 c64 d64 b64 mh ml pd pc qd qc val hiB str cmpI srD lz nb dval
theorem sl_upd {w w' : World} {k : Nat} {c : List Value} {v : Value} {l : List Nat} (h : Sl w v l) (hu : Upd k w w') (hd : Hd w k c) (hc : ∀ v ∈ c, ∀ n, v ≠ .int .i64 n) : Sl w' v l := by
 rcases h with h | ⟨a, c1, h1, h2, h3⟩
 ·exact .inl h
 ·refine .inr ⟨a, c1, h1, h2, fun i hi => ?_, by rw [hu.size]; exact h3.blk⟩
  have hx := h3.cell i hi
  exact (World.cell?_of_block (w := w) (hu.block _ (hd.no_int hc hx))).trans hx
end Go.Proofs.YtoahpkelajimfaaGreatDoor
namespace Go.Proofs.YtoahpkelajimfaaGreatDoor
open Go.RowKit Go.Proofs.YtoahpkelajimfaaGreatDoor.Rx
/-- A struct of the reference that stands for an integer. -/
def RZ (w : World) (v : Value) (z : Int) : Prop := ∃ u, v = .agg #[.bool (decide (z < 0)), u] ∧ Rn w u z.natAbs
theorem RZ.below {w w' : World} {v : Value} {z : Int} (h : RZ w v z) (hb : Below w.heap.size w w') : RZ w' v z := by
 obtain ⟨u, h1, h2⟩ := h
 exact ⟨u, h1, Sl.below h2 hb⟩
theorem RZ.of {w : World} {b : Bool} {u : Value} {n : Nat} {z : Int} (h : Rn w u n) (hb : b = decide (z < 0)) (hn : n = z.natAbs) : RZ w (.agg #[.bool b, u]) z := ⟨u, by rw [hb], by rw [← hn]; exact h⟩
end Go.Proofs.YtoahpkelajimfaaGreatDoor
namespace Go.Proofs.YtoahpkelajimfaaGreatDoor
open Go.RowKit Go.Proofs.YtoahpkelajimfaaGreatDoor.Rx
/-- The slices of digits that a call has got hold of. -/
def SS (W : World) (S : List (Value × Nat)) : Prop := ∀ p ∈ S, Rn W p.1 p.2
theorem SS.nil (W : World) : SS W [] := fun p hp => by cases hp
theorem SS.call {W W' : World} {S : List (Value × Nat)} (h : SS W S) (hb : Below W.heap.size W W') : SS W' S := fun p hp => Sl.below (h p hp) hb
theorem SS.new {W : World} {S : List (Value × Nat)} (h : SS W S) (o : Obj) : SS (W.alloc o) S := h.call ((Below.refl _ _).alloc (Nat.le_refl _) o)
theorem SS.cons {W : World} {S : List (Value × Nat)} (h : SS W S) {v : Value} {n : Nat} (hv : Rn W v n) : SS W ((v, n) :: S) := fun p hp => by
 rcases List.mem_cons.1 hp with rfl | hp
 ·exact hv
 ·exact h p hp
theorem SS.put {W W' : World} {S : List (Value × Nat)} (h : SS W S) {k : Nat} {c : List Value} (hu : Upd k W W') (hd : Hd W k c) (hc : ∀ v ∈ c, ∀ n, v ≠ .int .i64 n) : SS W' S := fun p hp => sl_upd (h p hp) hu hd hc
theorem SS.drew {W : World} {S : List (Value × Nat)} (h : SS W S) : SS W.drew S := fun p hp => Sl.drew (h p hp)
theorem SS.get {W : World} {S : List (Value × Nat)} (h : SS W S) {v : Value} {n : Nat} (hm : (v, n) ∈ S) : Rn W v n := h _ hm
end Go.Proofs.YtoahpkelajimfaaGreatDoor
namespace Go.Proofs.YtoahpkelajimfaaGreatDoor
open Go.RowKit
attribute [local irreducible] lo hs sm s64 c64 d64 b64 mh ml pd pc qd qc val hiB str cmpI srD lz nb zl zh zs fe
theorem keepsC {w w' : World} {a : Addr} {v : Value} (hb : Below w.heap.size w w') (h : w.cell? a = some v) : w'.cell? a = some v := (hb.cell (World.block_lt_of_cell? w _ h)).trans h
set_option maxHeartbeats 4000000 in
set_option maxRecDepth 100000 in
theorem vadd1_w (i na nb ca cb ga gb b1 b2 : Nat) (x y r : Rat) (HC : ∀ w, Calls Tryz.prog 35 #[fracV x, fracV y] w fun xe w' => xe = .returned (fracV r) ∧ Below w.heap.size w w') (hi : i < na) (hj : i < nb) (w : World) (c0 : w.cell? ⟨b1, 0, none⟩ = some (.slice (some ⟨ga, 0, none⟩) na ca)) (c1 : w.cell? ⟨b2, 0, none⟩ = some (.slice (some ⟨gb, 0, none⟩) nb cb)) (c2 : w.cell? ⟨ga, i * 5, none⟩ = some (.int .u64 ((zl x.num : Nat) : Int))) (c3 : w.cell? ⟨ga, i * 5 + 1, none⟩ = some (.string (zh x.num))) (c4 : w.cell? ⟨ga, i * 5 + 2, none⟩ = some (.bool (zs x.num))) (c5 : w.cell? ⟨ga, i * 5 + 3, none⟩ = some (.int .u64 ((lo (fe x) : Nat) : Int))) (c6 : w.cell? ⟨ga, i * 5 + 4, none⟩ = some (.string (hs (fe x)))) (c7 : w.cell? ⟨gb, i * 5, none⟩ = some (.int .u64 ((zl y.num : Nat) : Int))) (c8 : w.cell? ⟨gb, i * 5 + 1, none⟩ = some (.string (zh y.num))) (c9 : w.cell? ⟨gb, i * 5 + 2, none⟩ = some (.bool (zs y.num))) (c10 : w.cell? ⟨gb, i * 5 + 3, none⟩ = some (.int .u64 ((lo (fe y) : Nat) : Int))) (c11 : w.cell? ⟨gb, i * 5 + 4, none⟩ = some (.string (hs (fe y)))) :
  Calls Tryz.prog 55 #[.int .i64 (i : Int), .pointer (some ⟨b1, 0, none⟩), .pointer (some ⟨b2, 0, none⟩)] w fun xe w' => xe = .returned (fracV r) ∧ Below w.heap.size w w' := by
 replace HC := Lib.hid HC
 have k0 : (0 : Int) ≤ (i : Int) := Int.natCast_nonneg _
 have k1 : (i : Int) < (na : Int) := by omega
 have k2 : (i : Int) < (nb : Int) := by omega
 clear hi hj
 have hL0 : GL w w [] := GL.start w
 have hb0 : Below w.heap.size w (w.alloc (.cells #[.int .u64 0, .string ⟨#[]⟩, .bool false, .int .u64 0, .string ⟨#[]⟩] 38)) := (Below.refl _ _).alloc (Nat.le_refl _) _
 replace c0 := keepsC hb0 c0
 replace c1 := keepsC hb0 c1
 replace c2 := keepsC hb0 c2
 replace c3 := keepsC hb0 c3
 replace c4 := keepsC hb0 c4
 replace c5 := keepsC hb0 c5
 replace c6 := keepsC hb0 c6
 replace c7 := keepsC hb0 c7
 replace c8 := keepsC hb0 c8
 replace c9 := keepsC hb0 c9
 replace c10 := keepsC hb0 c10
 replace c11 := keepsC hb0 c11
 replace hL0 := hL0.new rfl [.int .u64 0, .string ⟨#[]⟩, .bool false, .int .u64 0, .string ⟨#[]⟩] 38
 generalize hweq : w.alloc (.cells #[.int .u64 0, .string ⟨#[]⟩, .bool false, .int .u64 0, .string ⟨#[]⟩] 38) = x1 at hL0 c0 c1 c2 c3 c4 c5 c6 c7 c8 c9 c10 c11
 clear hb0
 replace c0 := Lib.hid c0
 replace c1 := Lib.hid c1
 replace c2 := Lib.hid c2
 replace c3 := Lib.hid c3
 replace c4 := Lib.hid c4
 replace c5 := Lib.hid c5
 replace c6 := Lib.hid c6
 replace c7 := Lib.hid c7
 replace c8 := Lib.hid c8
 replace c9 := Lib.hid c9
 replace c10 := Lib.hid c10
 replace c11 := Lib.hid c11
 go_enter Tryz.func55, Tryz.ntmps55
 go_upto_region 1 with fail
 clear hweq
 obtain ⟨α, iα, F, hF1, hF2⟩ := cls x1
 have hq0 : ∀ yz, (F yz).cell? ⟨b1, 0, none⟩ = some (.slice (some ⟨ga, 0, none⟩) na ca) := fun yz => keepsC (hF1 yz) c0.out
 have hq1 : ∀ yz, (F yz).cell? ⟨b2, 0, none⟩ = some (.slice (some ⟨gb, 0, none⟩) nb cb) := fun yz => keepsC (hF1 yz) c1.out
 have hq2 : ∀ yz, (F yz).cell? ⟨ga, i * 5, none⟩ = some (.int .u64 ((zl x.num : Nat) : Int)) := fun yz => keepsC (hF1 yz) c2.out
 have hq3 : ∀ yz, (F yz).cell? ⟨ga, i * 5 + 1, none⟩ = some (.string (zh x.num)) := fun yz => keepsC (hF1 yz) c3.out
 have hq4 : ∀ yz, (F yz).cell? ⟨ga, i * 5 + 2, none⟩ = some (.bool (zs x.num)) := fun yz => keepsC (hF1 yz) c4.out
 have hq5 : ∀ yz, (F yz).cell? ⟨ga, i * 5 + 3, none⟩ = some (.int .u64 ((lo (fe x) : Nat) : Int)) := fun yz => keepsC (hF1 yz) c5.out
 have hq6 : ∀ yz, (F yz).cell? ⟨ga, i * 5 + 4, none⟩ = some (.string (hs (fe x))) := fun yz => keepsC (hF1 yz) c6.out
 have hq7 : ∀ yz, (F yz).cell? ⟨gb, i * 5, none⟩ = some (.int .u64 ((zl y.num : Nat) : Int)) := fun yz => keepsC (hF1 yz) c7.out
 have hq8 : ∀ yz, (F yz).cell? ⟨gb, i * 5 + 1, none⟩ = some (.string (zh y.num)) := fun yz => keepsC (hF1 yz) c8.out
 have hq9 : ∀ yz, (F yz).cell? ⟨gb, i * 5 + 2, none⟩ = some (.bool (zs y.num)) := fun yz => keepsC (hF1 yz) c9.out
 have hq10 : ∀ yz, (F yz).cell? ⟨gb, i * 5 + 3, none⟩ = some (.int .u64 ((lo (fe y) : Nat) : Int)) := fun yz => keepsC (hF1 yz) c10.out
 have hq11 : ∀ yz, (F yz).cell? ⟨gb, i * 5 + 4, none⟩ = some (.string (hs (fe y))) := fun yz => keepsC (hF1 yz) c11.out
 refine region_qs 9 (C := fun w' => ∃ x, w' = F x) (by kernel_rfl) (by kernel_rfl) (cls_drew hF2) ?_
 simp only [List.take_succ_cons, List.take_zero, List.drop_succ_cons, List.drop_zero, List.take_nil, List.drop_nil]
 repeat (go_big_quiet_step (first | fail | (go_at_call 35; with_reducible exact cls_call hF1 hF2 HC.out _)))
 refine wpQuiet_nil ?_
 rintro wq ⟨xq, rfl⟩
 replace hL0 := hL0.call (hF1 xq)
 clear hq0 hq1 hq2 hq3 hq4 hq5 hq6 hq7 hq8 hq9 hq10 hq11 hF2
 generalize F xq = x2 at hL0 ⊢
 clear hF1 xq iα F α
 have hA := hL0.fc
 simp only [fcG, cellsF, neK, and_true, ne_eq, Nat.zero_add, Nat.reduceAdd] at hA
 have hPt := hL0.put 0 (w.heap.size) _ rfl [.int .u64 ((zl r.num : Nat) : Int), .string (zh r.num), .bool (zs r.num), .int .u64 ((lo (fe r) : Nat) : Int), .string (hs (fe r))] rfl
 simp only [setAll, List.set_cons_zero, List.set_cons_succ] at hPt
 generalize hput1 : (((((x2.setCell ⟨w.heap.size, 0, none⟩ (.int .u64 ((zl r.num : Nat) : Int))).setCell ⟨w.heap.size, 1, none⟩ (.string (zh r.num))).setCell ⟨w.heap.size, 2, none⟩ (.bool (zs r.num))).setCell ⟨w.heap.size, 3, none⟩ (.int .u64 ((lo (fe r) : Nat) : Int))).setCell ⟨w.heap.size, 4, none⟩ (.string (hs (fe r)))) = x9 at hPt
 have hB1 := hPt.fc
 simp only [fcG, cellsF, neK, and_true, ne_eq, Nat.zero_add, Nat.reduceAdd] at hB1
 go_wp2_with fail
 exact bodyPost_ret (v := fracV r) (by simp [results, Tryz.results55, go_sem, hB1]) rfl ⟨rfl, hPt.bl⟩
set_option maxHeartbeats 4000000 in
set_option maxRecDepth 100000 in
theorem vsub1_w (i na nb ca cb ga gb b1 b2 : Nat) (x y r : Rat) (HC : ∀ w, Calls Tryz.prog 57 #[fracV x, fracV y] w fun xe w' => xe = .returned (fracV r) ∧ Below w.heap.size w w') (hi : i < na) (hj : i < nb) (w : World) (c0 : w.cell? ⟨b1, 0, none⟩ = some (.slice (some ⟨ga, 0, none⟩) na ca)) (c1 : w.cell? ⟨b2, 0, none⟩ = some (.slice (some ⟨gb, 0, none⟩) nb cb)) (c2 : w.cell? ⟨ga, i * 5, none⟩ = some (.int .u64 ((zl x.num : Nat) : Int))) (c3 : w.cell? ⟨ga, i * 5 + 1, none⟩ = some (.string (zh x.num))) (c4 : w.cell? ⟨ga, i * 5 + 2, none⟩ = some (.bool (zs x.num))) (c5 : w.cell? ⟨ga, i * 5 + 3, none⟩ = some (.int .u64 ((lo (fe x) : Nat) : Int))) (c6 : w.cell? ⟨ga, i * 5 + 4, none⟩ = some (.string (hs (fe x)))) (c7 : w.cell? ⟨gb, i * 5, none⟩ = some (.int .u64 ((zl y.num : Nat) : Int))) (c8 : w.cell? ⟨gb, i * 5 + 1, none⟩ = some (.string (zh y.num))) (c9 : w.cell? ⟨gb, i * 5 + 2, none⟩ = some (.bool (zs y.num))) (c10 : w.cell? ⟨gb, i * 5 + 3, none⟩ = some (.int .u64 ((lo (fe y) : Nat) : Int))) (c11 : w.cell? ⟨gb, i * 5 + 4, none⟩ = some (.string (hs (fe y)))) :
  Calls Tryz.prog 56 #[.int .i64 (i : Int), .pointer (some ⟨b1, 0, none⟩), .pointer (some ⟨b2, 0, none⟩)] w fun xe w' => xe = .returned (fracV r) ∧ Below w.heap.size w w' := by
 replace HC := Lib.hid HC
 have k0 : (0 : Int) ≤ (i : Int) := Int.natCast_nonneg _
 have k1 : (i : Int) < (na : Int) := by omega
 have k2 : (i : Int) < (nb : Int) := by omega
 clear hi hj
 have hL0 : GL w w [] := GL.start w
 have hb0 : Below w.heap.size w (w.alloc (.cells #[.int .u64 0, .string ⟨#[]⟩, .bool false, .int .u64 0, .string ⟨#[]⟩] 38)) := (Below.refl _ _).alloc (Nat.le_refl _) _
 replace c0 := keepsC hb0 c0
 replace c1 := keepsC hb0 c1
 replace c2 := keepsC hb0 c2
 replace c3 := keepsC hb0 c3
 replace c4 := keepsC hb0 c4
 replace c5 := keepsC hb0 c5
 replace c6 := keepsC hb0 c6
 replace c7 := keepsC hb0 c7
 replace c8 := keepsC hb0 c8
 replace c9 := keepsC hb0 c9
 replace c10 := keepsC hb0 c10
 replace c11 := keepsC hb0 c11
 replace hL0 := hL0.new rfl [.int .u64 0, .string ⟨#[]⟩, .bool false, .int .u64 0, .string ⟨#[]⟩] 38
 generalize hweq : w.alloc (.cells #[.int .u64 0, .string ⟨#[]⟩, .bool false, .int .u64 0, .string ⟨#[]⟩] 38) = x1 at hL0 c0 c1 c2 c3 c4 c5 c6 c7 c8 c9 c10 c11
 clear hb0
 replace c0 := Lib.hid c0
 replace c1 := Lib.hid c1
 replace c2 := Lib.hid c2
 replace c3 := Lib.hid c3
 replace c4 := Lib.hid c4
 replace c5 := Lib.hid c5
 replace c6 := Lib.hid c6
 replace c7 := Lib.hid c7
 replace c8 := Lib.hid c8
 replace c9 := Lib.hid c9
 replace c10 := Lib.hid c10
 replace c11 := Lib.hid c11
 go_enter Tryz.func56, Tryz.ntmps56
 go_upto_region 1 with fail
 clear hweq
 obtain ⟨α, iα, F, hF1, hF2⟩ := cls x1
 have hq0 : ∀ yz, (F yz).cell? ⟨b1, 0, none⟩ = some (.slice (some ⟨ga, 0, none⟩) na ca) := fun yz => keepsC (hF1 yz) c0.out
 have hq1 : ∀ yz, (F yz).cell? ⟨b2, 0, none⟩ = some (.slice (some ⟨gb, 0, none⟩) nb cb) := fun yz => keepsC (hF1 yz) c1.out
 have hq2 : ∀ yz, (F yz).cell? ⟨ga, i * 5, none⟩ = some (.int .u64 ((zl x.num : Nat) : Int)) := fun yz => keepsC (hF1 yz) c2.out
 have hq3 : ∀ yz, (F yz).cell? ⟨ga, i * 5 + 1, none⟩ = some (.string (zh x.num)) := fun yz => keepsC (hF1 yz) c3.out
 have hq4 : ∀ yz, (F yz).cell? ⟨ga, i * 5 + 2, none⟩ = some (.bool (zs x.num)) := fun yz => keepsC (hF1 yz) c4.out
 have hq5 : ∀ yz, (F yz).cell? ⟨ga, i * 5 + 3, none⟩ = some (.int .u64 ((lo (fe x) : Nat) : Int)) := fun yz => keepsC (hF1 yz) c5.out
 have hq6 : ∀ yz, (F yz).cell? ⟨ga, i * 5 + 4, none⟩ = some (.string (hs (fe x))) := fun yz => keepsC (hF1 yz) c6.out
 have hq7 : ∀ yz, (F yz).cell? ⟨gb, i * 5, none⟩ = some (.int .u64 ((zl y.num : Nat) : Int)) := fun yz => keepsC (hF1 yz) c7.out
 have hq8 : ∀ yz, (F yz).cell? ⟨gb, i * 5 + 1, none⟩ = some (.string (zh y.num)) := fun yz => keepsC (hF1 yz) c8.out
 have hq9 : ∀ yz, (F yz).cell? ⟨gb, i * 5 + 2, none⟩ = some (.bool (zs y.num)) := fun yz => keepsC (hF1 yz) c9.out
 have hq10 : ∀ yz, (F yz).cell? ⟨gb, i * 5 + 3, none⟩ = some (.int .u64 ((lo (fe y) : Nat) : Int)) := fun yz => keepsC (hF1 yz) c10.out
 have hq11 : ∀ yz, (F yz).cell? ⟨gb, i * 5 + 4, none⟩ = some (.string (hs (fe y))) := fun yz => keepsC (hF1 yz) c11.out
 refine region_qs 9 (C := fun w' => ∃ x, w' = F x) (by kernel_rfl) (by kernel_rfl) (cls_drew hF2) ?_
 simp only [List.take_succ_cons, List.take_zero, List.drop_succ_cons, List.drop_zero, List.take_nil, List.drop_nil]
 repeat (go_big_quiet_step (first | fail | (go_at_call 57; with_reducible exact cls_call hF1 hF2 HC.out _)))
 refine wpQuiet_nil ?_
 rintro wq ⟨xq, rfl⟩
 replace hL0 := hL0.call (hF1 xq)
 clear hq0 hq1 hq2 hq3 hq4 hq5 hq6 hq7 hq8 hq9 hq10 hq11 hF2
 generalize F xq = x2 at hL0 ⊢
 clear hF1 xq iα F α
 have hA := hL0.fc
 simp only [fcG, cellsF, neK, and_true, ne_eq, Nat.zero_add, Nat.reduceAdd] at hA
 have hPt := hL0.put 0 (w.heap.size) _ rfl [.int .u64 ((zl r.num : Nat) : Int), .string (zh r.num), .bool (zs r.num), .int .u64 ((lo (fe r) : Nat) : Int), .string (hs (fe r))] rfl
 simp only [setAll, List.set_cons_zero, List.set_cons_succ] at hPt
 generalize hput1 : (((((x2.setCell ⟨w.heap.size, 0, none⟩ (.int .u64 ((zl r.num : Nat) : Int))).setCell ⟨w.heap.size, 1, none⟩ (.string (zh r.num))).setCell ⟨w.heap.size, 2, none⟩ (.bool (zs r.num))).setCell ⟨w.heap.size, 3, none⟩ (.int .u64 ((lo (fe r) : Nat) : Int))).setCell ⟨w.heap.size, 4, none⟩ (.string (hs (fe r)))) = x9 at hPt
 have hB1 := hPt.fc
 simp only [fcG, cellsF, neK, and_true, ne_eq, Nat.zero_add, Nat.reduceAdd] at hB1
 go_wp2_with fail
 exact bodyPost_ret (v := fracV r) (by simp [results, Tryz.results56, go_sem, hB1]) rfl ⟨rfl, hPt.bl⟩
set_option maxHeartbeats 4000000 in
set_option maxRecDepth 100000 in
theorem vdot1_w (i na nb ca cb ga gb b1 b2 : Nat) (x y r : Rat) (HC : ∀ w, Calls Tryz.prog 36 #[fracV x, fracV y] w fun xe w' => xe = .returned (fracV r) ∧ Below w.heap.size w w') (hi : i < na) (hj : i < nb) (w : World) (c0 : w.cell? ⟨b1, 0, none⟩ = some (.slice (some ⟨ga, 0, none⟩) na ca)) (c1 : w.cell? ⟨b2, 0, none⟩ = some (.slice (some ⟨gb, 0, none⟩) nb cb)) (c2 : w.cell? ⟨ga, i * 5, none⟩ = some (.int .u64 ((zl x.num : Nat) : Int))) (c3 : w.cell? ⟨ga, i * 5 + 1, none⟩ = some (.string (zh x.num))) (c4 : w.cell? ⟨ga, i * 5 + 2, none⟩ = some (.bool (zs x.num))) (c5 : w.cell? ⟨ga, i * 5 + 3, none⟩ = some (.int .u64 ((lo (fe x) : Nat) : Int))) (c6 : w.cell? ⟨ga, i * 5 + 4, none⟩ = some (.string (hs (fe x)))) (c7 : w.cell? ⟨gb, i * 5, none⟩ = some (.int .u64 ((zl y.num : Nat) : Int))) (c8 : w.cell? ⟨gb, i * 5 + 1, none⟩ = some (.string (zh y.num))) (c9 : w.cell? ⟨gb, i * 5 + 2, none⟩ = some (.bool (zs y.num))) (c10 : w.cell? ⟨gb, i * 5 + 3, none⟩ = some (.int .u64 ((lo (fe y) : Nat) : Int))) (c11 : w.cell? ⟨gb, i * 5 + 4, none⟩ = some (.string (hs (fe y)))) :
  Calls Tryz.prog 109 #[.int .i64 (i : Int), .pointer (some ⟨b1, 0, none⟩), .pointer (some ⟨b2, 0, none⟩)] w fun xe w' => xe = .returned (fracV r) ∧ Below w.heap.size w w' := by
 replace HC := Lib.hid HC
 have k0 : (0 : Int) ≤ (i : Int) := Int.natCast_nonneg _
 have k1 : (i : Int) < (na : Int) := by omega
 have k2 : (i : Int) < (nb : Int) := by omega
 clear hi hj
 have hL0 : GL w w [] := GL.start w
 have hb0 : Below w.heap.size w (w.alloc (.cells #[.int .u64 0, .string ⟨#[]⟩, .bool false, .int .u64 0, .string ⟨#[]⟩] 38)) := (Below.refl _ _).alloc (Nat.le_refl _) _
 replace c0 := keepsC hb0 c0
 replace c1 := keepsC hb0 c1
 replace c2 := keepsC hb0 c2
 replace c3 := keepsC hb0 c3
 replace c4 := keepsC hb0 c4
 replace c5 := keepsC hb0 c5
 replace c6 := keepsC hb0 c6
 replace c7 := keepsC hb0 c7
 replace c8 := keepsC hb0 c8
 replace c9 := keepsC hb0 c9
 replace c10 := keepsC hb0 c10
 replace c11 := keepsC hb0 c11
 replace hL0 := hL0.new rfl [.int .u64 0, .string ⟨#[]⟩, .bool false, .int .u64 0, .string ⟨#[]⟩] 38
 generalize hweq : w.alloc (.cells #[.int .u64 0, .string ⟨#[]⟩, .bool false, .int .u64 0, .string ⟨#[]⟩] 38) = x1 at hL0 c0 c1 c2 c3 c4 c5 c6 c7 c8 c9 c10 c11
 clear hb0
 replace c0 := Lib.hid c0
 replace c1 := Lib.hid c1
 replace c2 := Lib.hid c2
 replace c3 := Lib.hid c3
 replace c4 := Lib.hid c4
 replace c5 := Lib.hid c5
 replace c6 := Lib.hid c6
 replace c7 := Lib.hid c7
 replace c8 := Lib.hid c8
 replace c9 := Lib.hid c9
 replace c10 := Lib.hid c10
 replace c11 := Lib.hid c11
 go_enter Tryz.func109, Tryz.ntmps109
 go_upto_region 1 with fail
 clear hweq
 obtain ⟨α, iα, F, hF1, hF2⟩ := cls x1
 have hq0 : ∀ yz, (F yz).cell? ⟨b1, 0, none⟩ = some (.slice (some ⟨ga, 0, none⟩) na ca) := fun yz => keepsC (hF1 yz) c0.out
 have hq1 : ∀ yz, (F yz).cell? ⟨b2, 0, none⟩ = some (.slice (some ⟨gb, 0, none⟩) nb cb) := fun yz => keepsC (hF1 yz) c1.out
 have hq2 : ∀ yz, (F yz).cell? ⟨ga, i * 5, none⟩ = some (.int .u64 ((zl x.num : Nat) : Int)) := fun yz => keepsC (hF1 yz) c2.out
 have hq3 : ∀ yz, (F yz).cell? ⟨ga, i * 5 + 1, none⟩ = some (.string (zh x.num)) := fun yz => keepsC (hF1 yz) c3.out
 have hq4 : ∀ yz, (F yz).cell? ⟨ga, i * 5 + 2, none⟩ = some (.bool (zs x.num)) := fun yz => keepsC (hF1 yz) c4.out
 have hq5 : ∀ yz, (F yz).cell? ⟨ga, i * 5 + 3, none⟩ = some (.int .u64 ((lo (fe x) : Nat) : Int)) := fun yz => keepsC (hF1 yz) c5.out
 have hq6 : ∀ yz, (F yz).cell? ⟨ga, i * 5 + 4, none⟩ = some (.string (hs (fe x))) := fun yz => keepsC (hF1 yz) c6.out
 have hq7 : ∀ yz, (F yz).cell? ⟨gb, i * 5, none⟩ = some (.int .u64 ((zl y.num : Nat) : Int)) := fun yz => keepsC (hF1 yz) c7.out
 have hq8 : ∀ yz, (F yz).cell? ⟨gb, i * 5 + 1, none⟩ = some (.string (zh y.num)) := fun yz => keepsC (hF1 yz) c8.out
 have hq9 : ∀ yz, (F yz).cell? ⟨gb, i * 5 + 2, none⟩ = some (.bool (zs y.num)) := fun yz => keepsC (hF1 yz) c9.out
 have hq10 : ∀ yz, (F yz).cell? ⟨gb, i * 5 + 3, none⟩ = some (.int .u64 ((lo (fe y) : Nat) : Int)) := fun yz => keepsC (hF1 yz) c10.out
 have hq11 : ∀ yz, (F yz).cell? ⟨gb, i * 5 + 4, none⟩ = some (.string (hs (fe y))) := fun yz => keepsC (hF1 yz) c11.out
 refine region_qs 9 (C := fun w' => ∃ x, w' = F x) (by kernel_rfl) (by kernel_rfl) (cls_drew hF2) ?_
 simp only [List.take_succ_cons, List.take_zero, List.drop_succ_cons, List.drop_zero, List.take_nil, List.drop_nil]
 repeat (go_big_quiet_step (first | fail | (go_at_call 36; with_reducible exact cls_call hF1 hF2 HC.out _)))
 refine wpQuiet_nil ?_
 rintro wq ⟨xq, rfl⟩
 replace hL0 := hL0.call (hF1 xq)
 clear hq0 hq1 hq2 hq3 hq4 hq5 hq6 hq7 hq8 hq9 hq10 hq11 hF2
 generalize F xq = x2 at hL0 ⊢
 clear hF1 xq iα F α
 have hA := hL0.fc
 simp only [fcG, cellsF, neK, and_true, ne_eq, Nat.zero_add, Nat.reduceAdd] at hA
 have hPt := hL0.put 0 (w.heap.size) _ rfl [.int .u64 ((zl r.num : Nat) : Int), .string (zh r.num), .bool (zs r.num), .int .u64 ((lo (fe r) : Nat) : Int), .string (hs (fe r))] rfl
 simp only [setAll, List.set_cons_zero, List.set_cons_succ] at hPt
 generalize hput1 : (((((x2.setCell ⟨w.heap.size, 0, none⟩ (.int .u64 ((zl r.num : Nat) : Int))).setCell ⟨w.heap.size, 1, none⟩ (.string (zh r.num))).setCell ⟨w.heap.size, 2, none⟩ (.bool (zs r.num))).setCell ⟨w.heap.size, 3, none⟩ (.int .u64 ((lo (fe r) : Nat) : Int))).setCell ⟨w.heap.size, 4, none⟩ (.string (hs (fe r)))) = x9 at hPt
 have hB1 := hPt.fc
 simp only [fcG, cellsF, neK, and_true, ne_eq, Nat.zero_add, Nat.reduceAdd] at hB1
 go_wp2_with fail
 exact bodyPost_ret (v := fracV r) (by simp [results, Tryz.results109, go_sem, hB1]) rfl ⟨rfl, hPt.bl⟩
set_option maxHeartbeats 4000000 in
set_option maxRecDepth 100000 in
theorem vscale1_w (i na ca ga b1 b2 : Nat) (x y r : Rat) (HC : ∀ w, Calls Tryz.prog 36 #[fracV x, fracV y] w fun xe w' => xe = .returned (fracV r) ∧ Below w.heap.size w w') (hi : i < na) (w : World) (c0 : w.cell? ⟨b1, 0, none⟩ = some (.int .u64 ((zl x.num : Nat) : Int))) (c1 : w.cell? ⟨b1, 1, none⟩ = some (.string (zh x.num))) (c2 : w.cell? ⟨b1, 2, none⟩ = some (.bool (zs x.num))) (c3 : w.cell? ⟨b1, 3, none⟩ = some (.int .u64 ((lo (fe x) : Nat) : Int))) (c4 : w.cell? ⟨b1, 4, none⟩ = some (.string (hs (fe x)))) (c5 : w.cell? ⟨b2, 0, none⟩ = some (.slice (some ⟨ga, 0, none⟩) na ca)) (c6 : w.cell? ⟨ga, i * 5, none⟩ = some (.int .u64 ((zl y.num : Nat) : Int))) (c7 : w.cell? ⟨ga, i * 5 + 1, none⟩ = some (.string (zh y.num))) (c8 : w.cell? ⟨ga, i * 5 + 2, none⟩ = some (.bool (zs y.num))) (c9 : w.cell? ⟨ga, i * 5 + 3, none⟩ = some (.int .u64 ((lo (fe y) : Nat) : Int))) (c10 : w.cell? ⟨ga, i * 5 + 4, none⟩ = some (.string (hs (fe y)))) :
  Calls Tryz.prog 58 #[.int .i64 (i : Int), .pointer (some ⟨b1, 0, none⟩), .pointer (some ⟨b2, 0, none⟩)] w fun xe w' => xe = .returned (fracV r) ∧ Below w.heap.size w w' := by
 replace HC := Lib.hid HC
 have k0 : (0 : Int) ≤ (i : Int) := Int.natCast_nonneg _
 have k1 : (i : Int) < (na : Int) := by omega
 clear hi
 have hL0 : GL w w [] := GL.start w
 have hb0 : Below w.heap.size w (w.alloc (.cells #[.int .u64 0, .string ⟨#[]⟩, .bool false, .int .u64 0, .string ⟨#[]⟩] 38)) := (Below.refl _ _).alloc (Nat.le_refl _) _
 replace c0 := keepsC hb0 c0
 replace c1 := keepsC hb0 c1
 replace c2 := keepsC hb0 c2
 replace c3 := keepsC hb0 c3
 replace c4 := keepsC hb0 c4
 replace c5 := keepsC hb0 c5
 replace c6 := keepsC hb0 c6
 replace c7 := keepsC hb0 c7
 replace c8 := keepsC hb0 c8
 replace c9 := keepsC hb0 c9
 replace c10 := keepsC hb0 c10
 replace hL0 := hL0.new rfl [.int .u64 0, .string ⟨#[]⟩, .bool false, .int .u64 0, .string ⟨#[]⟩] 38
 generalize hweq : w.alloc (.cells #[.int .u64 0, .string ⟨#[]⟩, .bool false, .int .u64 0, .string ⟨#[]⟩] 38) = x1 at hL0 c0 c1 c2 c3 c4 c5 c6 c7 c8 c9 c10
 clear hb0
 replace c0 := Lib.hid c0
 replace c1 := Lib.hid c1
 replace c2 := Lib.hid c2
 replace c3 := Lib.hid c3
 replace c4 := Lib.hid c4
 replace c5 := Lib.hid c5
 replace c6 := Lib.hid c6
 replace c7 := Lib.hid c7
 replace c8 := Lib.hid c8
 replace c9 := Lib.hid c9
 replace c10 := Lib.hid c10
 go_enter Tryz.func58, Tryz.ntmps58
 go_upto_region 1 with fail
 clear hweq
 obtain ⟨α, iα, F, hF1, hF2⟩ := cls x1
 have hq0 : ∀ yz, (F yz).cell? ⟨b1, 0, none⟩ = some (.int .u64 ((zl x.num : Nat) : Int)) := fun yz => keepsC (hF1 yz) c0.out
 have hq1 : ∀ yz, (F yz).cell? ⟨b1, 1, none⟩ = some (.string (zh x.num)) := fun yz => keepsC (hF1 yz) c1.out
 have hq2 : ∀ yz, (F yz).cell? ⟨b1, 2, none⟩ = some (.bool (zs x.num)) := fun yz => keepsC (hF1 yz) c2.out
 have hq3 : ∀ yz, (F yz).cell? ⟨b1, 3, none⟩ = some (.int .u64 ((lo (fe x) : Nat) : Int)) := fun yz => keepsC (hF1 yz) c3.out
 have hq4 : ∀ yz, (F yz).cell? ⟨b1, 4, none⟩ = some (.string (hs (fe x))) := fun yz => keepsC (hF1 yz) c4.out
 have hq5 : ∀ yz, (F yz).cell? ⟨b2, 0, none⟩ = some (.slice (some ⟨ga, 0, none⟩) na ca) := fun yz => keepsC (hF1 yz) c5.out
 have hq6 : ∀ yz, (F yz).cell? ⟨ga, i * 5, none⟩ = some (.int .u64 ((zl y.num : Nat) : Int)) := fun yz => keepsC (hF1 yz) c6.out
 have hq7 : ∀ yz, (F yz).cell? ⟨ga, i * 5 + 1, none⟩ = some (.string (zh y.num)) := fun yz => keepsC (hF1 yz) c7.out
 have hq8 : ∀ yz, (F yz).cell? ⟨ga, i * 5 + 2, none⟩ = some (.bool (zs y.num)) := fun yz => keepsC (hF1 yz) c8.out
 have hq9 : ∀ yz, (F yz).cell? ⟨ga, i * 5 + 3, none⟩ = some (.int .u64 ((lo (fe y) : Nat) : Int)) := fun yz => keepsC (hF1 yz) c9.out
 have hq10 : ∀ yz, (F yz).cell? ⟨ga, i * 5 + 4, none⟩ = some (.string (hs (fe y))) := fun yz => keepsC (hF1 yz) c10.out
 refine region_qs 6 (C := fun w' => ∃ x, w' = F x) (by kernel_rfl) (by kernel_rfl) (cls_drew hF2) ?_
 simp only [List.take_succ_cons, List.take_zero, List.drop_succ_cons, List.drop_zero, List.take_nil, List.drop_nil]
 repeat (go_big_quiet_step (first | fail | (go_at_call 36; with_reducible exact cls_call hF1 hF2 HC.out _)))
 refine wpQuiet_nil ?_
 rintro wq ⟨xq, rfl⟩
 replace hL0 := hL0.call (hF1 xq)
 clear hq0 hq1 hq2 hq3 hq4 hq5 hq6 hq7 hq8 hq9 hq10 hF2
 generalize F xq = x2 at hL0 ⊢
 clear hF1 xq iα F α
 have hA := hL0.fc
 simp only [fcG, cellsF, neK, and_true, ne_eq, Nat.zero_add, Nat.reduceAdd] at hA
 have hPt := hL0.put 0 (w.heap.size) _ rfl [.int .u64 ((zl r.num : Nat) : Int), .string (zh r.num), .bool (zs r.num), .int .u64 ((lo (fe r) : Nat) : Int), .string (hs (fe r))] rfl
 simp only [setAll, List.set_cons_zero, List.set_cons_succ] at hPt
 generalize hput1 : (((((x2.setCell ⟨w.heap.size, 0, none⟩ (.int .u64 ((zl r.num : Nat) : Int))).setCell ⟨w.heap.size, 1, none⟩ (.string (zh r.num))).setCell ⟨w.heap.size, 2, none⟩ (.bool (zs r.num))).setCell ⟨w.heap.size, 3, none⟩ (.int .u64 ((lo (fe r) : Nat) : Int))).setCell ⟨w.heap.size, 4, none⟩ (.string (hs (fe r)))) = x9 at hPt
 have hB1 := hPt.fc
 simp only [fcG, cellsF, neK, and_true, ne_eq, Nat.zero_add, Nat.reduceAdd] at hB1
 go_wp2_with fail
 exact bodyPost_ret (v := fracV r) (by simp [results, Tryz.results58, go_sem, hB1]) rfl ⟨rfl, hPt.bl⟩
set_option maxHeartbeats 4000000 in
set_option maxRecDepth 100000 in
theorem vmax1_w (i na ca ga b1 : Nat) (x r : Rat) (HC : ∀ w, Calls Tryz.prog 46 #[fracV x] w fun xe w' => xe = .returned (fracV r) ∧ Below w.heap.size w w') (hi : i < na) (w : World) (c0 : w.cell? ⟨b1, 0, none⟩ = some (.slice (some ⟨ga, 0, none⟩) na ca)) (c1 : w.cell? ⟨ga, i * 5, none⟩ = some (.int .u64 ((zl x.num : Nat) : Int))) (c2 : w.cell? ⟨ga, i * 5 + 1, none⟩ = some (.string (zh x.num))) (c3 : w.cell? ⟨ga, i * 5 + 2, none⟩ = some (.bool (zs x.num))) (c4 : w.cell? ⟨ga, i * 5 + 3, none⟩ = some (.int .u64 ((lo (fe x) : Nat) : Int))) (c5 : w.cell? ⟨ga, i * 5 + 4, none⟩ = some (.string (hs (fe x)))) :
  Calls Tryz.prog 74 #[.int .i64 (i : Int), .pointer (some ⟨b1, 0, none⟩)] w fun xe w' => xe = .returned (fracV r) ∧ Below w.heap.size w w' := by
 replace HC := Lib.hid HC
 have k0 : (0 : Int) ≤ (i : Int) := Int.natCast_nonneg _
 have k1 : (i : Int) < (na : Int) := by omega
 clear hi
 have hL0 : GL w w [] := GL.start w
 have hb0 : Below w.heap.size w (w.alloc (.cells #[.int .u64 0, .string ⟨#[]⟩, .bool false, .int .u64 0, .string ⟨#[]⟩] 38)) := (Below.refl _ _).alloc (Nat.le_refl _) _
 replace c0 := keepsC hb0 c0
 replace c1 := keepsC hb0 c1
 replace c2 := keepsC hb0 c2
 replace c3 := keepsC hb0 c3
 replace c4 := keepsC hb0 c4
 replace c5 := keepsC hb0 c5
 replace hL0 := hL0.new rfl [.int .u64 0, .string ⟨#[]⟩, .bool false, .int .u64 0, .string ⟨#[]⟩] 38
 generalize hweq : w.alloc (.cells #[.int .u64 0, .string ⟨#[]⟩, .bool false, .int .u64 0, .string ⟨#[]⟩] 38) = x1 at hL0 c0 c1 c2 c3 c4 c5
 clear hb0
 go_enter Tryz.func74, Tryz.ntmps74
 go_wp2_with fail
 with_reducible refine Calls.mono (HC.out _) ?_
 rintro e x2 ⟨rfl, hb⟩
 replace hL0 := hL0.call hb
 clear hb hweq c0 c1 c2 c3 c4 c5
 have hA := hL0.fc
 simp only [fcG, cellsF, neK, and_true, ne_eq, Nat.zero_add, Nat.reduceAdd] at hA
 have hPt := hL0.put 0 (w.heap.size) _ rfl [.int .u64 ((zl r.num : Nat) : Int), .string (zh r.num), .bool (zs r.num), .int .u64 ((lo (fe r) : Nat) : Int), .string (hs (fe r))] rfl
 simp only [setAll, List.set_cons_zero, List.set_cons_succ] at hPt
 generalize hput1 : (((((x2.setCell ⟨w.heap.size, 0, none⟩ (.int .u64 ((zl r.num : Nat) : Int))).setCell ⟨w.heap.size, 1, none⟩ (.string (zh r.num))).setCell ⟨w.heap.size, 2, none⟩ (.bool (zs r.num))).setCell ⟨w.heap.size, 3, none⟩ (.int .u64 ((lo (fe r) : Nat) : Int))).setCell ⟨w.heap.size, 4, none⟩ (.string (hs (fe r)))) = x9 at hPt
 have hB1 := hPt.fc
 simp only [fcG, cellsF, neK, and_true, ne_eq, Nat.zero_add, Nat.reduceAdd] at hB1
 go_wp2_with fail
 exact bodyPost_ret (v := fracV r) (by simp [results, Tryz.results74, go_sem, hB1]) rfl ⟨rfl, hPt.bl⟩
end Go.Proofs.YtoahpkelajimfaaGreatDoor
namespace Go.Proofs.YtoahpkelajimfaaGreatDoor
open Go.RowKit
attribute [local irreducible] lo hs sm s64 c64 d64 b64 mh ml pd pc qd qc val hiB str cmpI srD lz nb zl zh zs fe rowV
set_option maxHeartbeats 4000000 in
set_option maxRecDepth 100000 in
theorem veach_w (K : FuncId) (caps : Array Value) (eg : ∀ (args : Array Value) (w : World), (callFunc K args).run Tryz.prog w = .ok (.enter K args) w) (n : Nat) (f : Nat → Rat) (P : World → Prop) (hP : Keeps P)
  (HC : ∀ i, i < n → ∀ w, P w → Calls Tryz.prog K (#[.int .i64 (i : Int)] ++ caps) w fun xe w' => xe = .returned (fracV (f i)) ∧ Below w.heap.size w w')
  (hn : n ≤ 100000) (w : World) (kP : P w) :
  Calls Tryz.prog 73 #[.int .i64 (n : Int), .func (.func K) #[] caps] w fun xe w' => ∃ v, xe = .returned v ∧ NV w.heap.size (tabV n f) v w' ∧ Below w.heap.size w w' := by
 have hmk := fun W => makeV W (n : Int) n rfl (by omega)
 replace hP := Lib.hid hP
 replace HC := Lib.hid HC
 replace hn := Lib.hid hn
 have hL0 : GL w w [] := GL.start w
 replace hL0 := hL0.new rfl (frCs (List.replicate n 0)) 38
 generalize hweq : w.alloc (.cells (frCs (List.replicate n 0)).toArray 38) = x1 at hL0
 rw [← rowV_zero f n] at hL0
 replace kP := Lib.hid kP
 go_enter Tryz.func73, Tryz.ntmps73
 go_wp2_with fail
 clear hweq hmk
 obtain ⟨g, hg⟩ : ∃ g, g = w.heap.size := ⟨_, rfl⟩
 rw [← hg] at hL0 ⊢
 replace hg := Lib.hid hg
 go_loopg [10] n (fun gk iv wr => ∃ (k : Nat) (zi : Int), k + gk = n ∧ iv = .int .i64 zi ∧ zi = (k : Int) ∧ GL w wr [(g, frCs (rowV f n k))])
 case atStart => exact ⟨0, 0, Nat.zero_add n, by first | rfl | go_num, rfl, hL0⟩
 case round =>
  clear hL0
  obtain ⟨k, zi, hik, rfl, hzi, hL0⟩ := hrel
  rcases Nat.lt_or_ge k n with hin | hin
  ·subst hzi
   have k1 : (k : Int) < (n : Int) := by omega
   have k0 : (0 : Int) ≤ (k : Int) := Int.natCast_nonneg _
   have kb : (k : Int) ≤ 100000 := by have := hn.out; omega
   have HC1 := HC.out k hin
   obtain ⟨q, hq⟩ : ∃ q, q = f k := ⟨_, rfl⟩
   rw [← hq] at HC1
   replace hq := Lib.hid hq
   replace HC1 := Lib.hid HC1
   go_wp2_with fail
   with_reducible refine Calls.mono (HC1.out _ (hP.out.at hL0.bl kP.out)) ?_
   rintro e y1 ⟨rfl, hb⟩
   replace hL0 := hL0.call hb
   clear hb
   have zh := hL0.get _ _ List.mem_cons_self
   have hlen := rowV_len f n k (Nat.le_of_lt hin)
   obtain ⟨z0, z1, z2, z3, z4⟩ := (hd_fs zh).cell k (by omega)
   have zz := zh.frz
   clear zh
   have hPt := hL0.putF 0 g (rowV f n k) rfl k q (by omega)
   simp only [List.set_cons_zero, List.set_cons_succ] at hPt
   generalize hputr : (((((y1.setCell ⟨g, k * 5, none⟩ (.int .u64 ((zl q.num : Nat) : Int))).setCell ⟨g, k * 5 + 1, none⟩ (.string (zh q.num))).setCell ⟨g, k * 5 + 2, none⟩ (.bool (zs q.num))).setCell ⟨g, k * 5 + 3, none⟩ (.int .u64 ((lo (fe q) : Nat) : Int))).setCell ⟨g, k * 5 + 4, none⟩ (.string (hs (fe q)))) = y2 at hPt
   rw [hq.out, rowV_step f n k hin] at hPt
   clear hL0
   have hL0 := hPt
   clear hPt
   go_wp2_with fail
   go_roundg (n - (k + 1))
   case measure => omega
   case rel => exact ⟨k + 1, _, by omega, by first | rfl | go_num, by omega, hL0⟩
  ·obtain rfl : k = n := by omega
   subst hzi
   have k1 : ¬ (k : Int) < (k : Int) := by omega
   rw [rowV_end] at hL0
   have hNV : NV w.heap.size (tabV k f) (.slice (some ⟨g, 0, none⟩) k k) wr := ⟨g, by rw [tabV_len], Nat.le_of_eq hg.out.symm, hL0.get _ _ List.mem_cons_self⟩
   replace hNV := Lib.hid hNV
   go_wp2_with fail
   exact bodyPost_ret (v := .slice (some ⟨g, 0, none⟩) k k) (by simp [results, Tryz.results73, go_sem]) rfl ⟨_, rfl, hNV.out, hL0.bl⟩
end Go.Proofs.YtoahpkelajimfaaGreatDoor
namespace Go.Proofs.YtoahpkelajimfaaGreatDoor
open Go.RowKit
attribute [local irreducible] lo hs sm s64 c64 d64 b64 mh ml pd pc qd qc val hiB str cmpI srD lz nb zl zh zs fe rowV
set_option maxHeartbeats 4000000 in
set_option maxRecDepth 100000 in
theorem vfault_w (m c g : Nat) (ao : Option Addr) (ln : Nat → Nat) (hm : m ≤ 100000) (hln : ∀ i, i < m → ln i ≤ 2048) (w : World)
  (hx : 0 < m → ao = some ⟨g, 0, none⟩) (hc : ∀ i, i < m → ∃ a d, w.cell? ⟨g, i, none⟩ = some (.slice a (ln i) d)) :
  Calls Tryz.prog 63 #[.slice ao m c] w fun xe w' => ∃ e : Int, xe = .returned (.int .i64 e) ∧ ((e = 0 ∧ ∀ i, i < m → ln i = ln 0) ∨ (e = 1 ∧ ∃ i, i < m ∧ ln i ≠ ln 0)) ∧ Below w.heap.size w w' := by
 replace hm := Lib.hid hm
 replace hln := Lib.hid hln
 replace hx := Lib.hid hx
 replace hc := Lib.hid hc
 go_enter Tryz.func63, Tryz.ntmps63
 go_wp2_with fail
 go_loopg [9] m (fun gk iv wr => ∃ (k : Nat) (zi : Int), k + gk = m ∧ iv = .int .i64 zi ∧ zi = (k : Int) ∧ wr = w)
 case atStart => exact ⟨0, 0, Nat.zero_add m, by first | rfl | go_num, rfl, rfl⟩
 case round =>
  obtain ⟨k, zi, hik, rfl, hzi, hwr⟩ := hrel
  subst hwr
  have hmm := hm.out
  rcases Nat.lt_or_ge k m with hin | hin
  ·subst hzi
   have k1 : (k : Int) < (m : Int) := by omega
   have k0 : (0 : Int) ≤ (k : Int) := Int.natCast_nonneg _
   have kb : (k : Int) ≤ 100000 := by omega
   obtain ⟨a, d, hcell⟩ := hc.out k hin
   have hl := hln.out k hin
   have e0 := hx.out (by omega)
   subst e0
   have l1 : ¬ (2048 : Int) < (ln k : Int) := by omega
   have l2 : ¬ 2048 < ln k := by omega
   generalize ln k = lk at *
   go_wp2_with fail
   go_roundg (m - (k + 1))
   case measure => omega
   case rel => exact ⟨k + 1, _, by omega, by first | rfl | go_num, by omega, rfl⟩
  ·obtain rfl : k = m := by omega
   subst hzi
   have k1 : ¬ (k : Int) < (k : Int) := by omega
   go_wp2_with fail
   go_loopg [19] k (fun gk iv wr2 => ∃ (j : Nat) (zi : Int), j + gk = k ∧ iv = .int .i64 zi ∧ zi = (j : Int) ∧ (∀ i, i < j → ln i = ln 0) ∧ wr2 = wr)
   case atStart => exact ⟨0, 0, Nat.zero_add k, by first | rfl | go_num, rfl, fun i hi => by omega, rfl⟩
   case round =>
    obtain ⟨j, zi, hjk, rfl, hzi, hall, hwr⟩ := hrel
    subst hwr
    replace hall := Lib.hid hall
    rcases Nat.lt_or_ge j k with hjn | hjn
    ·subst hzi
     have k2 : (j : Int) < (k : Int) := by omega
     have k3 : (0 : Int) ≤ (j : Int) := Int.natCast_nonneg _
     have kb : (j : Int) ≤ 100000 := by omega
     have k4 : (0 : Int) < (k : Int) := by omega
     obtain ⟨a, d, hcell⟩ := hc.out j hjn
     obtain ⟨a2, d2, hcell2⟩ := hc.out 0 (by omega)
     have e0 := hx.out (by omega)
     subst e0
     by_cases heq : ln j = ln 0
     ·have hall2 : ∀ i, i < j + 1 → ln i = ln 0 := fun i hi => by
       rcases Nat.lt_or_ge i j with h | h
       ·exact hall.out i h
       ·rw [show i = j by omega]; exact heq
      replace hall2 := Lib.hid hall2
      rw [heq] at hcell
      clear heq
      generalize hl0 : ln 0 = l0 at hcell hcell2
      replace hl0 := Lib.hid hl0
      go_wp2_with fail
      go_roundg (k - (j + 1))
      case measure => omega
      case rel => exact ⟨j + 1, _, by omega, by first | rfl | go_num, by omega, hall2.out, rfl⟩
     ·have hex : ∃ i, i < k ∧ ln i ≠ ln 0 := ⟨j, hjn, heq⟩
      replace hex := Lib.hid hex
      have n1 : ¬ (ln j : Int) = (ln 0 : Int) := by omega
      have n2 : ((ln j : Int) == (ln 0 : Int)) = false := beq_eq_false_iff_ne.2 n1
      have n3 : (ln j == ln 0) = false := beq_eq_false_iff_ne.2 heq
      go_wp2_with fail
      exact bodyPost_ret (v := .int .i64 1) (by simp [results, Tryz.results63, go_sem]) rfl ⟨1, rfl, .inr ⟨rfl, hex.out⟩, Below.refl _ _⟩
    ·obtain rfl : j = k := by omega
     subst hzi
     have k2 : ¬ (j : Int) < (j : Int) := by omega
     go_wp2_with fail
     exact bodyPost_ret (v := .int .i64 0) (by simp [results, Tryz.results63, go_sem]) rfl ⟨0, rfl, .inl ⟨rfl, hall.out⟩, Below.refl _ _⟩
theorem vls_fault {L : List (List Rat)} (hm : L.length ≤ 100000) (hL : ∀ l ∈ L, l.length ≤ 2048) {v : Value} {w : World} (hv : VLs w v L) :
  Calls Tryz.prog 63 #[v] w fun xe w' => ∃ e : Int, xe = .returned (.int .i64 e) ∧ ((e = 0 ∧ ∀ l ∈ L, l.length = (L.getD 0 []).length) ∨ (e = 1 ∧ ∃ l ∈ L, l.length ≠ (L.getD 0 []).length)) ∧ Below w.heap.size w w' := by
 obtain ⟨ao, c, g, rfl, h2, h3⟩ := hv
 have hg : ∀ i (h : i < L.length), L.getD i [] = L[i] := fun i h => by rw [List.getD_eq_getElem?_getD, List.getElem?_eq_getElem h]; rfl
 refine (vfault_w L.length c g ao (fun i => (L.getD i []).length) hm (fun i hi => by rw [hg i hi]; exact hL _ (List.getElem_mem hi)) w (fun h => (h2 h).1) (fun i hi => ?_)).mono ?_
 ·obtain ⟨u, h4, h5⟩ := h3 i hi
  obtain ⟨a, d, rfl, -⟩ := slq_len h5
  exact ⟨a, d, by rw [h4, hg i hi]⟩
 ·rintro e w' ⟨ev, rfl, he, hb⟩
  refine ⟨ev, rfl, ?_, hb⟩
  rcases he with ⟨h, h'⟩ | ⟨h, i, hi, h'⟩
  ·refine .inl ⟨h, fun l hl => ?_⟩
   obtain ⟨i, hi, rfl⟩ := List.getElem_of_mem hl
   rw [← hg i hi]; exact h' i hi
  ·exact .inr ⟨h, L[i], List.getElem_mem hi, by rw [← hg i hi]; exact h'⟩
theorem vfault_ok {L : List (List Rat)} {n : Nat} (hm : L.length ≤ 100000) (hL : ∀ l ∈ L, l.length = n) (hn : n ≤ 2048) (v : Value) (w : World) (hv : VLs w v L) :
  Calls Tryz.prog 63 #[v] w fun xe w' => xe = .returned (.int .i64 0) ∧ Below w.heap.size w w' := by
 refine (vls_fault hm (fun l hl => by rw [hL l hl]; exact hn) hv).mono ?_
 rintro e w' ⟨ev, rfl, he, hb⟩
 rcases he with ⟨rfl, -⟩ | ⟨-, l, hl, h⟩
 ·exact ⟨rfl, hb⟩
 ·cases L with
  | nil => cases hl
  | cons a L => exact absurd ((hL l hl).trans (hL a List.mem_cons_self).symm) h
set_option maxHeartbeats 4000000 in
set_option maxRecDepth 100000 in
theorem vcombine_ok (K : FuncId) (caps : Array Value) (eg : ∀ (args : Array Value) (w : World), (callFunc K args).run Tryz.prog w = .ok (.enter K args) w) (n : Nat) (f : Nat → Rat) (P : World → Prop) (hP : Keeps P)
  (HC : ∀ i, i < n → ∀ w, P w → Calls Tryz.prog K (#[.int .i64 (i : Int)] ++ caps) w fun xe w' => xe = .returned (fracV (f i)) ∧ Below w.heap.size w w')
  (L : List (List Rat)) (h0 : 0 < L.length) (hm : L.length ≤ 100000) (hL : ∀ l ∈ L, l.length = n) (hn : n ≤ 2048) (v : Value) (w : World) (kP : P w) (hv : VLs w v L) :
  Calls Tryz.prog 54 #[.func (.func K) #[] caps, v] w fun xe w' => ∃ u, xe = .returned (.tuple #[u, .int .i64 0]) ∧ NV w.heap.size (tabV n f) u w' ∧ Below w.heap.size w w' := by
 have HF := Lib.hid (vfault_ok hm hL hn v w hv)
 have HE := Lib.hid (fun w kP => veach_w K caps eg n f P hP HC (by omega) w kP)
 clear eg HC
 obtain ⟨ao, c, g, rfl, h2, h3⟩ := hv
 obtain ⟨rfl, hg⟩ := h2 h0
 obtain ⟨u0, hc0, hs0⟩ := h3 0 h0
 obtain ⟨a0, d0, rfl, -⟩ := slq_len hs0
 rw [hL _ (List.getElem_mem h0)] at hc0
 clear h3 hs0 hL h2
 generalize L.length = m at *
 have m1 : ¬ (m : Int) = 0 := by omega
 have m2 : ((m : Int) == 0) = false := beq_eq_false_iff_ne.2 m1
 have m3 : ¬ m = 0 := by omega
 have m4 : (0 : Int) < (m : Int) := by omega
 replace hc0 := Lib.hid hc0
 replace hP := Lib.hid hP
 replace kP := Lib.hid kP
 go_enter Tryz.func54, Tryz.ntmps54
 go_wp2_with fail
 with_reducible refine Calls.mono HF.out ?_
 rintro e y1 ⟨rfl, hb⟩
 have hc1 := keepsC hb hc0.out
 have kP1 := Lib.hid (hP.out.at hb kP.out)
 replace hb := Lib.hid hb
 go_wp2_with fail
 with_reducible refine Calls.mono (HE.out y1 kP1.out) ?_
 rintro e y2 ⟨u, rfl, hnv, hb2⟩
 replace hnv := Lib.hid (hnv.mono hb.out.size)
 replace hb2 := Lib.hid (hb.out.trans (hb2.mono hb.out.size))
 clear hc1
 obtain ⟨gu, rfl, -, -⟩ := id hnv.out
 go_wp2_with fail
 exact bodyPost_ret (v := .tuple #[_, .int .i64 0]) (by simp [results, Tryz.results54, go_sem]) rfl ⟨_, rfl, hnv.out, hb2.out⟩
end Go.Proofs.YtoahpkelajimfaaGreatDoor
namespace Go.Proofs.YtoahpkelajimfaaGreatDoor
open Go.RowKit
attribute [local irreducible] lo hs sm s64 c64 d64 b64 mh ml pd pc qd qc val hiB str cmpI srD lz nb zl zh zs fe rowV tabV gv bsV mxV
theorem fsc {w : World} {g : Nat} {l : List Rat} (h : FS w g l) (i : Nat) (hi : i < l.length) : w.cell? ⟨g, i * 5, none⟩ = some (.int .u64 ((zl (gv l i).num : Nat) : Int)) ∧ w.cell? ⟨g, i * 5 + 1, none⟩ = some (.string (zh (gv l i).num)) ∧ w.cell? ⟨g, i * 5 + 2, none⟩ = some (.bool (zs (gv l i).num)) ∧
  w.cell? ⟨g, i * 5 + 3, none⟩ = some (.int .u64 ((lo (fe (gv l i)) : Nat) : Int)) ∧ w.cell? ⟨g, i * 5 + 4, none⟩ = some (.string (hs (fe (gv l i)))) := by
 rw [gv_get hi]; exact h.cell i hi
theorem slq_form' {w : World} {v : Value} {l : List Rat} (h : SlQ w v l) : ∃ ao c, v = .slice ao l.length c := by
 obtain ⟨ao, c, e, _⟩ := slq_len h
 exact ⟨ao, c, e⟩
theorem slq_at {w : World} {ao : Option Addr} {n c : Nat} {l : List Rat} (h : SlQ w (.slice ao n c) l) (i : Nat) (hi : i < l.length) : ∃ g, ao = some ⟨g, 0, none⟩ ∧ n = l.length ∧ FS w g l := slq_pos h (by omega)
theorem vls_one {w : World} {g c : Nat} {u : Value} {x : List Rat} (h : Hd w g [u]) (hu : SlQ w u x) : VLs w (.slice (some ⟨g, 0, none⟩) 1 c) [x] := by
 refine ⟨_, c, g, rfl, fun _ => ⟨rfl, h.lt⟩, fun i hi => ?_⟩
 obtain rfl : i = 0 := by simpa using hi
 exact ⟨u, h.cell 0 (by simp), hu⟩
theorem vls_two {w : World} {g c : Nat} {u v : Value} {x y : List Rat} (h : Hd w g [u, v]) (hu : SlQ w u x) (hv : SlQ w v y) : VLs w (.slice (some ⟨g, 0, none⟩) 2 c) [x, y] := by
 refine ⟨_, c, g, rfl, fun _ => ⟨rfl, h.lt⟩, fun i hi => ?_⟩
 rcases (by simp at hi; omega : i = 0 ∨ i = 1) with rfl | rfl
 ·exact ⟨u, h.cell 0 (by simp), hu⟩
 ·exact ⟨v, h.cell 1 (by simp), hv⟩
theorem qsk (l : List Rat) {k : Nat} (h : ∀ q ∈ l, Sz q k) (i : Nat) (hi : i < l.length) : Sz (gv l i) k := h _ (gv_mem hi)
theorem enadd : ∀ (args : Array Value) (w : World), (callFunc 55 args).run Tryz.prog w = .ok (.enter 55 args) w := enters_of Tryz.func55 (by kernel_rfl) rfl
theorem ensub : ∀ (args : Array Value) (w : World), (callFunc 56 args).run Tryz.prog w = .ok (.enter 56 args) w := enters_of Tryz.func56 (by kernel_rfl) rfl
theorem endot : ∀ (args : Array Value) (w : World), (callFunc 109 args).run Tryz.prog w = .ok (.enter 109 args) w := enters_of Tryz.func109 (by kernel_rfl) rfl
theorem enscale : ∀ (args : Array Value) (w : World), (callFunc 58 args).run Tryz.prog w = .ok (.enter 58 args) w := enters_of Tryz.func58 (by kernel_rfl) rfl
theorem enmax : ∀ (args : Array Value) (w : World), (callFunc 74 args).run Tryz.prog w = .ok (.enter 74 args) w := enters_of Tryz.func74 (by kernel_rfl) rfl
/-- The closure at an index, in each later world. -/
theorem vadd_at (x y : List Rat) (n k b1 b2 : Nat) (va vb : Value) (hx : x.length = n) (hy : y.length = n) (hk : k ≤ 1000000) (sx : ∀ q ∈ x, Sz q k) (sy : ∀ q ∈ y, Sz q k) (i : Nat) (hi : i < n) (w : World)
  (hw : SlQ w va x ∧ SlQ w vb y ∧ w.cell? ⟨b1, 0, none⟩ = some va ∧ w.cell? ⟨b2, 0, none⟩ = some vb) :
  Calls Tryz.prog 55 (#[.int .i64 (i : Int)] ++ #[.pointer (some ⟨b1, 0, none⟩), .pointer (some ⟨b2, 0, none⟩)]) w fun xe w' => xe = .returned (fracV (gv x i + gv y i)) ∧ Below w.heap.size w w' := by
 obtain ⟨h1, h2, h3, h4⟩ := hw
 obtain ⟨aa, ca, rfl⟩ := slq_form' h1
 obtain ⟨ab, cb, rfl⟩ := slq_form' h2
 obtain ⟨ga, rfl, -, f1⟩ := slq_at h1 i (by omega)
 obtain ⟨gb, rfl, -, f2⟩ := slq_at h2 i (by omega)
 obtain ⟨p0, p1, p2, p3, p4⟩ := fsc f1 i (by omega)
 obtain ⟨q0, q1, q2, q3, q4⟩ := fsc f2 i (by omega)
 exact vadd1_w i x.length y.length ca cb ga gb b1 b2 (gv x i) (gv y i) (gv x i + gv y i) (fun w => addF _ _ k (qsk x sx i (by omega)) (qsk y sy i (by omega)) (by omega) w) (by omega) (by omega) w h3 h4 p0 p1 p2 p3 p4 q0 q1 q2 q3 q4
set_option maxHeartbeats 4000000 in
set_option maxRecDepth 100000 in
theorem vaddV (x y : List Rat) (n k : Nat) (hx : x.length = n) (hy : y.length = n) (hn : n ≤ 2048) (hk : k ≤ 1000000) (sx : ∀ q ∈ x, Sz q k) (sy : ∀ q ∈ y, Sz q k) (va vb : Value) (w : World) (hv : SlQ w va x) (hu : SlQ w vb y) :
  Calls Tryz.prog 18 #[va, vb] w fun xe w' => ∃ u, xe = .returned (.tuple #[u, .int .i64 0]) ∧ NV w.heap.size (tabV n fun i => gv x i + gv y i) u w' ∧ Below w.heap.size w w' := by
 obtain ⟨aa, ca, rfl⟩ := slq_form' hv
 obtain ⟨ab, cb, rfl⟩ := slq_form' hu
 rw [hx] at hv ⊢
 rw [hy] at hu ⊢
 have HCl := fun b1 b2 => vadd_at x y n k b1 b2 (.slice aa n ca) (.slice ab n cb) hx hy hk sx sy
 have hL0 : GL w w [] := GL.start w
 replace hL0 := (hL0.new rfl [.slice aa n ca] 30).new (K := w.heap.size + 1) (szA _ _) [.slice ab n cb] 30
 generalize hweq : (w.alloc (.cells #[.slice aa n ca] 30)).alloc (.cells #[.slice ab n cb] 30) = x1 at hL0
 have hv1 := hv.below hL0.bl
 have hu1 := hu.below hL0.bl
 have hc1 := (hL0.get _ _ (List.mem_cons_of_mem _ List.mem_cons_self)).cell 0 (by simp)
 have hc2 := (hL0.get _ _ List.mem_cons_self).cell 0 (by simp)
 simp only [List.getElem_cons_zero] at hc1 hc2
 replace hL0 := hL0.new rfl [.slice aa n ca, .slice ab n cb] 30
 have hb2 : Below x1.heap.size x1 (x1.alloc (.cells #[.slice aa n ca, .slice ab n cb] 30)) := (Below.refl _ _).alloc (Nat.le_refl _) _
 generalize hweq2 : x1.alloc (.cells #[.slice aa n ca, .slice ab n cb] 30) = x2 at hL0 hb2
 have hv2 := hv1.below hb2
 have hu2 := hu1.below hb2
 have hd2 := keepsC hb2 hc1
 have hd3 := keepsC hb2 hc2
 have hvl := vls_two (c := 2) (hL0.get _ _ List.mem_cons_self) hv2 hu2
 have HC := vcombine_ok 55 #[.pointer (some ⟨w.heap.size, 0, none⟩), .pointer (some ⟨w.heap.size + 1, 0, none⟩)] enadd n (fun i => gv x i + gv y i) (fun w => SlQ w (.slice aa n ca) x ∧ SlQ w (.slice ab n cb) y ∧ w.cell? ⟨_, 0, none⟩ = some (.slice aa n ca) ∧ w.cell? ⟨_, 0, none⟩ = some (.slice ab n cb)) (Keeps.and (SlQ.keeps _ _) (Keeps.and (SlQ.keeps _ _) (Keeps.and (fun _ _ hb h => keepsC hb h) (fun _ _ hb h => keepsC hb h)))) (HCl _ _) [x, y] (by simp) (by simp) (by simp [hx, hy]) hn _ x2 ⟨hv2, hu2, hd2, hd3⟩ hvl
 replace HC := Lib.hid HC
 replace hL0 := Lib.hid hL0
 clear hv hu hv1 hu1 hv2 hu2 hvl hd2 hd3 hb2 HCl sx sy hx hy
 go_enter Tryz.func18, Tryz.ntmps18
 go_wp2_with fail
 with_reducible refine Calls.mono HC.out ?_
 rintro e y2 ⟨u, rfl, hnv, hb⟩
 replace hnv := Lib.hid (hnv.mono hL0.out.bl.size)
 replace hb := Lib.hid (hL0.out.bl.trans (hb.mono hL0.out.bl.size))
 obtain ⟨gu, rfl, -, -⟩ := id hnv.out
 clear hc1 hc2 hweq hweq2
 go_wp2_with fail
 exact bodyPost_ret (v := .tuple #[_, .int .i64 0]) (by simp [results, Tryz.results18, go_sem]) rfl ⟨_, rfl, hnv.out, hb.out⟩
/-- The closure at an index, in each later world. -/
theorem vsub_at (x y : List Rat) (n k b1 b2 : Nat) (va vb : Value) (hx : x.length = n) (hy : y.length = n) (hk : k ≤ 1000000) (sx : ∀ q ∈ x, Sz q k) (sy : ∀ q ∈ y, Sz q k) (i : Nat) (hi : i < n) (w : World)
  (hw : SlQ w va x ∧ SlQ w vb y ∧ w.cell? ⟨b1, 0, none⟩ = some va ∧ w.cell? ⟨b2, 0, none⟩ = some vb) :
  Calls Tryz.prog 56 (#[.int .i64 (i : Int)] ++ #[.pointer (some ⟨b1, 0, none⟩), .pointer (some ⟨b2, 0, none⟩)]) w fun xe w' => xe = .returned (fracV (gv x i - gv y i)) ∧ Below w.heap.size w w' := by
 obtain ⟨h1, h2, h3, h4⟩ := hw
 obtain ⟨aa, ca, rfl⟩ := slq_form' h1
 obtain ⟨ab, cb, rfl⟩ := slq_form' h2
 obtain ⟨ga, rfl, -, f1⟩ := slq_at h1 i (by omega)
 obtain ⟨gb, rfl, -, f2⟩ := slq_at h2 i (by omega)
 obtain ⟨p0, p1, p2, p3, p4⟩ := fsc f1 i (by omega)
 obtain ⟨q0, q1, q2, q3, q4⟩ := fsc f2 i (by omega)
 exact vsub1_w i x.length y.length ca cb ga gb b1 b2 (gv x i) (gv y i) (gv x i - gv y i) (fun w => subF _ _ k (qsk x sx i (by omega)) (qsk y sy i (by omega)) (by omega) w) (by omega) (by omega) w h3 h4 p0 p1 p2 p3 p4 q0 q1 q2 q3 q4
set_option maxHeartbeats 4000000 in
set_option maxRecDepth 100000 in
theorem vsubV (x y : List Rat) (n k : Nat) (hx : x.length = n) (hy : y.length = n) (hn : n ≤ 2048) (hk : k ≤ 1000000) (sx : ∀ q ∈ x, Sz q k) (sy : ∀ q ∈ y, Sz q k) (va vb : Value) (w : World) (hv : SlQ w va x) (hu : SlQ w vb y) :
  Calls Tryz.prog 19 #[va, vb] w fun xe w' => ∃ u, xe = .returned (.tuple #[u, .int .i64 0]) ∧ NV w.heap.size (tabV n fun i => gv x i - gv y i) u w' ∧ Below w.heap.size w w' := by
 obtain ⟨aa, ca, rfl⟩ := slq_form' hv
 obtain ⟨ab, cb, rfl⟩ := slq_form' hu
 rw [hx] at hv ⊢
 rw [hy] at hu ⊢
 have HCl := fun b1 b2 => vsub_at x y n k b1 b2 (.slice aa n ca) (.slice ab n cb) hx hy hk sx sy
 have hL0 : GL w w [] := GL.start w
 replace hL0 := (hL0.new rfl [.slice aa n ca] 30).new (K := w.heap.size + 1) (szA _ _) [.slice ab n cb] 30
 generalize hweq : (w.alloc (.cells #[.slice aa n ca] 30)).alloc (.cells #[.slice ab n cb] 30) = x1 at hL0
 have hv1 := hv.below hL0.bl
 have hu1 := hu.below hL0.bl
 have hc1 := (hL0.get _ _ (List.mem_cons_of_mem _ List.mem_cons_self)).cell 0 (by simp)
 have hc2 := (hL0.get _ _ List.mem_cons_self).cell 0 (by simp)
 simp only [List.getElem_cons_zero] at hc1 hc2
 replace hL0 := hL0.new rfl [.slice aa n ca, .slice ab n cb] 30
 have hb2 : Below x1.heap.size x1 (x1.alloc (.cells #[.slice aa n ca, .slice ab n cb] 30)) := (Below.refl _ _).alloc (Nat.le_refl _) _
 generalize hweq2 : x1.alloc (.cells #[.slice aa n ca, .slice ab n cb] 30) = x2 at hL0 hb2
 have hv2 := hv1.below hb2
 have hu2 := hu1.below hb2
 have hd2 := keepsC hb2 hc1
 have hd3 := keepsC hb2 hc2
 have hvl := vls_two (c := 2) (hL0.get _ _ List.mem_cons_self) hv2 hu2
 have HC := vcombine_ok 56 #[.pointer (some ⟨w.heap.size, 0, none⟩), .pointer (some ⟨w.heap.size + 1, 0, none⟩)] ensub n (fun i => gv x i - gv y i) (fun w => SlQ w (.slice aa n ca) x ∧ SlQ w (.slice ab n cb) y ∧ w.cell? ⟨_, 0, none⟩ = some (.slice aa n ca) ∧ w.cell? ⟨_, 0, none⟩ = some (.slice ab n cb)) (Keeps.and (SlQ.keeps _ _) (Keeps.and (SlQ.keeps _ _) (Keeps.and (fun _ _ hb h => keepsC hb h) (fun _ _ hb h => keepsC hb h)))) (HCl _ _) [x, y] (by simp) (by simp) (by simp [hx, hy]) hn _ x2 ⟨hv2, hu2, hd2, hd3⟩ hvl
 replace HC := Lib.hid HC
 replace hL0 := Lib.hid hL0
 clear hv hu hv1 hu1 hv2 hu2 hvl hd2 hd3 hb2 HCl sx sy hx hy
 go_enter Tryz.func19, Tryz.ntmps19
 go_wp2_with fail
 with_reducible refine Calls.mono HC.out ?_
 rintro e y2 ⟨u, rfl, hnv, hb⟩
 replace hnv := Lib.hid (hnv.mono hL0.out.bl.size)
 replace hb := Lib.hid (hL0.out.bl.trans (hb.mono hL0.out.bl.size))
 obtain ⟨gu, rfl, -, -⟩ := id hnv.out
 clear hc1 hc2 hweq hweq2
 go_wp2_with fail
 exact bodyPost_ret (v := .tuple #[_, .int .i64 0]) (by simp [results, Tryz.results19, go_sem]) rfl ⟨_, rfl, hnv.out, hb.out⟩
/-- A fraction in a box. -/
def Bq (w : World) (b : Nat) (q : Rat) : Prop := w.cell? ⟨b, 0, none⟩ = some (.int .u64 ((zl q.num : Nat) : Int)) ∧ w.cell? ⟨b, 1, none⟩ = some (.string (zh q.num)) ∧ w.cell? ⟨b, 2, none⟩ = some (.bool (zs q.num)) ∧ w.cell? ⟨b, 3, none⟩ = some (.int .u64 ((lo (fe q) : Nat) : Int)) ∧ w.cell? ⟨b, 4, none⟩ = some (.string (hs (fe q)))
theorem Bq.keeps (b : Nat) (q : Rat) : Keeps fun w => Bq w b q := fun _ _ hb h => ⟨keepsC hb h.1, keepsC hb h.2.1, keepsC hb h.2.2.1, keepsC hb h.2.2.2.1, keepsC hb h.2.2.2.2⟩
theorem Bq.of {w : World} {b : Nat} {q : Rat} (h : Hd w b [.int .u64 ((zl q.num : Nat) : Int), .string (zh q.num), .bool (zs q.num), .int .u64 ((lo (fe q) : Nat) : Int), .string (hs (fe q))]) : Bq w b q :=
 ⟨h.cell 0 (by simp), h.cell 1 (by simp), h.cell 2 (by simp), h.cell 3 (by simp), h.cell 4 (by simp)⟩
theorem keepsB (a : Addr) (v : Value) : Keeps fun w => w.cell? a = some v := fun _ _ hb h => keepsC hb h
theorem vscale_at (c : Rat) (y : List Rat) (n k b1 b2 : Nat) (vb : Value) (hy : y.length = n) (hk : k ≤ 1000000) (sc : Sz c k) (sy : ∀ q ∈ y, Sz q k) (i : Nat) (hi : i < n) (w : World)
  (hw : Bq w b1 c ∧ SlQ w vb y ∧ w.cell? ⟨b2, 0, none⟩ = some vb) :
  Calls Tryz.prog 58 (#[.int .i64 (i : Int)] ++ #[.pointer (some ⟨b1, 0, none⟩), .pointer (some ⟨b2, 0, none⟩)]) w fun xe w' => xe = .returned (fracV (c * gv y i)) ∧ Below w.heap.size w w' := by
 obtain ⟨⟨p0, p1, p2, p3, p4⟩, h2, h4⟩ := hw
 obtain ⟨ab, cb, rfl⟩ := slq_form' h2
 obtain ⟨gb, rfl, -, f2⟩ := slq_at h2 i (by omega)
 obtain ⟨q0, q1, q2, q3, q4⟩ := fsc f2 i (by omega)
 exact vscale1_w i y.length cb gb b1 b2 c (gv y i) (c * gv y i) (fun w => mulF _ _ k sc (qsk y sy i (by omega)) (by omega) w) (by omega) w p0 p1 p2 p3 p4 h4 q0 q1 q2 q3 q4
set_option maxHeartbeats 4000000 in
set_option maxRecDepth 100000 in
theorem vscaleV (c : Rat) (y : List Rat) (n k : Nat) (hy : y.length = n) (hn : n ≤ 2048) (hk : k ≤ 1000000) (sc : Sz c k) (sy : ∀ q ∈ y, Sz q k) (vb : Value) (w : World) (hu : SlQ w vb y) :
  Calls Tryz.prog 20 #[fracV c, vb] w fun xe w' => ∃ u, xe = .returned (.tuple #[u, .int .i64 0]) ∧ NV w.heap.size (tabV n fun i => c * gv y i) u w' ∧ Below w.heap.size w w' := by
 obtain ⟨ab, cb, rfl⟩ := slq_form' hu
 rw [hy] at hu ⊢
 have HCl := fun b1 b2 => vscale_at c y n k b1 b2 (.slice ab n cb) hy hk sc sy
 have hL0 : GL w w [] := GL.start w
 replace hL0 := ((hL0.new rfl [.int .u64 ((zl c.num : Nat) : Int), .string (zh c.num), .bool (zs c.num), .int .u64 ((lo (fe c) : Nat) : Int), .string (hs (fe c))] 38).new (K := w.heap.size + 1) (szA _ _) [.slice ab n cb] 30)
 generalize hweq : ((w.alloc (.cells #[.int .u64 ((zl c.num : Nat) : Int), .string (zh c.num), .bool (zs c.num), .int .u64 ((lo (fe c) : Nat) : Int), .string (hs (fe c))] 38)).alloc (.cells #[.slice ab n cb] 30)) = x1 at hL0
 have hu1 := hu.below hL0.bl
 have hc2 := (hL0.get _ _ List.mem_cons_self).cell 0 (by simp)
 simp only [List.getElem_cons_zero, List.getElem_cons_succ] at hc2
 have hB := Bq.of (hL0.get _ _ (List.mem_cons_of_mem _ List.mem_cons_self))
 have hb2 : Below x1.heap.size x1 (x1.alloc (.cells #[.slice ab n cb] 30)) := (Below.refl _ _).alloc (Nat.le_refl _) _
 replace hL0 := (hL0.new rfl [.slice ab n cb] 30)
 generalize hweq2 : (x1.alloc (.cells #[.slice ab n cb] 30)) = x2 at hL0
 rw [hweq2] at hb2
 have hu2 := hu1.below hb2
 have hd3 := keepsC hb2 hc2
 have hvl := vls_one (c := 1) (hL0.get _ _ List.mem_cons_self) hu2
 have HC := vcombine_ok 58 #[.pointer (some ⟨w.heap.size, 0, none⟩), .pointer (some ⟨w.heap.size + 1, 0, none⟩)] enscale n (fun i => c * gv y i) (fun w => Bq w _ c ∧ SlQ w (.slice ab n cb) y ∧ w.cell? ⟨_, 0, none⟩ = some (.slice ab n cb)) (Keeps.and (Bq.keeps _ _) (Keeps.and (SlQ.keeps _ _) (keepsB _ _))) (HCl _ _) [y] (by simp) (by simp) (by simp [hy]) hn _ x2 ⟨Bq.keeps _ _ _ _ hb2 hB, hu2, hd3⟩ hvl
 have hN := (hL0.get _ _ (List.mem_cons_of_mem _ List.mem_cons_self)).cell
 replace HC := Lib.hid HC
 replace hL0 := Lib.hid hL0
 clear hu hu1 hu2 hvl hd3 hb2 HCl sy hy hB hN sc
 go_enter Tryz.func20, Tryz.ntmps20
 go_wp2_with fail
 with_reducible refine Calls.mono HC.out ?_
 rintro e y2 ⟨u, rfl, hnv, hb⟩
 replace hnv := Lib.hid (hnv.mono hL0.out.bl.size)
 replace hb := Lib.hid (hL0.out.bl.trans (hb.mono hL0.out.bl.size))
 obtain ⟨gu, rfl, -, -⟩ := id hnv.out
 clear hweq hweq2 hc2
 go_wp2_with fail
 exact bodyPost_ret (v := .tuple #[_, .int .i64 0]) (by simp [results, Tryz.results20, go_sem]) rfl ⟨_, rfl, hnv.out, hb.out⟩
end Go.Proofs.YtoahpkelajimfaaGreatDoor
namespace Go.Proofs.YtoahpkelajimfaaGreatDoor
open Go.RowKit
attribute [local irreducible] lo hs sm s64 c64 d64 b64 mh ml pd pc qd qc val hiB str cmpI srD lz nb zl zh zs fe rowV tabV gv bsV mxV
theorem vdot_at (x y : List Rat) (n k b1 b2 : Nat) (va vb : Value) (hx : x.length = n) (hy : y.length = n) (hk : k ≤ 1000000) (sx : ∀ q ∈ x, Sz q k) (sy : ∀ q ∈ y, Sz q k) (i : Nat) (hi : i < n) (w : World)
  (hw : SlQ w va x ∧ SlQ w vb y ∧ w.cell? ⟨b1, 0, none⟩ = some va ∧ w.cell? ⟨b2, 0, none⟩ = some vb) :
  Calls Tryz.prog 109 (#[.int .i64 (i : Int)] ++ #[.pointer (some ⟨b1, 0, none⟩), .pointer (some ⟨b2, 0, none⟩)]) w fun xe w' => xe = .returned (fracV (gv x i * gv y i)) ∧ Below w.heap.size w w' := by
 obtain ⟨h1, h2, h3, h4⟩ := hw
 obtain ⟨aa, ca, rfl⟩ := slq_form' h1
 obtain ⟨ab, cb, rfl⟩ := slq_form' h2
 obtain ⟨ga, rfl, -, f1⟩ := slq_at h1 i (by omega)
 obtain ⟨gb, rfl, -, f2⟩ := slq_at h2 i (by omega)
 obtain ⟨p0, p1, p2, p3, p4⟩ := fsc f1 i (by omega)
 obtain ⟨q0, q1, q2, q3, q4⟩ := fsc f2 i (by omega)
 exact vdot1_w i x.length y.length ca cb ga gb b1 b2 (gv x i) (gv y i) (gv x i * gv y i) (fun w => mulF _ _ k (qsk x sx i (by omega)) (qsk y sy i (by omega)) (by omega) w) (by omega) (by omega) w h3 h4 p0 p1 p2 p3 p4 q0 q1 q2 q3 q4
theorem sum_tab (n k : Nat) (f : Nat → Rat) (hn : n ≤ 1000) (hk : k ≤ 10) (hf : ∀ i, i < n → Sz (f i) k) (v : Value) (w : World) (h : SlQ w v (tabV n f)) :
  Calls Tryz.prog 88 #[v] w fun xe w' => xe = .returned (fracV (bsV n f)) ∧ Below w.heap.size w w' := by
 obtain ⟨ao, c, rfl⟩ := slq_form' h
 have := sumF ao (tabV n f).length c (tabV n f) k hk (by rw [tabV_len]; exact hn) (tab_all hf) w h
 rwa [qsum_tab] at this
set_option maxHeartbeats 4000000 in
set_option maxRecDepth 100000 in
theorem vdotS (x y : List Rat) (n k : Nat) (hx : x.length = n) (hy : y.length = n) (hn : n ≤ 1000) (hk : k ≤ 5) (sx : ∀ q ∈ x, Sz q k) (sy : ∀ q ∈ y, Sz q k) (va vb : Value) (w : World) (hv : SlQ w va x) (hu : SlQ w vb y) :
  Calls Tryz.prog 64 #[va, vb] w fun xe w' => xe = .returned (fracV (bsV n fun i => gv x i * gv y i)) ∧ Below w.heap.size w w' := by
 obtain ⟨aa, ca, rfl⟩ := slq_form' hv
 obtain ⟨ab, cb, rfl⟩ := slq_form' hu
 rw [hx] at hv ⊢
 rw [hy] at hu ⊢
 have HCl := fun b1 b2 => vdot_at x y n k b1 b2 (.slice aa n ca) (.slice ab n cb) hx hy (by omega) sx sy
 have HS := Lib.hid (fun v w h => sum_tab n (k + k) (fun i => gv x i * gv y i) hn (by omega) (fun i hi => (qsk x sx i (by omega)).mul (qsk y sy i (by omega))) v w h)
 generalize bsV n (fun i => gv x i * gv y i) = r at *
 have hL0 : GL w w [] := GL.start w
 replace hL0 := (((hL0.new rfl [.slice aa n ca] 30).new (K := w.heap.size + 1) (szA _ _) [.slice ab n cb] 30).new (K := w.heap.size + 1 + 1) (by simp only [World.size_alloc]) [.int .u64 0, .string ⟨#[]⟩, .bool false, .int .u64 0, .string ⟨#[]⟩] 38)
 generalize hweq : (((w.alloc (.cells #[.slice aa n ca] 30)).alloc (.cells #[.slice ab n cb] 30)).alloc (.cells #[.int .u64 0, .string ⟨#[]⟩, .bool false, .int .u64 0, .string ⟨#[]⟩] 38)) = x1 at hL0
 have hv1 := hv.below hL0.bl
 have hu1 := hu.below hL0.bl
 have hc1 := (hL0.get _ _ (List.mem_cons_of_mem _ (List.mem_cons_of_mem _ List.mem_cons_self))).cell 0 (by simp)
 simp only [List.getElem_cons_zero, List.getElem_cons_succ] at hc1
 have hc2 := (hL0.get _ _ (List.mem_cons_of_mem _ List.mem_cons_self)).cell 0 (by simp)
 simp only [List.getElem_cons_zero, List.getElem_cons_succ] at hc2
 have HC := veach_w 109 #[.pointer (some ⟨w.heap.size, 0, none⟩), .pointer (some ⟨w.heap.size + 1, 0, none⟩)] endot n (fun i => gv x i * gv y i) (fun w => SlQ w (.slice aa n ca) x ∧ SlQ w (.slice ab n cb) y ∧ w.cell? ⟨_, 0, none⟩ = some (.slice aa n ca) ∧ w.cell? ⟨_, 0, none⟩ = some (.slice ab n cb)) (Keeps.and (SlQ.keeps _ _) (Keeps.and (SlQ.keeps _ _) (Keeps.and (keepsB _ _) (keepsB _ _)))) (HCl _ _) (by omega) x1 ⟨hv1, hu1, hc1, hc2⟩
 replace HC := Lib.hid HC
 clear hv hu hv1 hu1 HCl sx sy hx hy
 go_enter Tryz.func64, Tryz.ntmps64
 go_wp2_with fail
 with_reducible refine Calls.mono HC.out ?_
 rintro e y1 ⟨u, rfl, hnv, hb⟩
 replace hL0 := hL0.call hb
 clear hb hc1 hc2 hweq
 have hsl := Lib.hid hnv.slq
 obtain ⟨gu, rfl, -, -⟩ := hnv
 go_wp2_with fail
 with_reducible refine Calls.mono (HS.out _ _ hsl.out) ?_
 rintro e y2 ⟨rfl, hb⟩
 replace hL0 := hL0.call hb
 clear hb hsl
 have hA := hL0.fc
 simp only [fcG, cellsF, neK, and_true, ne_eq, Nat.zero_add, Nat.reduceAdd] at hA
 have hPt := hL0.put 0 (w.heap.size + 1 + 1) _ rfl [.int .u64 ((zl r.num : Nat) : Int), .string (zh r.num), .bool (zs r.num), .int .u64 ((lo (fe r) : Nat) : Int), .string (hs (fe r))] rfl
 simp only [setAll, List.set_cons_zero, List.set_cons_succ] at hPt
 generalize hput1 : (((((y2.setCell ⟨w.heap.size + 1 + 1, 0, none⟩ (.int .u64 ((zl r.num : Nat) : Int))).setCell ⟨w.heap.size + 1 + 1, 1, none⟩ (.string (zh r.num))).setCell ⟨w.heap.size + 1 + 1, 2, none⟩ (.bool (zs r.num))).setCell ⟨w.heap.size + 1 + 1, 3, none⟩ (.int .u64 ((lo (fe r) : Nat) : Int))).setCell ⟨w.heap.size + 1 + 1, 4, none⟩ (.string (hs (fe r)))) = y3 at hPt
 have hB1 := hPt.fc
 simp only [fcG, cellsF, neK, and_true, ne_eq, Nat.zero_add, Nat.reduceAdd] at hB1
 go_wp2_with fail
 exact bodyPost_ret (v := fracV r) (by simp [results, Tryz.results64, go_sem, hB1]) rfl ⟨rfl, hPt.bl⟩
theorem vmax_at (x : List Rat) (n b1 : Nat) (va : Value) (hx : x.length = n) (i : Nat) (hi : i < n) (w : World)
  (hw : SlQ w va x ∧ w.cell? ⟨b1, 0, none⟩ = some va) :
  Calls Tryz.prog 74 (#[.int .i64 (i : Int)] ++ #[.pointer (some ⟨b1, 0, none⟩)]) w fun xe w' => xe = .returned (fracV (absQ (gv x i))) ∧ Below w.heap.size w w' := by
 obtain ⟨h1, h3⟩ := hw
 obtain ⟨aa, ca, rfl⟩ := slq_form' h1
 obtain ⟨ga, rfl, -, f1⟩ := slq_at h1 i (by omega)
 obtain ⟨p0, p1, p2, p3, p4⟩ := fsc f1 i (by omega)
 exact vmax1_w i x.length ca ga b1 (gv x i) (absQ (gv x i)) (fun w => absF _ w) (by omega) w h3 p0 p1 p2 p3 p4
theorem abs_tab (x : List Rat) : tabV x.length (fun i => absQ (gv x i)) = x.map absQ := by
 apply List.ext_getElem (by rw [tabV_len, List.length_map])
 intro i h1 h2
 rw [tabV_get, List.getElem_map, gv_get]
theorem max_tab (x : List Rat) (n k : Nat) (hx : x.length = n) (hn : n ≤ 100000) (hk : k ≤ 1000000) (sx : ∀ q ∈ x, Sz q k) (v : Value) (w : World) (h : SlQ w v (tabV n fun i => absQ (gv x i))) :
  Calls Tryz.prog 72 #[v] w fun xe w' => xe = .returned (fracV (mxV x)) ∧ Below w.heap.size w w' := by
 subst hx
 rw [abs_tab] at h
 obtain ⟨ao, c, rfl⟩ := slq_form' h
 unfold mxV
 exact maxF ao _ c (x.map absQ) k (by omega) (by rw [List.length_map]; omega) (fun q hq => by obtain ⟨a, ha, rfl⟩ := List.mem_map.1 hq; exact absQ_szV (sx a ha)) w h
set_option maxHeartbeats 4000000 in
set_option maxRecDepth 100000 in
theorem vmaxV (x : List Rat) (n k : Nat) (hx : x.length = n) (hn : n ≤ 100000) (hk : k ≤ 1000000) (sx : ∀ q ∈ x, Sz q k) (va : Value) (w : World) (hv : SlQ w va x) :
  Calls Tryz.prog 30 #[va] w fun xe w' => xe = .returned (fracV (mxV x)) ∧ Below w.heap.size w w' := by
 obtain ⟨aa, ca, rfl⟩ := slq_form' hv
 rw [hx] at hv ⊢
 have HCl := fun b1 => vmax_at x n b1 (.slice aa n ca) hx
 have HS := Lib.hid (fun v w h => max_tab x n k hx hn hk sx v w h)
 generalize mxV x = r at *
 have hL0 : GL w w [] := GL.start w
 replace hL0 := ((hL0.new rfl [.slice aa n ca] 30).new (K := w.heap.size + 1) (szA _ _) [.int .u64 0, .string ⟨#[]⟩, .bool false, .int .u64 0, .string ⟨#[]⟩] 38)
 generalize hweq : ((w.alloc (.cells #[.slice aa n ca] 30)).alloc (.cells #[.int .u64 0, .string ⟨#[]⟩, .bool false, .int .u64 0, .string ⟨#[]⟩] 38)) = x1 at hL0
 have hv1 := hv.below hL0.bl
 have hc1 := (hL0.get _ _ (List.mem_cons_of_mem _ List.mem_cons_self)).cell 0 (by simp)
 simp only [List.getElem_cons_zero, List.getElem_cons_succ] at hc1
 have HC := veach_w 74 #[.pointer (some ⟨w.heap.size, 0, none⟩)] enmax n (fun i => absQ (gv x i)) (fun w => SlQ w (.slice aa n ca) x ∧ w.cell? ⟨_, 0, none⟩ = some (.slice aa n ca)) (Keeps.and (SlQ.keeps _ _) (keepsB _ _)) (HCl _) hn x1 ⟨hv1, hc1⟩
 replace HC := Lib.hid HC
 clear hv hv1 HCl sx hx
 go_enter Tryz.func30, Tryz.ntmps30
 go_wp2_with fail
 with_reducible refine Calls.mono HC.out ?_
 rintro e y1 ⟨u, rfl, hnv, hb⟩
 replace hL0 := hL0.call hb
 clear hb hc1 hweq
 have hsl := Lib.hid hnv.slq
 obtain ⟨gu, rfl, -, -⟩ := hnv
 go_wp2_with fail
 with_reducible refine Calls.mono (HS.out _ _ hsl.out) ?_
 rintro e y2 ⟨rfl, hb⟩
 replace hL0 := hL0.call hb
 clear hb hsl
 have hA := hL0.fc
 simp only [fcG, cellsF, neK, and_true, ne_eq, Nat.zero_add, Nat.reduceAdd] at hA
 have hPt := hL0.put 0 (w.heap.size + 1) _ rfl [.int .u64 ((zl r.num : Nat) : Int), .string (zh r.num), .bool (zs r.num), .int .u64 ((lo (fe r) : Nat) : Int), .string (hs (fe r))] rfl
 simp only [setAll, List.set_cons_zero, List.set_cons_succ] at hPt
 generalize hput1 : (((((y2.setCell ⟨w.heap.size + 1, 0, none⟩ (.int .u64 ((zl r.num : Nat) : Int))).setCell ⟨w.heap.size + 1, 1, none⟩ (.string (zh r.num))).setCell ⟨w.heap.size + 1, 2, none⟩ (.bool (zs r.num))).setCell ⟨w.heap.size + 1, 3, none⟩ (.int .u64 ((lo (fe r) : Nat) : Int))).setCell ⟨w.heap.size + 1, 4, none⟩ (.string (hs (fe r)))) = y3 at hPt
 have hB1 := hPt.fc
 simp only [fcG, cellsF, neK, and_true, ne_eq, Nat.zero_add, Nat.reduceAdd] at hB1
 go_wp2_with fail
 exact bodyPost_ret (v := fracV r) (by simp [results, Tryz.results30, go_sem, hB1]) rfl ⟨rfl, hPt.bl⟩
end Go.Proofs.YtoahpkelajimfaaGreatDoor
namespace Go.Proofs.YtoahpkelajimfaaGreatDoor
open Go.RowKit
attribute [local irreducible] lo hs sm s64 c64 d64 b64 mh ml pd pc qd qc val hiB str cmpI srD lz nb zl zh zs
theorem ne_fr {p q : Rat} (h : p ≠ q) : (((zl p.num : Nat) : Int) == ((zl q.num : Nat) : Int)) = false ∨
  ((((zl p.num : Nat) : Int) == ((zl q.num : Nat) : Int)) = true ∧ ((zh p.num).toList == (zh q.num).toList) = false) ∨
  ((((zl p.num : Nat) : Int) == ((zl q.num : Nat) : Int)) = true ∧ ((zh p.num).toList == (zh q.num).toList) = true ∧ (zs p.num == zs q.num) = false) ∨
  ((((zl p.num : Nat) : Int) == ((zl q.num : Nat) : Int)) = true ∧ ((zh p.num).toList == (zh q.num).toList) = true ∧ (zs p.num == zs q.num) = true ∧ (((lo (fe p) : Nat) : Int) == ((lo (fe q) : Nat) : Int)) = false) ∨
  ((((zl p.num : Nat) : Int) == ((zl q.num : Nat) : Int)) = true ∧ ((zh p.num).toList == (zh q.num).toList) = true ∧ (zs p.num == zs q.num) = true ∧ (((lo (fe p) : Nat) : Int) == ((lo (fe q) : Nat) : Int)) = true ∧ ((hs (fe p)).toList == (hs (fe q)).toList) = false) := by
 by_cases hn : p.num = q.num
 ·have he : fe p ≠ fe q := fun e => h (fracV_inj (by unfold fracV; rw [hn, e]))
  rw [hn]
  rcases ne_nat he with h1 | ⟨h1, h2⟩
  ·exact .inr (.inr (.inr (.inl ⟨by simp, by simp, by simp, h1⟩)))
  ·exact .inr (.inr (.inr (.inr ⟨by simp, by simp, by simp, h1, h2⟩)))
 ·rcases ne_int hn with h1 | h1 | h1
  ·exact .inl h1
  ·exact .inr (.inl h1)
  ·exact .inr (.inr (.inl h1))
/-- What == sees of two fractions, as they are the same or not. -/
theorem same_fr {p q : Rat} {y : Bool} (hy : y = decide (p = q)) : (((((zl p.num : Nat) : Int) == ((zl q.num : Nat) : Int)) = true ∧ ((zh p.num).toList == (zh q.num).toList) = true ∧ (zs p.num == zs q.num) = true ∧ (((lo (fe p) : Nat) : Int) == ((lo (fe q) : Nat) : Int)) = true ∧ ((hs (fe p)).toList == (hs (fe q)).toList) = true) ∧ y = true) ∨
  (((((zl p.num : Nat) : Int) == ((zl q.num : Nat) : Int)) = false) ∧ y = false) ∨
  (((((zl p.num : Nat) : Int) == ((zl q.num : Nat) : Int)) = true ∧ ((zh p.num).toList == (zh q.num).toList) = false) ∧ y = false) ∨
  (((((zl p.num : Nat) : Int) == ((zl q.num : Nat) : Int)) = true ∧ ((zh p.num).toList == (zh q.num).toList) = true ∧ (zs p.num == zs q.num) = false) ∧ y = false) ∨
  (((((zl p.num : Nat) : Int) == ((zl q.num : Nat) : Int)) = true ∧ ((zh p.num).toList == (zh q.num).toList) = true ∧ (zs p.num == zs q.num) = true ∧ (((lo (fe p) : Nat) : Int) == ((lo (fe q) : Nat) : Int)) = false) ∧ y = false) ∨
  (((((zl p.num : Nat) : Int) == ((zl q.num : Nat) : Int)) = true ∧ ((zh p.num).toList == (zh q.num).toList) = true ∧ (zs p.num == zs q.num) = true ∧ (((lo (fe p) : Nat) : Int) == ((lo (fe q) : Nat) : Int)) = true ∧ ((hs (fe p)).toList == (hs (fe q)).toList) = false) ∧ y = false) := by
 subst hy
 by_cases h : p = q
 ·subst h
  exact .inl ⟨⟨by simp, by simp, by simp, by simp, by simp⟩, decide_eq_true rfl⟩
 ·have hd := decide_eq_false h
  rcases ne_fr h with h1 | h1 | h1 | h1 | h1
  ·exact .inr (.inl ⟨h1, hd⟩)
  ·exact .inr (.inr (.inl ⟨h1, hd⟩))
  ·exact .inr (.inr (.inr (.inl ⟨h1, hd⟩)))
  ·exact .inr (.inr (.inr (.inr (.inl ⟨h1, hd⟩))))
  ·exact .inr (.inr (.inr (.inr (.inr ⟨h1, hd⟩))))
end Go.Proofs.YtoahpkelajimfaaGreatDoor
namespace Go.Proofs.YtoahpkelajimfaaGreatDoor
open Go.RowKit
attribute [local irreducible] lo hs sm s64 c64 d64 b64 mh ml pd pc qd qc val hiB str cmpI srD lz nb zl zh zs fe rowV tabV gv bsV mxV
theorem run_neqF (p q : Rat) (y : Bool) (hy : y = decide (p = q)) (W : World) : (binOp .neq 38 (fracV p) (fracV q)).run Tryz.prog W = .ok (.bool (!y)) W := by
 rcases same_fr hy with hz | hz | hz | hz | hz | hz <;> simp [go_sem, hz]
set_option maxHeartbeats 4000000 in
set_option maxRecDepth 100000 in
theorem vequal_w (x y : List Rat) (n m c d : Nat) (ao bo : Option Addr) (hx : x.length = n) (hy : y.length = m) (hn : n ≤ 100000) (w : World) (h1 : 0 < n → ∃ g, ao = some ⟨g, 0, none⟩ ∧ FS w g x) (h2 : 0 < m → ∃ g, bo = some ⟨g, 0, none⟩ ∧ FS w g y) (b : Bool) (hb : b = decide (x = y)) :
  Calls Tryz.prog 78 #[.slice ao n c, .slice bo m d] w fun xe w' => xe = .returned (.bool b) ∧ Below w.heap.size w w' := by
 replace h1 := Lib.hid h1
 replace h2 := Lib.hid h2
 replace hb := Lib.hid hb
 replace hx := Lib.hid hx
 replace hy := Lib.hid hy
 by_cases hnm : n = m
 ·subst hnm
  go_enter Tryz.func78, Tryz.ntmps78
  go_wp2_with fail
  go_loopg [13] n (fun gk iv wr => ∃ (i : Nat) (zi : Int), i + gk = n ∧ iv = .int .i64 zi ∧ zi = (i : Int) ∧ (∀ j, j < i → gv x j = gv y j) ∧ Below w.heap.size w wr)
  case atStart => exact ⟨0, 0, Nat.zero_add n, by first | rfl | go_num, rfl, fun j h => absurd h (Nat.not_lt_zero _), Below.refl _ _⟩
  case round =>
   obtain ⟨i, zi, hik, rfl, hzi, hall, hB⟩ := hrel
   replace hall := Lib.hid hall
   rcases Nat.lt_or_ge i n with hin | hin
   ·subst hzi
    obtain ⟨g, rfl, f1⟩ := h1.out (by omega)
    obtain ⟨g2, rfl, f2⟩ := h2.out (by omega)
    have k1 : (i : Int) < (n : Int) := by omega
    have k0 : (0 : Int) ≤ (i : Int) := Int.natCast_nonneg _
    have kb : (i : Int) ≤ 100000 := by omega
    obtain ⟨p, hp⟩ : ∃ p, p = gv x i := ⟨_, rfl⟩
    obtain ⟨q, hq⟩ : ∃ q, q = gv y i := ⟨_, rfl⟩
    have hp9 := fsc (f1.below hB) i (by rw [hx.out]; exact hin)
    have hq9 := fsc (f2.below hB) i (by rw [hy.out]; exact hin)
    rw [← hp] at hp9
    rw [← hq] at hq9
    obtain ⟨t, ht⟩ : ∃ t, t = decide (p = q) := ⟨_, rfl⟩
    have hne := fun W => run_neqF p q t ht W
    replace ht := Lib.hid ht
    replace hp := Lib.hid hp
    replace hq := Lib.hid hq
    go_upto_region 6 with fail
    obtain ⟨α, iα, F, hF1, hF2⟩ := cls wr
    obtain ⟨a0, a1, a2, a3, a4⟩ := hp9
    obtain ⟨b0, b1, b2, b3, b4⟩ := hq9
    have p0 := fun yz => keepsC (hF1 yz) a0
    have r0 := fun yz => keepsC (hF1 yz) b0
    have p1 := fun yz => keepsC (hF1 yz) a1
    have r1 := fun yz => keepsC (hF1 yz) b1
    have p2 := fun yz => keepsC (hF1 yz) a2
    have r2 := fun yz => keepsC (hF1 yz) b2
    have p3 := fun yz => keepsC (hF1 yz) a3
    have r3 := fun yz => keepsC (hF1 yz) b3
    have p4 := fun yz => keepsC (hF1 yz) a4
    have r4 := fun yz => keepsC (hF1 yz) b4
    clear a0 a1 a2 a3 a4 b0 b1 b2 b3 b4
    cases t with
    | true =>
     refine region_cls (F := F) (by kernel_rfl) (lexB_of_fast (by kernel_rfl)) (cls_drew hF2) ?_
     repeat (go_big_quiet_step (first | fail))
     refine wpQuiet_nil ?_
     rintro wq ⟨xq, rfl⟩
     have hB2 := hB.trans ((hF1 xq).mono hB.size)
     clear p0 p1 p2 p3 p4 r0 r1 r2 r3 r4 hF2 hne
     generalize F xq = y2 at hB2 ⊢
     clear hF1 xq iα F α
     have hall2 := Lib.hid (show ∀ j, j < i + 1 → gv x j = gv y j from fun j h3 => by
      rcases Nat.lt_or_ge j i with h | h
      ·exact hall.out j h
      ·obtain rfl : j = i := by omega
       rw [← hp.out, ← hq.out]; exact of_decide_eq_true ht.out.symm)
     go_wp2_with fail
     go_roundg (gk - 1)
     case measure => omega
     case rel => exact ⟨i + 1, _, by omega, by first | rfl | go_num, by omega, hall2.out, hB2⟩
    | false =>
     have hbf : b = false := by
      rw [hb.out]
      refine decide_eq_false fun e => ?_
      have h1 := of_decide_eq_false ht.out.symm
      exact h1 (by rw [hp.out, hq.out, e])
     replace hbf := Lib.hid hbf
     refine region_cls (F := F) (by kernel_rfl) (lexB_of_fast (by kernel_rfl)) (cls_drew hF2) ?_
     repeat (go_big_quiet_step (first | fail))
     refine wpQuiet_nil ?_
     rintro wq ⟨xq, rfl⟩
     have hB2 := hB.trans ((hF1 xq).mono hB.size)
     clear p0 p1 p2 p3 p4 r0 r1 r2 r3 r4 hF2 hne
     generalize F xq = y2 at hB2 ⊢
     clear hF1 xq iα F α
     go_wp2_with fail
     go_ret
     exact ⟨by rw [hbf.out]; rfl, hB2⟩
   ·obtain rfl : i = n := by omega
    subst hzi
    have k1 : ¬ (i : Int) < (i : Int) := by omega
    have hbt : b = true := by
     rw [hb.out]
     refine decide_eq_true (List.ext_getElem (by rw [hx.out, hy.out]) fun j g1 g2 => ?_)
     rw [← gv_get g1, ← gv_get g2]
     exact hall.out j (by rw [hx.out] at g1; exact g1)
    replace hbt := Lib.hid hbt
    go_wp2_with fail
    go_ret
    exact ⟨by rw [hbt.out]; rfl, hB⟩
 ·have b1 : (((n : Nat) : Int) != ((m : Nat) : Int)) = true := by simp; omega
  have b2 : ¬ ((n : Nat) : Int) = ((m : Nat) : Int) := by omega
  have hbf : b = false := by
   rw [hb.out]
   exact decide_eq_false fun e => hnm (by rw [← hx.out, ← hy.out, e])
  replace hbf := Lib.hid hbf
  go_enter Tryz.func78, Tryz.ntmps78
  go_wp2_with fail
  go_ret
  exact ⟨by rw [hbf.out]; rfl, Below.refl _ _⟩
set_option maxHeartbeats 4000000 in
set_option maxRecDepth 100000 in
theorem vsameV (x y : List Rat) (hn : x.length ≤ 100000) (va vb : Value) (w : World) (hv : SlQ w va x) (hu : SlQ w vb y) :
  Calls Tryz.prog 32 #[va, vb] w fun xe w' => xe = .returned (.bool (decide (x = y))) ∧ Below w.heap.size w w' := by
 obtain ⟨ao, c, rfl, h1⟩ := slq_len hv
 obtain ⟨bo, d, rfl, h2⟩ := slq_len hu
 have HE := Lib.hid (vequal_w x y x.length y.length c d ao bo rfl rfl hn w h1 h2 _ rfl)
 clear h1 h2 hv hu
 generalize decide (x = y) = b at *
 generalize x.length = n at *
 generalize y.length = m at *
 go_enter Tryz.func32, Tryz.ntmps32
 go_wp2_with fail
 with_reducible refine Calls.mono HE.out ?_
 rintro e y1 ⟨rfl, hb⟩
 replace hb := Lib.hid hb
 go_wp2_with fail
 exact bodyPost_ret (v := .bool b) (by simp [results, Tryz.results32, go_sem]) rfl ⟨rfl, hb.out⟩
set_option maxHeartbeats 4000000 in
set_option maxRecDepth 100000 in
theorem vzero_ok (n : Nat) (hn : n ≤ 2048) (w : World) : Calls Tryz.prog 40 #[.int .i64 (n : Int)] w fun xe w' => ∃ u, xe = .returned (.tuple #[u, .int .i64 0]) ∧ NV w.heap.size (tabV n fun _ => 0) u w' ∧ Below w.heap.size w w' := by
 have hmk := fun W => makeV W (n : Int) n rfl (by omega)
 have hL0 : GL w w [] := GL.start w
 replace hL0 := hL0.new rfl (frCs (List.replicate n 0)) 38
 generalize hweq : w.alloc (.cells (frCs (List.replicate n 0)).toArray 38) = x1 at hL0
 have hNV : NV w.heap.size (tabV n fun _ => 0) (.slice (some ⟨w.heap.size, 0, none⟩) n n) x1 := ⟨w.heap.size, by rw [tabV_len], Nat.le_refl _, by rw [← rep_tab]; exact hL0.get _ _ List.mem_cons_self⟩
 replace hNV := Lib.hid hNV
 have k0 : (0 : Int) ≤ (n : Int) := Int.natCast_nonneg _
 have k1 : (n : Int) ≤ 2048 := by omega
 have k2 : ¬ (n : Int) < 0 := by omega
 go_enter Tryz.func40, Tryz.ntmps40
 go_wp2_with fail
 exact bodyPost_ret (v := .tuple #[_, .int .i64 0]) (by simp [results, Tryz.results40, go_sem]) rfl ⟨_, rfl, hNV.out, hL0.bl⟩
end Go.Proofs.YtoahpkelajimfaaGreatDoor
namespace Go.Proofs.YtoahpkelajimfaaGreatDoor
open Go.RowKit
attribute [local irreducible] lo hs sm s64 c64 d64 b64 mh ml pd pc qd qc val hiB str cmpI srD lz nb zl zh zs fe rowV tabV gv bsV mxV
/-- A slice of integers. -/
def ILs (w : World) (v : Value) (zs : List Int) : Prop := ∃ ao c g, v = .slice ao zs.length c ∧ (0 < zs.length → ao = some ⟨g, 0, none⟩ ∧ g < w.heap.size) ∧ ∀ i (h : i < zs.length), w.cell? ⟨g, i, none⟩ = some (.int .i64 (zs[i]'h))
theorem ILs.below {w w' : World} {v : Value} {zs : List Int} (h : ILs w v zs) (hb : Below w.heap.size w w') : ILs w' v zs := by
 obtain ⟨ao, c, g, h1, h2, h3⟩ := h
 exact ⟨ao, c, g, h1, fun h => ⟨(h2 h).1, Nat.lt_of_lt_of_le (h2 h).2 hb.size⟩, fun i hi => (hb.cell (p := ⟨g, i, none⟩) (h2 (by omega)).2).trans (h3 i hi)⟩
theorem ILs.keeps (v : Value) (zs : List Int) : Keeps (fun w => ILs w v zs) := fun _ _ hb h => h.below hb
set_option maxHeartbeats 4000000 in
set_option maxRecDepth 100000 in
theorem vDotV (x y : List Rat) (n k : Nat) (hx : x.length = n) (hy : y.length = n) (hn : n ≤ 1000) (hk : k ≤ 5) (sx : ∀ q ∈ x, Sz q k) (sy : ∀ q ∈ y, Sz q k) (va vb : Value) (w : World) (hv : SlQ w va x) (hu : SlQ w vb y) :
  Calls Tryz.prog 26 #[va, vb] w fun xe w' => xe = .returned (.tuple #[fracV (bsV n fun i => gv x i * gv y i), .int .i64 0]) ∧ Below w.heap.size w w' := by
 have HD := Lib.hid (fun w hv hu => vdotS x y n k hx hy hn hk sx sy va vb w hv hu)
 obtain ⟨aa, ca, rfl⟩ := slq_form' hv
 obtain ⟨ab, cb, rfl⟩ := slq_form' hu
 rw [hx] at hv HD ⊢
 rw [hy] at hu HD ⊢
 generalize bsV n (fun i => gv x i * gv y i) = r at *
 have hL0 : GL w w [] := GL.start w
 replace hL0 := (hL0.new rfl [.int .u64 0, .string ⟨#[]⟩, .bool false, .int .u64 0, .string ⟨#[]⟩] 38)
 generalize hweq : (w.alloc (.cells #[.int .u64 0, .string ⟨#[]⟩, .bool false, .int .u64 0, .string ⟨#[]⟩] 38)) = x1 at hL0
 have hv1 := hv.below hL0.bl
 have hu1 := hu.below hL0.bl
 replace hL0 := (hL0.new rfl [.slice aa n ca, .slice ab n cb] 30)
 generalize hweq2 : (x1.alloc (.cells #[.slice aa n ca, .slice ab n cb] 30)) = x2 at hL0
 have hb2 : Below x1.heap.size x1 x2 := hweq2 ▸ ((Below.refl _ _).alloc (Nat.le_refl _) _)
 have hv2 := hv1.below hb2
 have hu2 := hu1.below hb2
 have HF := Lib.hid (vfault_ok (L := [x, y]) (n := n) (by simp) (by simp [hx, hy]) (by omega) _ x2 (vls_two (c := 2) (hL0.get _ _ List.mem_cons_self) hv2 hu2))
 replace hv2 := Lib.hid hv2
 replace hu2 := Lib.hid hu2
 clear hv hu hv1 hu1 sx sy hb2
 go_enter Tryz.func26, Tryz.ntmps26
 go_wp2_with fail
 with_reducible refine Calls.mono HF.out ?_
 rintro e y1 ⟨rfl, hb⟩
 have hv3 := Lib.hid (hv2.out.below hb)
 have hu3 := Lib.hid (hu2.out.below hb)
 replace hL0 := hL0.call hb
 clear hb hweq hweq2 hv2 hu2 HF
 go_wp2_with fail
 with_reducible refine Calls.mono (HD.out _ hv3.out hu3.out) ?_
 rintro e y2 ⟨rfl, hb⟩
 replace hL0 := hL0.call hb
 clear hb hv3 hu3
 have hA := hL0.fc
 simp only [fcG, cellsF, neK, and_true, ne_eq, Nat.zero_add, Nat.reduceAdd] at hA
 have hPt := hL0.put 1 (w.heap.size) _ rfl [.int .u64 ((zl r.num : Nat) : Int), .string (zh r.num), .bool (zs r.num), .int .u64 ((lo (fe r) : Nat) : Int), .string (hs (fe r))] rfl
 simp only [setAll, List.set_cons_zero, List.set_cons_succ] at hPt
 generalize hput1 : (((((y2.setCell ⟨w.heap.size, 0, none⟩ (.int .u64 ((zl r.num : Nat) : Int))).setCell ⟨w.heap.size, 1, none⟩ (.string (zh r.num))).setCell ⟨w.heap.size, 2, none⟩ (.bool (zs r.num))).setCell ⟨w.heap.size, 3, none⟩ (.int .u64 ((lo (fe r) : Nat) : Int))).setCell ⟨w.heap.size, 4, none⟩ (.string (hs (fe r)))) = y3 at hPt
 have hB1 := hPt.fc
 simp only [fcG, cellsF, neK, and_true, ne_eq, Nat.zero_add, Nat.reduceAdd] at hB1
 go_wp2_with fail
 exact bodyPost_ret (v := .tuple #[fracV r, .int .i64 0]) (by simp [results, Tryz.results26, go_sem, hB1]) rfl ⟨rfl, hPt.bl⟩
end Go.Proofs.YtoahpkelajimfaaGreatDoor
namespace Go.Proofs.YtoahpkelajimfaaGreatDoor
open Go.RowKit
attribute [local irreducible] lo hs sm s64 c64 d64 b64 mh ml pd pc qd qc val hiB str cmpI srD lz nb zl zh zs
set_option maxHeartbeats 4000000 in
set_option maxRecDepth 100000 in
theorem qof_zero (n x c : Int) (f : Nat) (HF : RT 50 #[.int .i64 n, .int .i64 1] (.tuple #[frV x f, .int .i64 c])) (hmx : max (0 : Int) 1 = 1) (w : World) :
  Calls Tryz.prog 15 #[.agg #[.int .i64 n, .int .u32 0]] w fun xe w' => xe = .returned (frV x f) ∧ Below w.heap.size w w' := by
 have hL0 : GL w w [] := GL.start w
 replace HF := Lib.hid HF
 replace hL0 := ((hL0.new rfl [.int .i64 n, .int .u32 0] 24).new (K := w.heap.size + 1) (szA _ _) [.int .u64 0, .string ⟨#[]⟩, .bool false, .int .u64 0, .string ⟨#[]⟩] 38)
 generalize hweq : ((w.alloc (.cells #[.int .i64 n, .int .u32 0] 24)).alloc (.cells #[.int .u64 0, .string ⟨#[]⟩, .bool false, .int .u64 0, .string ⟨#[]⟩] 38)) = x1 at hL0
 go_enter Tryz.func15, Tryz.ntmps15
 have hN0 := cells_of _ 0 [] rfl (hL0.get _ _ (List.mem_cons_of_mem _ List.mem_cons_self))
 simp only [cellsF, and_true, Nat.zero_add, Nat.reduceAdd] at hN0
 go_wp2_with fail
 clear hN0
 with_reducible refine Calls.mono (HF.out _) ?_
 rintro e x2 ⟨rfl, hb⟩
 replace hL0 := hL0.call hb
 clear hb hweq
 replace hL0 := (hL0.new rfl [.int .u64 ((zl x : Nat) : Int), .string (zh x), .bool (zs x), .int .u64 ((lo f : Nat) : Int), .string (hs f)] 38)
 generalize hweq : (x2.alloc (.cells #[.int .u64 ((zl x : Nat) : Int), .string (zh x), .bool (zs x), .int .u64 ((lo f : Nat) : Int), .string (hs f)] 38)) = x3 at hL0
 have hA := hL0.fc
 simp only [fcG, cellsF, neK, and_true, ne_eq, Nat.zero_add, Nat.reduceAdd] at hA
 have hP := hL0.put 1 (w.heap.size + 1) _ rfl [.int .u64 ((zl x : Nat) : Int), .string (zh x), .bool (zs x), .int .u64 ((lo f : Nat) : Int), .string (hs f)] rfl
 simp only [setAll, List.set_cons_zero, List.set_cons_succ] at hP
 generalize hput1 : (((((x3.setCell ⟨w.heap.size + 1, 0, none⟩ (.int .u64 ((zl x : Nat) : Int))).setCell ⟨w.heap.size + 1, 1, none⟩ (.string (zh x))).setCell ⟨w.heap.size + 1, 2, none⟩ (.bool (zs x))).setCell ⟨w.heap.size + 1, 3, none⟩ (.int .u64 ((lo f : Nat) : Int))).setCell ⟨w.heap.size + 1, 4, none⟩ (.string (hs f))) = x4 at hP
 have hB1 := hP.fc
 simp only [fcG, cellsF, neK, and_true, ne_eq, Nat.zero_add, Nat.reduceAdd] at hB1
 replace hL0 := hP
 go_wp2_with fail
 exact bodyPost_ret (v := frV x f) (by simp [results, Tryz.results15, go_sem, hB1]) rfl ⟨rfl, hL0.bl⟩
set_option maxHeartbeats 4000000 in
set_option maxRecDepth 100000 in
theorem qof_pos (n d x c : Int) (f : Nat) (HF : RT 50 #[.int .i64 n, .int .i64 d] (.tuple #[frV x f, .int .i64 c])) (h1 : max d 1 = d) (hw : IntKind.i64.wrap d = d) (w : World) :
  Calls Tryz.prog 15 #[.agg #[.int .i64 n, .int .u32 d]] w fun xe w' => xe = .returned (frV x f) ∧ Below w.heap.size w w' := by
 have hL0 : GL w w [] := GL.start w
 replace HF := Lib.hid HF
 replace hL0 := ((hL0.new rfl [.int .i64 n, .int .u32 d] 24).new (K := w.heap.size + 1) (szA _ _) [.int .u64 0, .string ⟨#[]⟩, .bool false, .int .u64 0, .string ⟨#[]⟩] 38)
 generalize hweq : ((w.alloc (.cells #[.int .i64 n, .int .u32 d] 24)).alloc (.cells #[.int .u64 0, .string ⟨#[]⟩, .bool false, .int .u64 0, .string ⟨#[]⟩] 38)) = x1 at hL0
 go_enter Tryz.func15, Tryz.ntmps15
 have hN0 := cells_of _ 0 [] rfl (hL0.get _ _ (List.mem_cons_of_mem _ List.mem_cons_self))
 simp only [cellsF, and_true, Nat.zero_add, Nat.reduceAdd] at hN0
 go_wp2_with fail
 clear hN0
 with_reducible refine Calls.mono (HF.out _) ?_
 rintro e x2 ⟨rfl, hb⟩
 replace hL0 := hL0.call hb
 clear hb hweq
 replace hL0 := (hL0.new rfl [.int .u64 ((zl x : Nat) : Int), .string (zh x), .bool (zs x), .int .u64 ((lo f : Nat) : Int), .string (hs f)] 38)
 generalize hweq : (x2.alloc (.cells #[.int .u64 ((zl x : Nat) : Int), .string (zh x), .bool (zs x), .int .u64 ((lo f : Nat) : Int), .string (hs f)] 38)) = x3 at hL0
 have hA := hL0.fc
 simp only [fcG, cellsF, neK, and_true, ne_eq, Nat.zero_add, Nat.reduceAdd] at hA
 have hP := hL0.put 1 (w.heap.size + 1) _ rfl [.int .u64 ((zl x : Nat) : Int), .string (zh x), .bool (zs x), .int .u64 ((lo f : Nat) : Int), .string (hs f)] rfl
 simp only [setAll, List.set_cons_zero, List.set_cons_succ] at hP
 generalize hput1 : (((((x3.setCell ⟨w.heap.size + 1, 0, none⟩ (.int .u64 ((zl x : Nat) : Int))).setCell ⟨w.heap.size + 1, 1, none⟩ (.string (zh x))).setCell ⟨w.heap.size + 1, 2, none⟩ (.bool (zs x))).setCell ⟨w.heap.size + 1, 3, none⟩ (.int .u64 ((lo f : Nat) : Int))).setCell ⟨w.heap.size + 1, 4, none⟩ (.string (hs f))) = x4 at hP
 have hB1 := hP.fc
 simp only [fcG, cellsF, neK, and_true, ne_eq, Nat.zero_add, Nat.reduceAdd] at hB1
 replace hL0 := hP
 go_wp2_with fail
 exact bodyPost_ret (v := frV x f) (by simp [results, Tryz.results15, go_sem, hB1]) rfl ⟨rfl, hL0.bl⟩
theorem qof_any (n d : Int) (a1 : -9223372036854775808 ≤ n) (a2 : n < 9223372036854775808) (b1 : 0 ≤ d) (b2 : d < 4294967296) (w : World) :
  Calls Tryz.prog 15 #[.agg #[.int .i64 n, .int .u32 d]] w fun xe w' => xe = .returned (fracV (qmade n d.toNat)) ∧ Below w.heap.size w w' := by
 by_cases h : d = 0
 ·subst h
  have e : (n : Rat) / ((1 : Int) : Rat) = qmade n 0 := by rw [← of_val_q n 1 (by decide)]; rfl
  have hF := fun w => ofF n 1 a1 a2 (by decide) (by decide) (by decide) w
  rw [e] at hF
  exact qof_zero n _ _ _ hF (by decide) w
 ·have e : (n : Rat) / (d : Rat) = qmade n d.toNat := by
   rw [← of_val_q n d h]
   unfold qmade
   rw [if_neg (by omega), if_neg (by omega), show d.natAbs = d.toNat by omega]
  have hF := fun w => ofF n d a1 a2 (by omega) (by omega) h w
  rw [e] at hF
  exact qof_pos n d _ _ _ hF (by omega) (IntWalk.i64_in _ (by omega)) w
end Go.Proofs.YtoahpkelajimfaaGreatDoor
