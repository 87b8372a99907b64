/-
  The law answers true at every input, and leaves its arguments as they were: a part of the proof. CONDITIONS: the package-level tables start as the program's text lays them (the card ties them).
-/
import Derived.Test.YtdkjckiialnpnaaGreatDoorZmc
set_option linter.unusedVariables false
set_option linter.unusedSimpArgs false
namespace Go.Proofs.YtdkjckiialnpnaaGreatDoor
open Go.RowKit
attribute [local irreducible] lo hs sm s64 c64 d64 b64 mh ml pd pc qd qc val hiB str cmpI srD lz nb isq zl zh zs
set_option maxHeartbeats 4000000 in
set_option maxRecDepth 100000 in
theorem whole_yes (n : Int) (w : World) :
  Calls Tryz.prog 25 #[frV n 0] w fun xe w' => xe = .returned (.bool true) ∧ Below w.heap.size w w' := by
 have hL0 : GL w w [] := GL.start w
 have e0 : (((lo 0 : Nat) : Int) == 0) = true := by rw [lo_small Bs_pos]; rfl
 have e1 : ((hs 0).toList == []) = true := by rw [hs_small Bs_pos, ByteArray.toList_eq]; rfl
 replace hL0 := (hL0.new rfl [.int .u64 ((zl n : Nat) : Int), .string (zh n), .bool (zs n), .int .u64 ((lo 0 : Nat) : Int), .string (hs 0)] 34)
 generalize hweq : (w.alloc (.cells #[.int .u64 ((zl n : Nat) : Int), .string (zh n), .bool (zs n), .int .u64 ((lo 0 : Nat) : Int), .string (hs 0)] 34)) = x1 at hL0
 go_enter Tryz.func25, Tryz.ntmps25
 have hN0 := cells_of _ 0 [] rfl (hL0.get _ _ List.mem_cons_self)
 simp only [cellsF, and_true, Nat.zero_add, Nat.reduceAdd] at hN0
 go_wp2_with fail
 exact bodyPost_ret (v := .bool true) (by simp [results, Tryz.results25, go_sem, hN0]) rfl ⟨rfl, hL0.bl⟩
set_option maxHeartbeats 4000000 in
set_option maxRecDepth 100000 in
theorem whole_no (n : Int) (e : Nat) (he : e ≠ 0) (w : World) :
  Calls Tryz.prog 25 #[frV n e] w fun xe w' => xe = .returned (.bool false) ∧ Below w.heap.size w w' := by
 have hL0 : GL w w [] := GL.start w
 have hz := ne0 he
 clear he
 rcases hz with e0 | ⟨e0, e1⟩
 all_goals (
  replace hL0 := (hL0.new rfl [.int .u64 ((zl n : Nat) : Int), .string (zh n), .bool (zs n), .int .u64 ((lo e : Nat) : Int), .string (hs e)] 34)
  generalize hweq : (w.alloc (.cells #[.int .u64 ((zl n : Nat) : Int), .string (zh n), .bool (zs n), .int .u64 ((lo e : Nat) : Int), .string (hs e)] 34)) = x1 at hL0
  go_enter Tryz.func25, Tryz.ntmps25
  have hN0 := cells_of _ 0 [] rfl (hL0.get _ _ List.mem_cons_self)
  simp only [cellsF, and_true, Nat.zero_add, Nat.reduceAdd] at hN0
  go_wp2_with fail
  exact bodyPost_ret (v := .bool false) (by simp [results, Tryz.results25, go_sem, hN0]) rfl ⟨rfl, hL0.bl⟩)
set_option maxHeartbeats 4000000 in
set_option maxRecDepth 100000 in
theorem den_one_w (n : Int) (HW : RT 25 #[frV n 0] (.bool true)) (HO : RT 63 #[.int .u64 1] (natV 1)) (w : World) :
  Calls Tryz.prog 62 #[frV n 0] w fun xe w' => xe = .returned (natV 1) ∧ Below w.heap.size w w' := by
 have hL0 : GL w w [] := GL.start w
 replace HW := Lib.hid HW
 replace HO := Lib.hid HO
 replace hL0 := ((hL0.new rfl [.int .u64 ((zl n : Nat) : Int), .string (zh n), .bool (zs n), .int .u64 ((lo 0 : Nat) : Int), .string (hs 0)] 34).new (K := w.heap.size + 1) (szA _ _) [.int .u64 0, .string ⟨#[]⟩] 30)
 generalize hweq : ((w.alloc (.cells #[.int .u64 ((zl n : Nat) : Int), .string (zh n), .bool (zs n), .int .u64 ((lo 0 : Nat) : Int), .string (hs 0)] 34)).alloc (.cells #[.int .u64 0, .string ⟨#[]⟩] 30)) = x1 at hL0
 go_enter Tryz.func62, Tryz.ntmps62
 have hN0 := cells_of _ 0 [] rfl (hL0.get _ _ (List.mem_cons_of_mem _ List.mem_cons_self))
 simp only [cellsF, and_true, Nat.zero_add, Nat.reduceAdd] at hN0
 go_wp2_with fail
 clear hN0
 with_reducible refine Calls.mono (HW.out _) ?_
 rintro e x2 ⟨rfl, hb⟩
 replace hL0 := hL0.call hb
 clear hb hweq
 go_wp2_with fail
 with_reducible refine Calls.mono (HO.out _) ?_
 rintro e x3 ⟨rfl, hb⟩
 replace hL0 := hL0.call hb
 clear hb
 have hA := hL0.fc
 simp only [fcG, cellsF, neK, and_true, ne_eq, Nat.zero_add, Nat.reduceAdd] at hA
 have hP := hL0.put 0 (w.heap.size + 1) _ rfl [.int .u64 ((lo 1 : Nat) : Int), .string (hs 1)] rfl
 simp only [setAll, List.set_cons_zero, List.set_cons_succ] at hP
 generalize hput1 : ((x3.setCell ⟨w.heap.size + 1, 0, none⟩ (.int .u64 ((lo 1 : Nat) : Int))).setCell ⟨w.heap.size + 1, 1, none⟩ (.string (hs 1))) = x4 at hP
 have hB1 := hP.fc
 simp only [fcG, cellsF, neK, and_true, ne_eq, Nat.zero_add, Nat.reduceAdd] at hB1
 replace hL0 := hP
 go_wp2_with fail
 exact bodyPost_ret (v := natV 1) (by simp [results, Tryz.results62, go_sem, hB1]) rfl ⟨rfl, hL0.bl⟩
set_option maxHeartbeats 4000000 in
set_option maxRecDepth 100000 in
theorem den_part_w (n : Int) (e : Nat) (HW : RT 25 #[frV n e] (.bool false)) (w : World) :
  Calls Tryz.prog 62 #[frV n e] w fun xe w' => xe = .returned (natV e) ∧ Below w.heap.size w w' := by
 have hL0 : GL w w [] := GL.start w
 replace HW := Lib.hid HW
 replace hL0 := ((hL0.new rfl [.int .u64 ((zl n : Nat) : Int), .string (zh n), .bool (zs n), .int .u64 ((lo e : Nat) : Int), .string (hs e)] 34).new (K := w.heap.size + 1) (szA _ _) [.int .u64 0, .string ⟨#[]⟩] 30)
 generalize hweq : ((w.alloc (.cells #[.int .u64 ((zl n : Nat) : Int), .string (zh n), .bool (zs n), .int .u64 ((lo e : Nat) : Int), .string (hs e)] 34)).alloc (.cells #[.int .u64 0, .string ⟨#[]⟩] 30)) = x1 at hL0
 go_enter Tryz.func62, Tryz.ntmps62
 have hN0 := cells_of _ 0 [] rfl (hL0.get _ _ (List.mem_cons_of_mem _ List.mem_cons_self))
 simp only [cellsF, and_true, Nat.zero_add, Nat.reduceAdd] at hN0
 go_wp2_with fail
 clear hN0
 with_reducible refine Calls.mono (HW.out _) ?_
 rintro e x2 ⟨rfl, hb⟩
 replace hL0 := hL0.call hb
 clear hb hweq
 have hA := hL0.fc
 simp only [fcG, cellsF, neK, and_true, ne_eq, Nat.zero_add, Nat.reduceAdd] at hA
 have hP := hL0.put 0 (w.heap.size + 1) _ rfl [.int .u64 ((lo e : Nat) : Int), .string (hs e)] rfl
 simp only [setAll, List.set_cons_zero, List.set_cons_succ] at hP
 generalize hput1 : ((x2.setCell ⟨w.heap.size + 1, 0, none⟩ (.int .u64 ((lo e : Nat) : Int))).setCell ⟨w.heap.size + 1, 1, none⟩ (.string (hs e))) = x3 at hP
 have hB1 := hP.fc
 simp only [fcG, cellsF, neK, and_true, ne_eq, Nat.zero_add, Nat.reduceAdd] at hB1
 replace hL0 := hP
 go_wp2_with fail
 exact bodyPost_ret (v := natV e) (by simp [results, Tryz.results62, go_sem, hB1]) rfl ⟨rfl, hL0.bl⟩
set_option maxHeartbeats 4000000 in
set_option maxRecDepth 100000 in
theorem lowest_one (n : Int) (HO : RT 63 #[.int .u64 1] (natV 1)) (w : World) :
  Calls Tryz.prog 89 #[intV n, natV 1] w fun xe w' => xe = .returned (.agg #[.int .u64 ((zl n : Nat) : Int), .string (zh n), .bool (zs n), .int .u64 0, .string ⟨#[]⟩]) ∧ Below w.heap.size w w' := by
 have hL0 : GL w w [] := GL.start w
 replace HO := Lib.hid HO
 replace hL0 := (((hL0.new rfl [.int .u64 ((zl n : Nat) : Int), .string (zh n), .bool (zs n)] 32).new (K := w.heap.size + 1) (szA _ _) [.int .u64 ((lo 1 : Nat) : Int), .string (hs 1)] 30).new (K := w.heap.size + 1 + 1) (by simp only [World.size_alloc]) [.int .u64 0, .string ⟨#[]⟩, .bool false, .int .u64 0, .string ⟨#[]⟩] 34)
 generalize hweq : (((w.alloc (.cells #[.int .u64 ((zl n : Nat) : Int), .string (zh n), .bool (zs n)] 32)).alloc (.cells #[.int .u64 ((lo 1 : Nat) : Int), .string (hs 1)] 30)).alloc (.cells #[.int .u64 0, .string ⟨#[]⟩, .bool false, .int .u64 0, .string ⟨#[]⟩] 34)) = x1 at hL0
 go_enter Tryz.func89, Tryz.ntmps89
 go_upto_region 1 with fail
 clear hweq
 obtain ⟨α, iα, F, hF1, hF2⟩ := cls x1
 have hq0 := cls_box hF1 hL0 _ _ (List.mem_cons_of_mem _ List.mem_cons_self)
 simp only [cellsC, and_true, Nat.zero_add, Nat.reduceAdd] at hq0
 refine region_qs 3 (C := fun w' => ∃ x, w' = F x) (by kernel_rfl) (by kernel_rfl) (cls_drew hF2) ?_
 simp only [List.take_succ_cons, List.take_zero, List.drop_succ_cons, List.drop_zero, List.take_nil, List.drop_nil]
 repeat (go_big_quiet_step (first | fail | (go_at_call 63; with_reducible exact cls_call hF1 hF2 HO.out _)))
 refine wpQuiet_nil ?_
 rintro wq ⟨xq, rfl⟩
 replace hL0 := hL0.call (hF1 xq)
 clear  hq0 hF2
 generalize F xq = x2 at hL0 ⊢
 clear hF1 xq iα F α
 have hA := hL0.fc
 simp only [fcG, cellsF, neK, and_true, ne_eq, Nat.zero_add, Nat.reduceAdd] at hA
 have hP := hL0.put 0 (w.heap.size + 1 + 1) _ rfl [.int .u64 ((zl n : Nat) : Int), .string (zh n), .bool (zs n), .int .u64 0, .string ⟨#[]⟩] rfl
 simp only [setAll, List.set_cons_zero, List.set_cons_succ] at hP
 generalize hput1 : (((((x2.setCell ⟨w.heap.size + 1 + 1, 0, none⟩ (.int .u64 ((zl n : Nat) : Int))).setCell ⟨w.heap.size + 1 + 1, 1, none⟩ (.string (zh n))).setCell ⟨w.heap.size + 1 + 1, 2, none⟩ (.bool (zs n))).setCell ⟨w.heap.size + 1 + 1, 3, none⟩ (.int .u64 0)).setCell ⟨w.heap.size + 1 + 1, 4, none⟩ (.string ⟨#[]⟩)) = x3 at hP
 have hB1 := hP.fc
 simp only [fcG, cellsF, neK, and_true, ne_eq, Nat.zero_add, Nat.reduceAdd] at hB1
 replace hL0 := hP
 go_wp2_with fail
 exact bodyPost_ret (v := .agg #[.int .u64 ((zl n : Nat) : Int), .string (zh n), .bool (zs n), .int .u64 0, .string ⟨#[]⟩]) (by simp [results, Tryz.results89, go_sem, hB1]) rfl ⟨rfl, hL0.bl⟩
set_option maxHeartbeats 4000000 in
set_option maxRecDepth 100000 in
theorem lowest_part (n : Int) (d : Nat) (HO : RT 63 #[.int .u64 1] (natV 1)) (hd : d ≠ 1) (w : World) :
  Calls Tryz.prog 89 #[intV n, natV d] w fun xe w' => xe = .returned (frV n d) ∧ Below w.heap.size w w' := by
 have hL0 : GL w w [] := GL.start w
 replace HO := Lib.hid HO
 have hz := ne_nat hd
 clear hd
 rcases hz with e0 | ⟨e0, e1⟩
 all_goals (
  replace hL0 := (((hL0.new rfl [.int .u64 ((zl n : Nat) : Int), .string (zh n), .bool (zs n)] 32).new (K := w.heap.size + 1) (szA _ _) [.int .u64 ((lo d : Nat) : Int), .string (hs d)] 30).new (K := w.heap.size + 1 + 1) (by simp only [World.size_alloc]) [.int .u64 0, .string ⟨#[]⟩, .bool false, .int .u64 0, .string ⟨#[]⟩] 34)
  generalize hweq : (((w.alloc (.cells #[.int .u64 ((zl n : Nat) : Int), .string (zh n), .bool (zs n)] 32)).alloc (.cells #[.int .u64 ((lo d : Nat) : Int), .string (hs d)] 30)).alloc (.cells #[.int .u64 0, .string ⟨#[]⟩, .bool false, .int .u64 0, .string ⟨#[]⟩] 34)) = x1 at hL0
  go_enter Tryz.func89, Tryz.ntmps89
  go_upto_region 1 with fail
  clear hweq
  obtain ⟨α, iα, F, hF1, hF2⟩ := cls x1
  have hq0 := cls_box hF1 hL0 _ _ (List.mem_cons_of_mem _ List.mem_cons_self)
  simp only [cellsC, and_true, Nat.zero_add, Nat.reduceAdd] at hq0
  refine region_qs 3 (C := fun w' => ∃ x, w' = F x) (by kernel_rfl) (by kernel_rfl) (cls_drew hF2) ?_
  simp only [List.take_succ_cons, List.take_zero, List.drop_succ_cons, List.drop_zero, List.take_nil, List.drop_nil]
  repeat (go_big_quiet_step (first | fail | (go_at_call 63; with_reducible exact cls_call hF1 hF2 HO.out _)))
  refine wpQuiet_nil ?_
  rintro wq ⟨xq, rfl⟩
  replace hL0 := hL0.call (hF1 xq)
  clear  hq0 hF2
  generalize F xq = x2 at hL0 ⊢
  clear hF1 xq iα F α
  have hA := hL0.fc
  simp only [fcG, cellsF, neK, and_true, ne_eq, Nat.zero_add, Nat.reduceAdd] at hA
  have hP := hL0.put 0 (w.heap.size + 1 + 1) _ rfl [.int .u64 ((zl n : Nat) : Int), .string (zh n), .bool (zs n), .int .u64 ((lo d : Nat) : Int), .string (hs d)] rfl
  simp only [setAll, List.set_cons_zero, List.set_cons_succ] at hP
  generalize hput1 : (((((x2.setCell ⟨w.heap.size + 1 + 1, 0, none⟩ (.int .u64 ((zl n : Nat) : Int))).setCell ⟨w.heap.size + 1 + 1, 1, none⟩ (.string (zh n))).setCell ⟨w.heap.size + 1 + 1, 2, none⟩ (.bool (zs n))).setCell ⟨w.heap.size + 1 + 1, 3, none⟩ (.int .u64 ((lo d : Nat) : Int))).setCell ⟨w.heap.size + 1 + 1, 4, none⟩ (.string (hs d))) = x3 at hP
  have hB1 := hP.fc
  simp only [fcG, cellsF, neK, and_true, ne_eq, Nat.zero_add, Nat.reduceAdd] at hB1
  replace hL0 := hP
  go_wp2_with fail
  exact bodyPost_ret (v := frV n d) (by simp [results, Tryz.results89, go_sem, hB1]) rfl ⟨rfl, hL0.bl⟩)
set_option maxHeartbeats 4000000 in
set_option maxRecDepth 100000 in
theorem pon_one (n : Nat) (HO : RT 63 #[.int .u64 1] (natV 1)) (w : World) :
  Calls Tryz.prog 165 #[natV n, natV 1] w fun xe w' => xe = .returned (natV n) ∧ Below w.heap.size w w' := by
 have hL0 : GL w w [] := GL.start w
 replace HO := Lib.hid HO
 replace hL0 := (((hL0.new rfl [.int .u64 ((lo n : Nat) : Int), .string (hs n)] 30).new (K := w.heap.size + 1) (szA _ _) [.int .u64 ((lo 1 : Nat) : Int), .string (hs 1)] 30).new (K := w.heap.size + 1 + 1) (by simp only [World.size_alloc]) [.int .u64 0, .string ⟨#[]⟩] 30)
 generalize hweq : (((w.alloc (.cells #[.int .u64 ((lo n : Nat) : Int), .string (hs n)] 30)).alloc (.cells #[.int .u64 ((lo 1 : Nat) : Int), .string (hs 1)] 30)).alloc (.cells #[.int .u64 0, .string ⟨#[]⟩] 30)) = x1 at hL0
 go_enter Tryz.func165, Tryz.ntmps165
 go_upto_region 1 with fail
 clear hweq
 obtain ⟨α, iα, F, hF1, hF2⟩ := cls x1
 have hq0 := cls_box hF1 hL0 _ _ (List.mem_cons_of_mem _ List.mem_cons_self)
 simp only [cellsC, and_true, Nat.zero_add, Nat.reduceAdd] at hq0
 refine region_qs 3 (C := fun w' => ∃ x, w' = F x) (by kernel_rfl) (by kernel_rfl) (cls_drew hF2) ?_
 simp only [List.take_succ_cons, List.take_zero, List.drop_succ_cons, List.drop_zero, List.take_nil, List.drop_nil]
 repeat (go_big_quiet_step (first | fail | (go_at_call 63; with_reducible exact cls_call hF1 hF2 HO.out _)))
 refine wpQuiet_nil ?_
 rintro wq ⟨xq, rfl⟩
 replace hL0 := hL0.call (hF1 xq)
 clear  hq0 hF2
 generalize F xq = x2 at hL0 ⊢
 clear hF1 xq iα F α
 have hA := hL0.fc
 simp only [fcG, cellsF, neK, and_true, ne_eq, Nat.zero_add, Nat.reduceAdd] at hA
 have hP := hL0.put 0 (w.heap.size + 1 + 1) _ rfl [.int .u64 ((lo n : Nat) : Int), .string (hs n)] rfl
 simp only [setAll, List.set_cons_zero, List.set_cons_succ] at hP
 generalize hput1 : ((x2.setCell ⟨w.heap.size + 1 + 1, 0, none⟩ (.int .u64 ((lo n : Nat) : Int))).setCell ⟨w.heap.size + 1 + 1, 1, none⟩ (.string (hs n))) = x3 at hP
 have hB1 := hP.fc
 simp only [fcG, cellsF, neK, and_true, ne_eq, Nat.zero_add, Nat.reduceAdd] at hB1
 replace hL0 := hP
 go_wp2_with fail
 exact bodyPost_ret (v := natV n) (by simp [results, Tryz.results165, go_sem, hB1]) rfl ⟨rfl, hL0.bl⟩
set_option maxHeartbeats 4000000 in
set_option maxRecDepth 100000 in
theorem pon_div (n d q r : Nat) (HO : RT 63 #[.int .u64 1] (natV 1)) (HD : RT 142 #[natV n, natV d] (.tuple #[natV q, natV r, .bool true])) (hd : d ≠ 1) (w : World) :
  Calls Tryz.prog 165 #[natV n, natV d] w fun xe w' => xe = .returned (natV q) ∧ Below w.heap.size w w' := by
 have hL0 : GL w w [] := GL.start w
 replace HO := Lib.hid HO
 replace HD := Lib.hid HD
 have hz := ne_nat hd
 clear hd
 rcases hz with e0 | ⟨e0, e1⟩
 all_goals (
  replace hL0 := (((hL0.new rfl [.int .u64 ((lo n : Nat) : Int), .string (hs n)] 30).new (K := w.heap.size + 1) (szA _ _) [.int .u64 ((lo d : Nat) : Int), .string (hs d)] 30).new (K := w.heap.size + 1 + 1) (by simp only [World.size_alloc]) [.int .u64 0, .string ⟨#[]⟩] 30)
  generalize hweq : (((w.alloc (.cells #[.int .u64 ((lo n : Nat) : Int), .string (hs n)] 30)).alloc (.cells #[.int .u64 ((lo d : Nat) : Int), .string (hs d)] 30)).alloc (.cells #[.int .u64 0, .string ⟨#[]⟩] 30)) = x1 at hL0
  go_enter Tryz.func165, Tryz.ntmps165
  go_upto_region 1 with fail
  clear hweq
  obtain ⟨α, iα, F, hF1, hF2⟩ := cls x1
  have hq0 := cls_box hF1 hL0 _ _ (List.mem_cons_of_mem _ List.mem_cons_self)
  simp only [cellsC, and_true, Nat.zero_add, Nat.reduceAdd] at hq0
  refine region_qs 3 (C := fun w' => ∃ x, w' = F x) (by kernel_rfl) (by kernel_rfl) (cls_drew hF2) ?_
  simp only [List.take_succ_cons, List.take_zero, List.drop_succ_cons, List.drop_zero, List.take_nil, List.drop_nil]
  repeat (go_big_quiet_step (first | fail | (go_at_call 63; with_reducible exact cls_call hF1 hF2 HO.out _)))
  refine wpQuiet_nil ?_
  rintro wq ⟨xq, rfl⟩
  replace hL0 := hL0.call (hF1 xq)
  clear  hq0 hF2
  generalize F xq = x2 at hL0 ⊢
  clear hF1 xq iα F α
  have hN0 := cells_of _ 0 [] rfl (hL0.get _ _ (List.mem_cons_of_mem _ List.mem_cons_self))
  simp only [cellsF, and_true, Nat.zero_add, Nat.reduceAdd] at hN0
  have hN1 := cells_of _ 0 [] rfl (hL0.get _ _ (List.mem_cons_of_mem _ (List.mem_cons_of_mem _ List.mem_cons_self)))
  simp only [cellsF, and_true, Nat.zero_add, Nat.reduceAdd] at hN1
  go_wp2_with fail
  clear hN0 hN1
  with_reducible refine Calls.mono (HD.out _) ?_
  rintro e x3 ⟨rfl, hb⟩
  replace hL0 := hL0.call hb
  clear hb
  replace hL0 := ((hL0.new rfl [.int .u64 ((lo q : Nat) : Int), .string (hs q)] 30).new (K := x3.heap.size + 1) (szA _ _) [.int .u64 ((lo r : Nat) : Int), .string (hs r)] 30)
  generalize hweq : ((x3.alloc (.cells #[.int .u64 ((lo q : Nat) : Int), .string (hs q)] 30)).alloc (.cells #[.int .u64 ((lo r : Nat) : Int), .string (hs r)] 30)) = x4 at hL0
  have hA := hL0.fc
  simp only [fcG, cellsF, neK, and_true, ne_eq, Nat.zero_add, Nat.reduceAdd] at hA
  have hP := hL0.put 2 (w.heap.size + 1 + 1) _ rfl [.int .u64 ((lo q : Nat) : Int), .string (hs q)] rfl
  simp only [setAll, List.set_cons_zero, List.set_cons_succ] at hP
  generalize hput1 : ((x4.setCell ⟨w.heap.size + 1 + 1, 0, none⟩ (.int .u64 ((lo q : Nat) : Int))).setCell ⟨w.heap.size + 1 + 1, 1, none⟩ (.string (hs q))) = x5 at hP
  have hB1 := hP.fc
  simp only [fcG, cellsF, neK, and_true, ne_eq, Nat.zero_add, Nat.reduceAdd] at hB1
  replace hL0 := hP
  go_wp2_with fail
  exact bodyPost_ret (v := natV q) (by simp [results, Tryz.results165, go_sem, hB1]) rfl ⟨rfl, hL0.bl⟩)
set_option maxHeartbeats 4000000 in
set_option maxRecDepth 100000 in
theorem part_true (z s u : Int) (a g q : Nat) (HS : RT 95 #[intV z] (.int .i64 s)) (HA : RT 78 #[intV z] (natV a)) (HP : RT 165 #[natV a, natV g] (natV q)) (HF : RT 93 #[.bool true, natV q] (intV u)) (hsg : decide (s < 0) = true) (w : World) :
  Calls Tryz.prog 169 #[intV z, natV g] w fun xe w' => xe = .returned (intV u) ∧ Below w.heap.size w w' := by
 have hL0 : GL w w [] := GL.start w
 replace HS := Lib.hid HS
 replace HA := Lib.hid HA
 replace HP := Lib.hid HP
 replace HF := Lib.hid HF
 replace hL0 := (((hL0.new rfl [.int .u64 ((zl z : Nat) : Int), .string (zh z), .bool (zs z)] 32).new (K := w.heap.size + 1) (szA _ _) [.int .u64 ((lo g : Nat) : Int), .string (hs g)] 30).new (K := w.heap.size + 1 + 1) (by simp only [World.size_alloc]) [.int .u64 0, .string ⟨#[]⟩, .bool false] 32)
 generalize hweq : (((w.alloc (.cells #[.int .u64 ((zl z : Nat) : Int), .string (zh z), .bool (zs z)] 32)).alloc (.cells #[.int .u64 ((lo g : Nat) : Int), .string (hs g)] 30)).alloc (.cells #[.int .u64 0, .string ⟨#[]⟩, .bool false] 32)) = x1 at hL0
 go_enter Tryz.func169, Tryz.ntmps169
 go_upto_region 1 with fail
 clear hweq
 obtain ⟨α, iα, F, hF1, hF2⟩ := cls x1
 have hq0 := cls_box hF1 hL0 _ _ (List.mem_cons_of_mem _ List.mem_cons_self)
 simp only [cellsC, and_true, Nat.zero_add, Nat.reduceAdd] at hq0
 have hq1 := cls_box hF1 hL0 _ _ (List.mem_cons_of_mem _ (List.mem_cons_of_mem _ List.mem_cons_self))
 simp only [cellsC, and_true, Nat.zero_add, Nat.reduceAdd] at hq1
 refine region_qs 8 (C := fun w' => ∃ x, w' = F x) (by kernel_rfl) (by kernel_rfl) (cls_drew hF2) ?_
 simp only [List.take_succ_cons, List.take_zero, List.drop_succ_cons, List.drop_zero, List.take_nil, List.drop_nil]
 repeat (go_big_quiet_step (first | fail | (go_at_call 95; with_reducible exact cls_call hF1 hF2 HS.out _) | (go_at_call 78; with_reducible exact cls_call hF1 hF2 HA.out _) | (go_at_call 165; with_reducible exact cls_call hF1 hF2 HP.out _) | (go_at_call 93; with_reducible exact cls_call hF1 hF2 HF.out _)))
 refine wpQuiet_nil ?_
 rintro wq ⟨xq, rfl⟩
 replace hL0 := hL0.call (hF1 xq)
 clear  hq0 hq1 hF2
 generalize F xq = x2 at hL0 ⊢
 clear hF1 xq iα F α
 have hA := hL0.fc
 simp only [fcG, cellsF, neK, and_true, ne_eq, Nat.zero_add, Nat.reduceAdd] at hA
 have hP := hL0.put 0 (w.heap.size + 1 + 1) _ rfl [.int .u64 ((zl u : Nat) : Int), .string (zh u), .bool (zs u)] rfl
 simp only [setAll, List.set_cons_zero, List.set_cons_succ] at hP
 generalize hput1 : (((x2.setCell ⟨w.heap.size + 1 + 1, 0, none⟩ (.int .u64 ((zl u : Nat) : Int))).setCell ⟨w.heap.size + 1 + 1, 1, none⟩ (.string (zh u))).setCell ⟨w.heap.size + 1 + 1, 2, none⟩ (.bool (zs u))) = x3 at hP
 have hB1 := hP.fc
 simp only [fcG, cellsF, neK, and_true, ne_eq, Nat.zero_add, Nat.reduceAdd] at hB1
 replace hL0 := hP
 go_wp2_with fail
 exact bodyPost_ret (v := intV u) (by simp [results, Tryz.results169, go_sem, hB1]) rfl ⟨rfl, hL0.bl⟩
set_option maxHeartbeats 4000000 in
set_option maxRecDepth 100000 in
theorem part_false (z s u : Int) (a g q : Nat) (HS : RT 95 #[intV z] (.int .i64 s)) (HA : RT 78 #[intV z] (natV a)) (HP : RT 165 #[natV a, natV g] (natV q)) (HF : RT 93 #[.bool false, natV q] (intV u)) (hsg : decide (s < 0) = false) (w : World) :
  Calls Tryz.prog 169 #[intV z, natV g] w fun xe w' => xe = .returned (intV u) ∧ Below w.heap.size w w' := by
 have hL0 : GL w w [] := GL.start w
 replace HS := Lib.hid HS
 replace HA := Lib.hid HA
 replace HP := Lib.hid HP
 replace HF := Lib.hid HF
 replace hL0 := (((hL0.new rfl [.int .u64 ((zl z : Nat) : Int), .string (zh z), .bool (zs z)] 32).new (K := w.heap.size + 1) (szA _ _) [.int .u64 ((lo g : Nat) : Int), .string (hs g)] 30).new (K := w.heap.size + 1 + 1) (by simp only [World.size_alloc]) [.int .u64 0, .string ⟨#[]⟩, .bool false] 32)
 generalize hweq : (((w.alloc (.cells #[.int .u64 ((zl z : Nat) : Int), .string (zh z), .bool (zs z)] 32)).alloc (.cells #[.int .u64 ((lo g : Nat) : Int), .string (hs g)] 30)).alloc (.cells #[.int .u64 0, .string ⟨#[]⟩, .bool false] 32)) = x1 at hL0
 go_enter Tryz.func169, Tryz.ntmps169
 go_upto_region 1 with fail
 clear hweq
 obtain ⟨α, iα, F, hF1, hF2⟩ := cls x1
 have hq0 := cls_box hF1 hL0 _ _ (List.mem_cons_of_mem _ List.mem_cons_self)
 simp only [cellsC, and_true, Nat.zero_add, Nat.reduceAdd] at hq0
 have hq1 := cls_box hF1 hL0 _ _ (List.mem_cons_of_mem _ (List.mem_cons_of_mem _ List.mem_cons_self))
 simp only [cellsC, and_true, Nat.zero_add, Nat.reduceAdd] at hq1
 refine region_qs 8 (C := fun w' => ∃ x, w' = F x) (by kernel_rfl) (by kernel_rfl) (cls_drew hF2) ?_
 simp only [List.take_succ_cons, List.take_zero, List.drop_succ_cons, List.drop_zero, List.take_nil, List.drop_nil]
 repeat (go_big_quiet_step (first | fail | (go_at_call 95; with_reducible exact cls_call hF1 hF2 HS.out _) | (go_at_call 78; with_reducible exact cls_call hF1 hF2 HA.out _) | (go_at_call 165; with_reducible exact cls_call hF1 hF2 HP.out _) | (go_at_call 93; with_reducible exact cls_call hF1 hF2 HF.out _)))
 refine wpQuiet_nil ?_
 rintro wq ⟨xq, rfl⟩
 replace hL0 := hL0.call (hF1 xq)
 clear  hq0 hq1 hF2
 generalize F xq = x2 at hL0 ⊢
 clear hF1 xq iα F α
 have hA := hL0.fc
 simp only [fcG, cellsF, neK, and_true, ne_eq, Nat.zero_add, Nat.reduceAdd] at hA
 have hP := hL0.put 0 (w.heap.size + 1 + 1) _ rfl [.int .u64 ((zl u : Nat) : Int), .string (zh u), .bool (zs u)] rfl
 simp only [setAll, List.set_cons_zero, List.set_cons_succ] at hP
 generalize hput1 : (((x2.setCell ⟨w.heap.size + 1 + 1, 0, none⟩ (.int .u64 ((zl u : Nat) : Int))).setCell ⟨w.heap.size + 1 + 1, 1, none⟩ (.string (zh u))).setCell ⟨w.heap.size + 1 + 1, 2, none⟩ (.bool (zs u))) = x3 at hP
 have hB1 := hP.fc
 simp only [fcG, cellsF, neK, and_true, ne_eq, Nat.zero_add, Nat.reduceAdd] at hB1
 replace hL0 := hP
 go_wp2_with fail
 exact bodyPost_ret (v := intV u) (by simp [results, Tryz.results169, go_sem, hB1]) rfl ⟨rfl, hL0.bl⟩
set_option maxHeartbeats 4000000 in
set_option maxRecDepth 100000 in
theorem cancel_w (z u : Int) (a d g v : Nat) (HA : RT 78 #[intV z] (natV a)) (HG : RT 141 #[natV a, natV d] (natV g)) (HP : RT 169 #[intV z, natV g] (intV u)) (HQ : RT 165 #[natV d, natV g] (natV v)) (w : World) :
  Calls Tryz.prog 88 #[intV z, natV d] w fun xe w' => xe = .returned (.tuple #[intV u, natV v]) ∧ Below w.heap.size w w' := by
 have hL0 : GL w w [] := GL.start w
 replace HA := Lib.hid HA
 replace HG := Lib.hid HG
 replace HP := Lib.hid HP
 replace HQ := Lib.hid HQ
 replace hL0 := ((((hL0.new rfl [.int .u64 ((zl z : Nat) : Int), .string (zh z), .bool (zs z)] 32).new (K := w.heap.size + 1) (szA _ _) [.int .u64 ((lo d : Nat) : Int), .string (hs d)] 30).new (K := w.heap.size + 1 + 1) (by simp only [World.size_alloc]) [.int .u64 0, .string ⟨#[]⟩, .bool false] 32).new (K := w.heap.size + 1 + 1 + 1) (by simp only [World.size_alloc]) [.int .u64 0, .string ⟨#[]⟩] 30)
 generalize hweq : ((((w.alloc (.cells #[.int .u64 ((zl z : Nat) : Int), .string (zh z), .bool (zs z)] 32)).alloc (.cells #[.int .u64 ((lo d : Nat) : Int), .string (hs d)] 30)).alloc (.cells #[.int .u64 0, .string ⟨#[]⟩, .bool false] 32)).alloc (.cells #[.int .u64 0, .string ⟨#[]⟩] 30)) = x1 at hL0
 go_enter Tryz.func88, Tryz.ntmps88
 go_upto_region 1 with fail
 clear hweq
 refine region_gh (by kernel_rfl) (by kernel_rfl) ?_
 refine lex_seg (gl := []) 4 (by kernel_rfl) ?_
 intro α iα F hF1 hF2
 have hq := GL.seg hF1 hL0
 simp only [fcC, cellsC, and_true, Nat.zero_add, Nat.reduceAdd] at hq
 simp only [List.take_succ_cons, List.take_zero, List.drop_succ_cons, List.drop_zero, List.take_nil, List.drop_nil]
 repeat (go_big_quiet_step (first | fail | (go_at_call 78; with_reducible exact seg_call hF2 HA.out _) | (go_at_call 141; with_reducible exact seg_call hF2 HG.out _)))
 refine wpQuiet_nil ?_
 clear hq hF1 hF2 iα F α
 refine lex_new [.int .u64 0, .string ⟨#[]⟩] 6 30 30 rfl rfl (of_decide_eq_true (by kernel_rfl)) (by kernel_rfl) rfl new_natc ?_
 simp only [Act.put, List.setIfInBounds_toArray, List.set_cons_succ, List.set_cons_zero]
 refine lex_put [.int .u64 ((lo g : Nat) : Int), .string (hs g)] [.int .u64 0, .string ⟨#[]⟩] 6 30 (.tmp 10) rfl (by kernel_rfl) (by simp [toG, upd]) rfl (fun w k h => put_natc _ _ _ _ w k h) ?_
 simp only [Act.put]
 refine lexG_nil ?_
 intro κ x2 hS
 replace hL0 := hL0.ghs hS [(6, [.int .u64 ((lo g : Nat) : Int), .string (hs g)])] (by simp) (by intro p hp; simp only [List.mem_cons, List.not_mem_nil, or_false] at hp; rcases hp with rfl <;> exact ⟨_, by simp only [toG, upd]; rfl⟩)
 simp only [List.map_cons, List.map_nil, List.cons_append, List.nil_append] at hL0
 simp only [over_toG, over_nil, Act.put, List.setIfInBounds_toArray, List.set_cons_succ, List.set_cons_zero]
 clear hS
 generalize κ 6 = k2_6 at *
 go_upto_region 2 with fail
 obtain ⟨α, iα, F, hF1, hF2⟩ := cls x2
 have hq0 := cls_box hF1 hL0 _ _ List.mem_cons_self
 simp only [cellsC, and_true, Nat.zero_add, Nat.reduceAdd] at hq0
 have hq1 := cls_box hF1 hL0 _ _ (List.mem_cons_of_mem _ (List.mem_cons_of_mem _ (List.mem_cons_of_mem _ List.mem_cons_self)))
 simp only [cellsC, and_true, Nat.zero_add, Nat.reduceAdd] at hq1
 have hq2 := cls_box hF1 hL0 _ _ (List.mem_cons_of_mem _ (List.mem_cons_of_mem _ (List.mem_cons_of_mem _ (List.mem_cons_of_mem _ List.mem_cons_self))))
 simp only [cellsC, and_true, Nat.zero_add, Nat.reduceAdd] at hq2
 refine region_qs 6 (C := fun w' => ∃ x, w' = F x) (by kernel_rfl) (by kernel_rfl) (cls_drew hF2) ?_
 simp only [List.take_succ_cons, List.take_zero, List.drop_succ_cons, List.drop_zero, List.take_nil, List.drop_nil]
 repeat (go_big_quiet_step (first | fail | (go_at_call 169; with_reducible exact cls_call hF1 hF2 HP.out _) | (go_at_call 165; with_reducible exact cls_call hF1 hF2 HQ.out _)))
 refine wpQuiet_nil ?_
 rintro wq ⟨xq, rfl⟩
 replace hL0 := hL0.call (hF1 xq)
 clear  hq0 hq1 hq2 hF2
 generalize F xq = x3 at hL0 ⊢
 clear hF1 xq iα F α
 have hA := hL0.fc
 simp only [fcG, cellsF, neK, and_true, ne_eq, Nat.zero_add, Nat.reduceAdd] at hA
 have hP := hL0.put 2 (w.heap.size + 1 + 1) _ rfl [.int .u64 ((zl u : Nat) : Int), .string (zh u), .bool (zs u)] rfl
 simp only [setAll, List.set_cons_zero, List.set_cons_succ] at hP
 generalize hput1 : (((x3.setCell ⟨w.heap.size + 1 + 1, 0, none⟩ (.int .u64 ((zl u : Nat) : Int))).setCell ⟨w.heap.size + 1 + 1, 1, none⟩ (.string (zh u))).setCell ⟨w.heap.size + 1 + 1, 2, none⟩ (.bool (zs u))) = x4 at hP
 have hB1 := hP.fc
 simp only [fcG, cellsF, neK, and_true, ne_eq, Nat.zero_add, Nat.reduceAdd] at hB1
 replace hL0 := hP
 have hP := hL0.put 1 (w.heap.size + 1 + 1 + 1) _ rfl [.int .u64 ((lo v : Nat) : Int), .string (hs v)] rfl
 simp only [setAll, List.set_cons_zero, List.set_cons_succ] at hP
 generalize hput2 : ((x4.setCell ⟨w.heap.size + 1 + 1 + 1, 0, none⟩ (.int .u64 ((lo v : Nat) : Int))).setCell ⟨w.heap.size + 1 + 1 + 1, 1, none⟩ (.string (hs v))) = x5 at hP
 have hB2 := hP.fc
 simp only [fcG, cellsF, neK, and_true, ne_eq, Nat.zero_add, Nat.reduceAdd] at hB2
 replace hL0 := hP
 go_wp2_with fail
 exact bodyPost_ret (v := .tuple #[intV u, natV v]) (by simp [results, Tryz.results88, go_sem, hB2]) rfl ⟨rfl, hL0.bl⟩
set_option maxHeartbeats 4000000 in
set_option maxRecDepth 100000 in
theorem num_w (n : Int) (e : Nat) (w : World) :
  Calls Tryz.prog 114 #[frV n e] w fun xe w' => xe = .returned (intV n) ∧ Below w.heap.size w w' := by
 have hL0 : GL w w [] := GL.start w
 replace hL0 := ((hL0.new rfl [.int .u64 ((zl n : Nat) : Int), .string (zh n), .bool (zs n), .int .u64 ((lo e : Nat) : Int), .string (hs e)] 34).new (K := w.heap.size + 1) (szA _ _) [.int .u64 ((zl n : Nat) : Int), .string (zh n), .bool (zs n)] 32)
 generalize hweq : ((w.alloc (.cells #[.int .u64 ((zl n : Nat) : Int), .string (zh n), .bool (zs n), .int .u64 ((lo e : Nat) : Int), .string (hs e)] 34)).alloc (.cells #[.int .u64 ((zl n : Nat) : Int), .string (zh n), .bool (zs n)] 32)) = x1 at hL0
 go_enter Tryz.func114, Tryz.ntmps114
 have hN0 := cells_of _ 0 [] rfl (hL0.get _ _ List.mem_cons_self)
 simp only [cellsF, and_true, Nat.zero_add, Nat.reduceAdd] at hN0
 have hN1 := cells_of _ 0 [] rfl (hL0.get _ _ (List.mem_cons_of_mem _ List.mem_cons_self))
 simp only [cellsF, and_true, Nat.zero_add, Nat.reduceAdd] at hN1
 go_wp2_with fail
 exact bodyPost_ret (v := intV n) (by simp [results, Tryz.results114, go_sem, hN0 ,hN1]) rfl ⟨rfl, hL0.bl⟩
set_option maxHeartbeats 4000000 in
set_option maxRecDepth 100000 in
theorem fof_true (x y s z p : Int) (a b : Int) (d e : Nat) (c : Int) (HO : RT 92 #[.int .i64 a] (intV x)) (HQ : RT 92 #[.int .i64 b] (intV y)) (HS : RT 95 #[intV y] (.int .i64 s)) (HN : RT 94 #[intV x] (intV z)) (HA : RT 78 #[intV y] (natV d)) (HF : RT 76 #[intV z, natV d] (.tuple #[frV p e, .int .i64 c])) (hsg : decide (s < 0) = true) (w : World) :
  Calls Tryz.prog 32 #[.int .i64 a, .int .i64 b] w fun xe w' => xe = .returned (.tuple #[frV p e, .int .i64 c]) ∧ Below w.heap.size w w' := by
 have hL0 : GL w w [] := GL.start w
 replace HO := Lib.hid HO
 replace HQ := Lib.hid HQ
 replace HS := Lib.hid HS
 replace HN := Lib.hid HN
 replace HA := Lib.hid HA
 replace HF := Lib.hid HF
 replace hL0 := (hL0.new rfl [.int .u64 0, .string ⟨#[]⟩, .bool false, .int .u64 0, .string ⟨#[]⟩] 34)
 generalize hweq : (w.alloc (.cells #[.int .u64 0, .string ⟨#[]⟩, .bool false, .int .u64 0, .string ⟨#[]⟩] 34)) = x1 at hL0
 go_enter Tryz.func32, Tryz.ntmps32
 go_wp2_with fail
 with_reducible refine Calls.mono (HO.out _) ?_
 rintro e x2 ⟨rfl, hb⟩
 replace hL0 := hL0.call hb
 clear hb hweq
 go_wp2_with fail
 with_reducible refine Calls.mono (HQ.out _) ?_
 rintro e x3 ⟨rfl, hb⟩
 replace hL0 := hL0.call hb
 clear hb
 replace hL0 := ((hL0.new rfl [.int .u64 ((zl x : Nat) : Int), .string (zh x), .bool (zs x)] 32).new (K := x3.heap.size + 1) (szA _ _) [.int .u64 ((zl y : Nat) : Int), .string (zh y), .bool (zs y)] 32)
 generalize hweq : ((x3.alloc (.cells #[.int .u64 ((zl x : Nat) : Int), .string (zh x), .bool (zs x)] 32)).alloc (.cells #[.int .u64 ((zl y : Nat) : Int), .string (zh y), .bool (zs y)] 32)) = x4 at hL0
 have hN0 := cells_of _ 0 [] rfl (hL0.get _ _ List.mem_cons_self)
 simp only [cellsF, and_true, Nat.zero_add, Nat.reduceAdd] at hN0
 go_wp2_with fail
 clear hN0
 with_reducible refine Calls.mono (HS.out _) ?_
 rintro e x5 ⟨rfl, hb⟩
 replace hL0 := hL0.call hb
 clear hb hweq
 have hN0 := cells_of _ 0 [] rfl (hL0.get _ _ (List.mem_cons_of_mem _ List.mem_cons_self))
 simp only [cellsF, and_true, Nat.zero_add, Nat.reduceAdd] at hN0
 go_wp2_with fail
 clear hN0
 with_reducible refine Calls.mono (HN.out _) ?_
 rintro e x6 ⟨rfl, hb⟩
 replace hL0 := hL0.call hb
 clear hb
 have hA := hL0.fc
 simp only [fcG, cellsF, neK, and_true, ne_eq, Nat.zero_add, Nat.reduceAdd] at hA
 have hP := hL0.put 1 (x3.heap.size) _ rfl [.int .u64 ((zl z : Nat) : Int), .string (zh z), .bool (zs z)] rfl
 simp only [setAll, List.set_cons_zero, List.set_cons_succ] at hP
 generalize hput1 : (((x6.setCell ⟨x3.heap.size, 0, none⟩ (.int .u64 ((zl z : Nat) : Int))).setCell ⟨x3.heap.size, 1, none⟩ (.string (zh z))).setCell ⟨x3.heap.size, 2, none⟩ (.bool (zs z))) = x7 at hP
 have hB1 := hP.fc
 simp only [fcG, cellsF, neK, and_true, ne_eq, Nat.zero_add, Nat.reduceAdd] at hB1
 replace hL0 := hP
 go_upto_region 4 with fail
 clear hA
 clear hput1 hB1
 obtain ⟨α, iα, F, hF1, hF2⟩ := cls x7
 have hq0 := cls_box hF1 hL0 _ _ List.mem_cons_self
 simp only [cellsC, and_true, Nat.zero_add, Nat.reduceAdd] at hq0
 have hq1 := cls_box hF1 hL0 _ _ (List.mem_cons_of_mem _ List.mem_cons_self)
 simp only [cellsC, and_true, Nat.zero_add, Nat.reduceAdd] at hq1
 refine region_qs 6 (C := fun w' => ∃ x, w' = F x) (by kernel_rfl) (by kernel_rfl) (cls_drew hF2) ?_
 simp only [List.take_succ_cons, List.take_zero, List.drop_succ_cons, List.drop_zero, List.take_nil, List.drop_nil]
 repeat (go_big_quiet_step (first | fail | (go_at_call 78; with_reducible exact cls_call hF1 hF2 HA.out _) | (go_at_call 76; with_reducible exact cls_call hF1 hF2 HF.out _)))
 refine wpQuiet_nil ?_
 rintro wq ⟨xq, rfl⟩
 replace hL0 := hL0.call (hF1 xq)
 clear  hq0 hq1 hF2
 generalize F xq = x8 at hL0 ⊢
 clear hF1 xq iα F α
 have hA := hL0.fc
 simp only [fcG, cellsF, neK, and_true, ne_eq, Nat.zero_add, Nat.reduceAdd] at hA
 have hP := hL0.put 2 (w.heap.size) _ rfl [.int .u64 ((zl p : Nat) : Int), .string (zh p), .bool (zs p), .int .u64 ((lo e : Nat) : Int), .string (hs e)] rfl
 simp only [setAll, List.set_cons_zero, List.set_cons_succ] at hP
 generalize hput2 : (((((x8.setCell ⟨w.heap.size, 0, none⟩ (.int .u64 ((zl p : Nat) : Int))).setCell ⟨w.heap.size, 1, none⟩ (.string (zh p))).setCell ⟨w.heap.size, 2, none⟩ (.bool (zs p))).setCell ⟨w.heap.size, 3, none⟩ (.int .u64 ((lo e : Nat) : Int))).setCell ⟨w.heap.size, 4, none⟩ (.string (hs e))) = x9 at hP
 have hB2 := hP.fc
 simp only [fcG, cellsF, neK, and_true, ne_eq, Nat.zero_add, Nat.reduceAdd] at hB2
 replace hL0 := hP
 go_wp2_with fail
 exact bodyPost_ret (v := .tuple #[frV p e, .int .i64 c]) (by simp [results, Tryz.results32, go_sem, hB2]) rfl ⟨rfl, hL0.bl⟩
set_option maxHeartbeats 4000000 in
set_option maxRecDepth 100000 in
theorem fof_false (x y s z p : Int) (a b : Int) (d e : Nat) (c : Int) (HO : RT 92 #[.int .i64 a] (intV x)) (HQ : RT 92 #[.int .i64 b] (intV y)) (HS : RT 95 #[intV y] (.int .i64 s)) (HA : RT 78 #[intV y] (natV d)) (HF : RT 76 #[intV x, natV d] (.tuple #[frV p e, .int .i64 c])) (hsg : decide (s < 0) = false) (w : World) :
  Calls Tryz.prog 32 #[.int .i64 a, .int .i64 b] w fun xe w' => xe = .returned (.tuple #[frV p e, .int .i64 c]) ∧ Below w.heap.size w w' := by
 have hL0 : GL w w [] := GL.start w
 replace HO := Lib.hid HO
 replace HQ := Lib.hid HQ
 replace HS := Lib.hid HS
 replace HA := Lib.hid HA
 replace HF := Lib.hid HF
 replace hL0 := (hL0.new rfl [.int .u64 0, .string ⟨#[]⟩, .bool false, .int .u64 0, .string ⟨#[]⟩] 34)
 generalize hweq : (w.alloc (.cells #[.int .u64 0, .string ⟨#[]⟩, .bool false, .int .u64 0, .string ⟨#[]⟩] 34)) = x1 at hL0
 go_enter Tryz.func32, Tryz.ntmps32
 go_wp2_with fail
 with_reducible refine Calls.mono (HO.out _) ?_
 rintro e x2 ⟨rfl, hb⟩
 replace hL0 := hL0.call hb
 clear hb hweq
 go_wp2_with fail
 with_reducible refine Calls.mono (HQ.out _) ?_
 rintro e x3 ⟨rfl, hb⟩
 replace hL0 := hL0.call hb
 clear hb
 replace hL0 := ((hL0.new rfl [.int .u64 ((zl x : Nat) : Int), .string (zh x), .bool (zs x)] 32).new (K := x3.heap.size + 1) (szA _ _) [.int .u64 ((zl y : Nat) : Int), .string (zh y), .bool (zs y)] 32)
 generalize hweq : ((x3.alloc (.cells #[.int .u64 ((zl x : Nat) : Int), .string (zh x), .bool (zs x)] 32)).alloc (.cells #[.int .u64 ((zl y : Nat) : Int), .string (zh y), .bool (zs y)] 32)) = x4 at hL0
 have hN0 := cells_of _ 0 [] rfl (hL0.get _ _ List.mem_cons_self)
 simp only [cellsF, and_true, Nat.zero_add, Nat.reduceAdd] at hN0
 go_wp2_with fail
 clear hN0
 with_reducible refine Calls.mono (HS.out _) ?_
 rintro e x5 ⟨rfl, hb⟩
 replace hL0 := hL0.call hb
 clear hb hweq
 go_upto_region 4 with fail
 obtain ⟨α, iα, F, hF1, hF2⟩ := cls x5
 have hq0 := cls_box hF1 hL0 _ _ List.mem_cons_self
 simp only [cellsC, and_true, Nat.zero_add, Nat.reduceAdd] at hq0
 have hq1 := cls_box hF1 hL0 _ _ (List.mem_cons_of_mem _ List.mem_cons_self)
 simp only [cellsC, and_true, Nat.zero_add, Nat.reduceAdd] at hq1
 refine region_qs 6 (C := fun w' => ∃ x, w' = F x) (by kernel_rfl) (by kernel_rfl) (cls_drew hF2) ?_
 simp only [List.take_succ_cons, List.take_zero, List.drop_succ_cons, List.drop_zero, List.take_nil, List.drop_nil]
 repeat (go_big_quiet_step (first | fail | (go_at_call 78; with_reducible exact cls_call hF1 hF2 HA.out _) | (go_at_call 76; with_reducible exact cls_call hF1 hF2 HF.out _)))
 refine wpQuiet_nil ?_
 rintro wq ⟨xq, rfl⟩
 replace hL0 := hL0.call (hF1 xq)
 clear  hq0 hq1 hF2
 generalize F xq = x6 at hL0 ⊢
 clear hF1 xq iα F α
 have hA := hL0.fc
 simp only [fcG, cellsF, neK, and_true, ne_eq, Nat.zero_add, Nat.reduceAdd] at hA
 have hP := hL0.put 2 (w.heap.size) _ rfl [.int .u64 ((zl p : Nat) : Int), .string (zh p), .bool (zs p), .int .u64 ((lo e : Nat) : Int), .string (hs e)] rfl
 simp only [setAll, List.set_cons_zero, List.set_cons_succ] at hP
 generalize hput1 : (((((x6.setCell ⟨w.heap.size, 0, none⟩ (.int .u64 ((zl p : Nat) : Int))).setCell ⟨w.heap.size, 1, none⟩ (.string (zh p))).setCell ⟨w.heap.size, 2, none⟩ (.bool (zs p))).setCell ⟨w.heap.size, 3, none⟩ (.int .u64 ((lo e : Nat) : Int))).setCell ⟨w.heap.size, 4, none⟩ (.string (hs e))) = x7 at hP
 have hB1 := hP.fc
 simp only [fcG, cellsF, neK, and_true, ne_eq, Nat.zero_add, Nat.reduceAdd] at hB1
 replace hL0 := hP
 go_wp2_with fail
 exact bodyPost_ret (v := .tuple #[frV p e, .int .i64 c]) (by simp [results, Tryz.results32, go_sem, hB1]) rfl ⟨rfl, hL0.bl⟩
end Go.Proofs.YtdkjckiialnpnaaGreatDoor
namespace Go.Proofs.YtdkjckiialnpnaaGreatDoor
open Go.RowKit
attribute [local irreducible] lo hs sm s64 c64 d64 b64 mh ml pd pc qd qc val hiB str cmpI srD lz nb isq zl zh zs
set_option maxHeartbeats 4000000 in
set_option maxRecDepth 100000 in
theorem ffrom_w (n u z : Int) (d v f : Nat) (HO : RT 63 #[.int .u64 0] (natV 0)) (HC : RT 88 #[intV n, natV d] (.tuple #[intV u, natV v])) (HL : RT 89 #[intV u, natV v] (frV z f)) (hd : d ≠ 0) (w : World) :
  Calls Tryz.prog 76 #[intV n, natV d] w fun xe w' => xe = .returned (.tuple #[frV z f, .int .i64 0]) ∧ Below w.heap.size w w' := by
 have hL0 : GL w w [] := GL.start w
 replace HO := Lib.hid HO
 replace HC := Lib.hid HC
 replace HL := Lib.hid HL
 have hz := ne_nat hd
 clear hd
 rcases hz with e0 | ⟨e0, e1⟩
 all_goals (
  replace hL0 := (((hL0.new rfl [.int .u64 ((zl n : Nat) : Int), .string (zh n), .bool (zs n)] 32).new (K := w.heap.size + 1) (szA _ _) [.int .u64 ((lo d : Nat) : Int), .string (hs d)] 30).new (K := w.heap.size + 1 + 1) (by simp only [World.size_alloc]) [.int .u64 0, .string ⟨#[]⟩, .bool false, .int .u64 0, .string ⟨#[]⟩] 34)
  generalize hweq : (((w.alloc (.cells #[.int .u64 ((zl n : Nat) : Int), .string (zh n), .bool (zs n)] 32)).alloc (.cells #[.int .u64 ((lo d : Nat) : Int), .string (hs d)] 30)).alloc (.cells #[.int .u64 0, .string ⟨#[]⟩, .bool false, .int .u64 0, .string ⟨#[]⟩] 34)) = x1 at hL0
  go_enter Tryz.func76, Tryz.ntmps76
  go_upto_region 1 with fail
  clear hweq
  obtain ⟨α, iα, F, hF1, hF2⟩ := cls x1
  have hq0 := cls_box hF1 hL0 _ _ (List.mem_cons_of_mem _ List.mem_cons_self)
  simp only [cellsC, and_true, Nat.zero_add, Nat.reduceAdd] at hq0
  refine region_qs 3 (C := fun w' => ∃ x, w' = F x) (by kernel_rfl) (by kernel_rfl) (cls_drew hF2) ?_
  simp only [List.take_succ_cons, List.take_zero, List.drop_succ_cons, List.drop_zero, List.take_nil, List.drop_nil]
  repeat (go_big_quiet_step (first | fail | (go_at_call 63; with_reducible exact cls_call hF1 hF2 HO.out _)))
  refine wpQuiet_nil ?_
  rintro wq ⟨xq, rfl⟩
  replace hL0 := hL0.call (hF1 xq)
  clear  hq0 hF2
  generalize F xq = x2 at hL0 ⊢
  clear hF1 xq iα F α
  have hN0 := cells_of _ 0 [] rfl (hL0.get _ _ (List.mem_cons_of_mem _ List.mem_cons_self))
  simp only [cellsF, and_true, Nat.zero_add, Nat.reduceAdd] at hN0
  have hN1 := cells_of _ 0 [] rfl (hL0.get _ _ (List.mem_cons_of_mem _ (List.mem_cons_of_mem _ List.mem_cons_self)))
  simp only [cellsF, and_true, Nat.zero_add, Nat.reduceAdd] at hN1
  go_wp2_with fail
  clear hN0 hN1
  with_reducible refine Calls.mono (HC.out _) ?_
  rintro e x3 ⟨rfl, hb⟩
  replace hL0 := hL0.call hb
  clear hb
  go_wp2_with fail
  with_reducible refine Calls.mono (HL.out _) ?_
  rintro e x4 ⟨rfl, hb⟩
  replace hL0 := hL0.call hb
  clear hb
  have hA := hL0.fc
  simp only [fcG, cellsF, neK, and_true, ne_eq, Nat.zero_add, Nat.reduceAdd] at hA
  have hP := hL0.put 0 (w.heap.size + 1 + 1) _ rfl [.int .u64 ((zl z : Nat) : Int), .string (zh z), .bool (zs z), .int .u64 ((lo f : Nat) : Int), .string (hs f)] rfl
  simp only [setAll, List.set_cons_zero, List.set_cons_succ] at hP
  generalize hput1 : (((((x4.setCell ⟨w.heap.size + 1 + 1, 0, none⟩ (.int .u64 ((zl z : Nat) : Int))).setCell ⟨w.heap.size + 1 + 1, 1, none⟩ (.string (zh z))).setCell ⟨w.heap.size + 1 + 1, 2, none⟩ (.bool (zs z))).setCell ⟨w.heap.size + 1 + 1, 3, none⟩ (.int .u64 ((lo f : Nat) : Int))).setCell ⟨w.heap.size + 1 + 1, 4, none⟩ (.string (hs f))) = x5 at hP
  have hB1 := hP.fc
  simp only [fcG, cellsF, neK, and_true, ne_eq, Nat.zero_add, Nat.reduceAdd] at hB1
  replace hL0 := hP
  go_wp2_with fail
  exact bodyPost_ret (v := .tuple #[frV z f, .int .i64 0]) (by simp [results, Tryz.results76, go_sem, hB1]) rfl ⟨rfl, hL0.bl⟩)
end Go.Proofs.YtdkjckiialnpnaaGreatDoor
namespace Go.Proofs.YtdkjckiialnpnaaGreatDoor
open Go.RowKit
attribute [local irreducible] lo hs sm s64 c64 d64 b64 mh ml pd pc qd qc val hiB str cmpI srD lz nb isq zl zh zs
theorem fe_den (q : Rat) : q.den = if fe q = 0 then 1 else fe q := by
 unfold fe
 have := q.den_nz
 split <;> simp_all
theorem frV_z (n : Int) : frV n 0 = .agg #[.int .u64 ((zl n : Nat) : Int), .string (zh n), .bool (zs n), .int .u64 0, .string ⟨#[]⟩] := by unfold frV; rw [lo_small Bs_pos, hs_small Bs_pos]; rfl
theorem fracV_of {q : Rat} {n : Int} {d : Nat} (hn : q.num = n) (hd : q.den = d) : fracV q = frV n (if d = 1 then 0 else d) := by subst hn hd; rfl
theorem one_o (w : World) : Calls Tryz.prog 63 #[.int .u64 1] w fun e w' => e = .returned (natV 1) ∧ Below w.heap.size w w' := of_val 1 1 rfl (by unfold Bs; omega) w
theorem zero_o (w : World) : Calls Tryz.prog 63 #[.int .u64 0] w fun e w' => e = .returned (natV 0) ∧ Below w.heap.size w w' := of_val 0 0 rfl (by unfold Bs; omega) w
theorem dec_sgn (z : Int) : decide (sgn z < 0) = decide (z < 0) := by
 have : sgn z < 0 ↔ z < 0 := by unfold sgn; split <;> (try split) <;> omega
 simp only [this]
theorem den_raw (n : Int) (e : Nat) (w : World) : Calls Tryz.prog 62 #[frV n e] w fun x w' => x = .returned (natV (if e = 0 then 1 else e)) ∧ Below w.heap.size w w' := by
 by_cases h : e = 0
 ·subst h; rw [if_pos rfl]; exact den_one_w n (whole_yes n) one_o w
 ·rw [if_neg h]; exact den_part_w n e (whole_no n e h) w
theorem denF (q : Rat) (w : World) : Calls Tryz.prog 62 #[fracV q] w fun x w' => x = .returned (natV q.den) ∧ Below w.heap.size w w' := by
 have h := den_raw q.num (fe q) w
 rw [← fe_den] at h
 exact h
theorem numF (q : Rat) (w : World) : Calls Tryz.prog 114 #[fracV q] w fun x w' => x = .returned (intV q.num) ∧ Below w.heap.size w w' := num_w q.num (fe q) w
theorem lowest_raw (n : Int) (d : Nat) (w : World) : Calls Tryz.prog 89 #[intV n, natV d] w fun x w' => x = .returned (frV n (if d = 1 then 0 else d)) ∧ Below w.heap.size w w' := by
 by_cases h : d = 1
 ·subst h; rw [if_pos rfl, frV_z]; exact lowest_one n one_o w
 ·rw [if_neg h]; exact lowest_part n d one_o h w
theorem lowestF {q : Rat} {n : Int} {d : Nat} (hn : q.num = n) (hd : q.den = d) (w : World) : Calls Tryz.prog 89 #[intV n, natV d] w fun x w' => x = .returned (fracV q) ∧ Below w.heap.size w w' := by
 rw [fracV_of hn hd]; exact lowest_raw n d w
theorem pon_raw (n g : Nat) (hg : g ≠ 0) (hn : (digs n).length ≤ 100000000) (w : World) : Calls Tryz.prog 165 #[natV n, natV g] w fun x w' => x = .returned (natV (n / g)) ∧ Below w.heap.size w w' := by
 by_cases h : g = 1
 ·subst h; rw [Nat.div_one]; exact pon_one n one_o w
 ·exact pon_div n g (n / g) (n % g) one_o (fun w => div_pos n g (by omega) (by omega) w) h w
theorem tdiv_sgn (z : Int) (g : Nat) : z.tdiv (g : Int) = if decide (z < 0) then -((z.natAbs / g : Nat) : Int) else ((z.natAbs / g : Nat) : Int) := by
 by_cases h : z < 0
 ·obtain ⟨n, rfl⟩ : ∃ n : Nat, z = -(n : Int) := ⟨z.natAbs, by omega⟩
  rw [decide_eq_true h, if_pos rfl, Int.natAbs_neg, Int.natAbs_natCast, Int.neg_tdiv, ← Int.ofNat_tdiv]
 ·obtain ⟨n, rfl⟩ : ∃ n : Nat, z = (n : Int) := ⟨z.natAbs, by omega⟩
  rw [decide_eq_false h, Int.natAbs_natCast, ← Int.ofNat_tdiv]; rfl
theorem part_raw (z : Int) (g : Nat) (hg : g ≠ 0) (hz : dI z ≤ 100000000) (w : World) : Calls Tryz.prog 169 #[intV z, natV g] w fun x w' => x = .returned (intV (z.tdiv g)) ∧ Below w.heap.size w w' := by
 have hF := fun w => fromI (decide (z < 0)) (z.natAbs / g) (z.tdiv g) (tdiv_sgn z g) w
 have hs := dec_sgn z
 by_cases h : z < 0
 ·rw [decide_eq_true h] at hF hs
  exact part_true z (sgn z) _ _ g _ (signI z) (absI z) (pon_raw _ g hg hz) hF hs w
 ·rw [decide_eq_false h] at hF hs
  exact part_false z (sgn z) _ _ g _ (signI z) (absI z) (pon_raw _ g hg hz) hF hs w
theorem cancel_raw (z : Int) (d : Nat) (hd : d ≠ 0) (hz : dI z ≤ 100000000) (hl : (digs d).length ≤ 100000000) (w : World) :
  Calls Tryz.prog 88 #[intV z, natV d] w fun x w' => x = .returned (.tuple #[intV (z.tdiv (Nat.gcd z.natAbs d : Nat)), natV (d / Nat.gcd z.natAbs d)]) ∧ Below w.heap.size w w' := by
 have hg : Nat.gcd z.natAbs d ≠ 0 := fun e => hd (Nat.gcd_eq_zero_iff.1 e).2
 exact cancel_w z _ _ d _ _ (absI z) (fun w => gcd_any z.natAbs d (Nat.le_trans hz (by omega)) (by omega) w) (part_raw z _ hg hz) (pon_raw d _ hg hl) w
theorem fromF (z : Int) (d : Nat) (hd : d ≠ 0) (hz : dI z ≤ 100000000) (hl : (digs d).length ≤ 100000000) (w : World) : Calls Tryz.prog 76 #[intV z, natV d] w fun x w' => x = .returned (.tuple #[fracV (mkRat z d), .int .i64 0]) ∧ Below w.heap.size w w' := by
 obtain ⟨h1, h2⟩ := canc (z := z) hd
 exact ffrom_w z _ _ d _ _ zero_o (cancel_raw z d hd hz hl) (fun w => lowestF h1 h2 w) hd w
end Go.Proofs.YtdkjckiialnpnaaGreatDoor
namespace Go.Proofs.YtdkjckiialnpnaaGreatDoor
open Go.RowKit
attribute [local irreducible] lo hs sm s64 c64 d64 b64 mh ml pd pc qd qc val hiB str cmpI srD lz nb isq zl zh zs
theorem of_val_q (n d : Int) (h0 : d ≠ 0) : mkRat (if d < 0 then -n else n) d.natAbs = (n : Rat) / (d : Rat) := by
 rw [Rat.mkRat_eq_div]
 by_cases h : d < 0
 ·rw [if_pos h]
  have e : ((d.natAbs : Nat) : Rat) = -(d : Rat) := by
   rw [show ((d.natAbs : Nat) : Rat) = (((d.natAbs : Nat) : Int) : Rat) from (Rat.intCast_natCast _).symm, show ((d.natAbs : Nat) : Int) = -d by omega, Rat.intCast_neg]
  rw [e, Rat.intCast_neg]
  have hd : (d : Rat) ≠ 0 := by simpa using h0
  grind
 ·rw [if_neg h, show ((d.natAbs : Nat) : Rat) = (((d.natAbs : Nat) : Int) : Rat) from (Rat.intCast_natCast _).symm, show ((d.natAbs : Nat) : Int) = d by omega]
theorem i64_dI {z : Int} (h1 : -9223372036854775808 ≤ z) (h2 : z < 9223372036854775808) : dI z ≤ 1 := digs_length_iff.2 (by unfold Bs; omega)
theorem ofF (n d : Int) (a1 : -9223372036854775808 ≤ n) (a2 : n < 9223372036854775808) (b1 : -9223372036854775808 ≤ d) (b2 : d < 9223372036854775808) (h0 : d ≠ 0) (w : World) :
  Calls Tryz.prog 32 #[.int .i64 n, .int .i64 d] w fun x w' => x = .returned (.tuple #[fracV ((n : Rat) / (d : Rat)), .int .i64 0]) ∧ Below w.heap.size w w' := by
 rw [← of_val_q n d h0]
 have hs := dec_sgn d
 have ln := i64_dI a1 a2
 have ld : (digs d.natAbs).length ≤ 1 := i64_dI b1 b2
 by_cases h : d < 0
 ·rw [decide_eq_true h] at hs
  rw [if_pos h]
  exact fof_true n d (sgn d) (-n) _ n d _ _ 0 (fun w => ofI n a1 a2 w) (fun w => ofI d b1 b2 w) (signI d) (fun w => negI n w) (absI d) (fromF (-n) d.natAbs (by omega) (by rw [dI_neg]; omega) (by omega)) hs w
 ·rw [decide_eq_false h] at hs
  rw [if_neg h]
  exact fof_false n d (sgn d) n _ n d _ _ 0 (fun w => ofI n a1 a2 w) (fun w => ofI d b1 b2 w) (signI d) (absI d) (fromF n d.natAbs (by omega) (by omega) (by omega)) hs w
end Go.Proofs.YtdkjckiialnpnaaGreatDoor
namespace Go.Proofs.YtdkjckiialnpnaaGreatDoor
open Go.RowKit
attribute [local irreducible] lo hs sm s64 c64 d64 b64 mh ml pd pc qd qc val hiB str cmpI srD lz nb isq zl zh zs
set_option maxHeartbeats 4000000 in
set_option maxRecDepth 100000 in
theorem gden_w (s : Bool) (a b : Option Addr) (n c m d : Nat) (w : World) :
  Calls Tryz.prog 79 #[.agg #[.bool s, .slice a n c, .slice b m d]] w fun xe w' => xe = .returned (.agg #[.bool false, .slice b m d]) ∧ Below w.heap.size w w' := by
 have hL0 : GL w w [] := GL.start w
 replace hL0 := ((hL0.new rfl [.bool s, .slice a n c, .slice b m d] 50).new (K := w.heap.size + 1) (szA _ _) [.bool false, .slice b m d] 48)
 generalize hweq : ((w.alloc (.cells #[.bool s, .slice a n c, .slice b m d] 50)).alloc (.cells #[.bool false, .slice b m d] 48)) = x1 at hL0
 go_enter Tryz.func79, Tryz.ntmps79
 have hN0 := cells_of _ 0 [] rfl (hL0.get _ _ List.mem_cons_self)
 simp only [cellsF, and_true, Nat.zero_add, Nat.reduceAdd] at hN0
 have hN1 := cells_of _ 0 [] rfl (hL0.get _ _ (List.mem_cons_of_mem _ List.mem_cons_self))
 simp only [cellsF, and_true, Nat.zero_add, Nat.reduceAdd] at hN1
 go_wp2_with fail
 exact bodyPost_ret (v := .agg #[.bool false, .slice b m d]) (by simp [results, Tryz.results79, go_sem, hN0 ,hN1]) rfl ⟨rfl, hL0.bl⟩
set_option maxHeartbeats 4000000 in
set_option maxRecDepth 100000 in
theorem gof_w (s : Bool) (a b : Option Addr) (n c m d : Nat) (y z x : Int) (p q e : Nat) (K : World → Prop) (hK : Keeps K) (HZ : RK K 51 #[.agg #[.bool s, .slice a n c]] (intV z)) (HD : RT 79 #[.agg #[.bool s, .slice a n c, .slice b m d]] (.agg #[.bool false, .slice b m d])) (L : World → Prop) (hL : Keeps L) (HY : RK L 51 #[.agg #[.bool false, .slice b m d]] (intV y)) (HA : RT 78 #[intV y] (natV p)) (HO : RT 63 #[.int .u64 1] (natV 1)) (HP : RT 77 #[natV p, natV 1] (natV q)) (HF : RT 76 #[intV z, natV q] (.tuple #[frV x e, .int .i64 0])) (w : World) (kK : K w) (kL : L w) :
  Calls Tryz.prog 20 #[.agg #[.bool s, .slice a n c, .slice b m d]] w fun xe w' => xe = .returned (frV x e) ∧ Below w.heap.size w w' := by
 have hL0 : GL w w [] := GL.start w
 replace hK := Lib.hid hK
 replace HZ := Lib.hid HZ
 replace HD := Lib.hid HD
 replace hL := Lib.hid hL
 replace HY := Lib.hid HY
 replace HA := Lib.hid HA
 replace HO := Lib.hid HO
 replace HP := Lib.hid HP
 replace HF := Lib.hid HF
 replace hL0 := ((hL0.new rfl [.bool s, .slice a n c, .slice b m d] 50).new (K := w.heap.size + 1) (szA _ _) [.int .u64 0, .string ⟨#[]⟩, .bool false, .int .u64 0, .string ⟨#[]⟩] 34)
 generalize hweq : ((w.alloc (.cells #[.bool s, .slice a n c, .slice b m d] 50)).alloc (.cells #[.int .u64 0, .string ⟨#[]⟩, .bool false, .int .u64 0, .string ⟨#[]⟩] 34)) = x1 at hL0
 go_enter Tryz.func20, Tryz.ntmps20
 go_upto_region 1 with fail
 have kK1 := hK.out.at hL0.bl kK
 have kL1 := hL.out.at hL0.bl kL
 clear hweq
 refine region_gh (by kernel_rfl) (by kernel_rfl) ?_
 refine lex_seg (gl := []) 13 (by kernel_rfl) ?_
 intro α iα F hF1 hF2
 have hq := GL.seg hF1 hL0
 simp only [fcC, cellsC, and_true, Nat.zero_add, Nat.reduceAdd] at hq
 simp only [List.take_succ_cons, List.take_zero, List.drop_succ_cons, List.drop_zero, List.take_nil, List.drop_nil]
 repeat (go_big_quiet_step (first | fail | (go_at_call 51; with_reducible exact seg_callK hK.out hF1 hF2 kK1 HZ.out _) | (go_at_call 79; with_reducible exact seg_call hF2 HD.out _) | (go_at_call 51; with_reducible exact seg_callK hL.out hF1 hF2 kL1 HY.out _) | (go_at_call 78; with_reducible exact seg_call hF2 HA.out _) | (go_at_call 63; with_reducible exact seg_call hF2 HO.out _) | (go_at_call 77; with_reducible exact seg_call hF2 HP.out _) | (go_at_call 76; with_reducible exact seg_call hF2 HF.out _)))
 refine wpQuiet_nil ?_
 clear hq hF1 hF2 iα F α
 refine lex_new [.int .u64 0, .string ⟨#[]⟩, .bool false, .int .u64 0, .string ⟨#[]⟩] 3 34 34 rfl rfl (of_decide_eq_true (by kernel_rfl)) (by kernel_rfl) rfl new_frac ?_
 simp only [Act.put, List.setIfInBounds_toArray, List.set_cons_succ, List.set_cons_zero]
 refine lex_put [.int .u64 ((zl x : Nat) : Int), .string (zh x), .bool (zs x), .int .u64 ((lo e : Nat) : Int), .string (hs e)] [.int .u64 0, .string ⟨#[]⟩, .bool false, .int .u64 0, .string ⟨#[]⟩] 3 34 (.tmp 16) rfl (by kernel_rfl) (by simp [toG, upd]) rfl (fun w k h => put_frac _ _ _ _ _ _ _ _ _ _ w k h) ?_
 simp only [Act.put]
 refine lex_seg (gl := [(3, [.int .u64 ((zl x : Nat) : Int), .string (zh x), .bool (zs x), .int .u64 ((lo e : Nat) : Int), .string (hs e)], true), (3, [.int .u64 0, .string ⟨#[]⟩, .bool false, .int .u64 0, .string ⟨#[]⟩], false)]) 1 (by kernel_rfl) ?_
 intro α iα F hF1 hF2
 have hq := GL.seg hF1 hL0
 simp only [fcC, cellsC, and_true, Nat.zero_add, Nat.reduceAdd] at hq
 simp only [List.take_succ_cons, List.take_zero, List.drop_succ_cons, List.drop_zero, List.take_nil, List.drop_nil]
 repeat (go_big_quiet_step (first | fail | (go_at_call 51; with_reducible exact seg_callK hK.out hF1 hF2 kK1 HZ.out _) | (go_at_call 79; with_reducible exact seg_call hF2 HD.out _) | (go_at_call 51; with_reducible exact seg_callK hL.out hF1 hF2 kL1 HY.out _) | (go_at_call 78; with_reducible exact seg_call hF2 HA.out _) | (go_at_call 63; with_reducible exact seg_call hF2 HO.out _) | (go_at_call 77; with_reducible exact seg_call hF2 HP.out _) | (go_at_call 76; with_reducible exact seg_call hF2 HF.out _)))
 refine wpQuiet_nil ?_
 clear hq hF1 hF2 iα F α
 refine lexG_nil ?_
 intro κ x2 hS
 replace hL0 := hL0.ghs hS [(3, [.int .u64 ((zl x : Nat) : Int), .string (zh x), .bool (zs x), .int .u64 ((lo e : Nat) : Int), .string (hs e)])] (by simp) (by intro p hp; simp only [List.mem_cons, List.not_mem_nil, or_false] at hp; rcases hp with rfl <;> exact ⟨_, by simp only [toG, upd]; rfl⟩)
 simp only [List.map_cons, List.map_nil, List.cons_append, List.nil_append] at hL0
 simp only [over_toG, over_nil, Act.put, List.setIfInBounds_toArray, List.set_cons_succ, List.set_cons_zero]
 clear hS
 generalize κ 3 = k2_3 at *
 clear kK1 kL1
 have hA := hL0.fc
 simp only [fcG, cellsF, neK, and_true, ne_eq, Nat.zero_add, Nat.reduceAdd] at hA
 have hP := hL0.put 1 (w.heap.size + 1) _ rfl [.int .u64 ((zl x : Nat) : Int), .string (zh x), .bool (zs x), .int .u64 ((lo e : Nat) : Int), .string (hs e)] rfl
 simp only [setAll, List.set_cons_zero, List.set_cons_succ] at hP
 generalize hput1 : (((((x2.setCell ⟨w.heap.size + 1, 0, none⟩ (.int .u64 ((zl x : Nat) : Int))).setCell ⟨w.heap.size + 1, 1, none⟩ (.string (zh x))).setCell ⟨w.heap.size + 1, 2, none⟩ (.bool (zs x))).setCell ⟨w.heap.size + 1, 3, none⟩ (.int .u64 ((lo e : Nat) : Int))).setCell ⟨w.heap.size + 1, 4, none⟩ (.string (hs e))) = x3 at hP
 have hB1 := hP.fc
 simp only [fcG, cellsF, neK, and_true, ne_eq, Nat.zero_add, Nat.reduceAdd] at hB1
 replace hL0 := hP
 go_wp2_with fail
 exact bodyPost_ret (v := frV x e) (by simp [results, Tryz.results20, go_sem, hB1]) rfl ⟨rfl, hL0.bl⟩
end Go.Proofs.YtdkjckiialnpnaaGreatDoor
namespace Go.Proofs.YtdkjckiialnpnaaGreatDoor
open Go.RowKit
attribute [local irreducible] lo hs sm s64 c64 d64 b64 mh ml pd pc qd qc val hiB str cmpI srD lz nb isq zl zh zs fe
/-- A slice's fractions. -/
structure FS (w : World) (g : Nat) (qs : List Rat) : Prop where
 cell : ∀ i (h : i < qs.length), w.cell? ⟨g, i * 5, none⟩ = some (.int .u64 ((zl qs[i].num : Nat) : Int)) ∧ w.cell? ⟨g, i * 5 + 1, none⟩ = some (.string (zh qs[i].num)) ∧ w.cell? ⟨g, i * 5 + 2, none⟩ = some (.bool (zs qs[i].num)) ∧
  w.cell? ⟨g, i * 5 + 3, none⟩ = some (.int .u64 ((lo (fe qs[i]) : Nat) : Int)) ∧ w.cell? ⟨g, i * 5 + 4, none⟩ = some (.string (hs (fe qs[i])))
 lt : g < w.heap.size
theorem FS.below {w w' : World} {g : Nat} {qs : List Rat} (h : FS w g qs) (hb : Below w.heap.size w w') : FS w' g qs := by
 have hs := hb.size
 have hl := h.lt
 refine ⟨fun i hi => ?_, by omega⟩
 obtain ⟨h0, h1, h2, h3, h4⟩ := h.cell i hi
 exact ⟨(hb.cell (p := ⟨g, i * 5, none⟩) hl).trans h0, (hb.cell (p := ⟨g, i * 5 + 1, none⟩) hl).trans h1, (hb.cell (p := ⟨g, i * 5 + 2, none⟩) hl).trans h2, (hb.cell (p := ⟨g, i * 5 + 3, none⟩) hl).trans h3, (hb.cell (p := ⟨g, i * 5 + 4, none⟩) hl).trans h4⟩
def SlQ (w : World) (v : Value) (qs : List Rat) : Prop := (∃ ao c, v = .slice ao 0 c ∧ qs = []) ∨ ∃ g c, v = .slice (some ⟨g, 0, none⟩) qs.length c ∧ FS w g qs
theorem SlQ.below {w w' : World} {v : Value} {qs : List Rat} (h : SlQ w v qs) (hb : Below w.heap.size w w') : SlQ w' v qs := by
 rcases h with h | ⟨g, c, h1, h2⟩
 ·exact .inl h
 ·exact .inr ⟨g, c, h1, h2.below hb⟩
theorem SlQ.keeps (v : Value) (qs : List Rat) : Keeps (fun w => SlQ w v qs) := fun _ _ hb h => h.below hb
end Go.Proofs.YtdkjckiialnpnaaGreatDoor
namespace Go.Proofs.YtdkjckiialnpnaaGreatDoor.Rx
open Go.RowKit
attribute [local irreducible] tv dg cmpI nb
theorem td_one : (td 1).length = 1 := by rw [td_pos (by omega), show 1 / 10000 = 0 by rfl, td_zero]; rfl
end Go.Proofs.YtdkjckiialnpnaaGreatDoor.Rx
namespace Go.Proofs.YtdkjckiialnpnaaGreatDoor.Rx
open Go.RowKit
attribute [local irreducible] tv dg cmpI nb isq
/-- What the root's digits so far are good for. -/
structure SqS (a j : Nat) (X : List Nat) : Prop where
 lt : ∀ d ∈ X, d < 10000
 zero : ∀ (k : Nat) (h : k < X.length), k < j → X[k] = 0
 low : tv X * tv X ≤ a
 high : a < (tv X + 10000 ^ j) * (tv X + 10000 ^ j)
theorem SqS.start (a m : Nat) (h : (td a).length ≤ 2 * m) : SqS a m (List.replicate m 0) := by
 refine ⟨fun d hd => by rw [(List.mem_replicate.1 hd).2]; omega, fun k h _ => by simp, by rw [tv_zeros]; omega, ?_⟩
 have := td_length.1 h
 rwa [tv_zeros, Nat.zero_add, ← Nat.pow_add, ← Nat.two_mul]
theorem tv_set0 {X : List Nat} {i : Nat} (h : i < X.length) (h0 : X[i] = 0) (d : Nat) : tv (X.set i d) = tv X + 10000 ^ i * d := by
 have := tv_set h d
 rw [h0, Nat.mul_zero, Nat.add_zero] at this
 exact this
theorem SqS.set {a i : Nat} {X : List Nat} (h : SqS a (i + 1) X) (hi : i < X.length) {d : Nat} (hd : d < 10000) (h1 : (tv X + 10000 ^ i * d) * (tv X + 10000 ^ i * d) ≤ a) (h2 : a < (tv X + 10000 ^ i * (d + 1)) * (tv X + 10000 ^ i * (d + 1))) :
  SqS a i (X.set i d) := by
 have e := tv_set0 hi (h.zero i hi (by omega)) d
 refine ⟨fun x hx => ?_, fun k hk hki => ?_, by rw [e]; exact h1, ?_⟩
 ·rcases List.mem_or_eq_of_mem_set hx with hx | hx
  ·exact h.lt x hx
  ·rw [hx]; exact hd
 ·rw [List.getElem_set_ne (by omega)]
  exact h.zero k (by rw [List.length_set] at hk; exact hk) (by omega)
 ·rw [e, Nat.add_assoc, ← Nat.mul_succ]
  exact h2
theorem SqS.done {a : Nat} {X : List Nat} (h : SqS a 0 X) : tv X = isq a := isq_uniq h.low (by have := h.high; rwa [Nat.pow_zero] at this)
end Go.Proofs.YtdkjckiialnpnaaGreatDoor.Rx
namespace Go.Proofs.YtdkjckiialnpnaaGreatDoor.Rx
open Go.RowKit
attribute [local irreducible] tv dg cmpI nb isq
theorem td_drop (n k : Nat) : (td n).drop k = td (n / 10000 ^ k) := by
 induction k generalizing n with
 | zero => simp
 | succ k ih =>
  by_cases h : n = 0
  ·rw [h, Nat.zero_div, td_zero]; simp
  ·rw [td_pos h, List.drop_succ_cons, ih, Nat.div_div_eq_div_mul, Nat.pow_succ, Nat.mul_comm 10000]
set_option maxHeartbeats 4000000 in
set_option maxRecDepth 100000 in
theorem rleading_any (v : Value) (l : List Nat) (F : Nat) (hd : ∀ d ∈ l, d < 10000) (hF : F ≤ 1000000) (hl : l.length ≤ F + 4) (w : World) (h : Sl w v l) :
  Calls Tryz.prog 146 #[v, .int .i64 (F : Int)] w fun e w' => e = .returned (.int .i64 ((tv (l.drop F) : Nat) : Int)) ∧ w = w' := by
 obtain ⟨ao, c, rfl, hv⟩ := h.view
 obtain ⟨n, hn⟩ : ∃ n, n = l.length := ⟨_, rfl⟩
 rw [← hn] at hl hv ⊢
 have h0 := Lib.hid (show tv (l.drop n) = 0 by rw [List.drop_eq_nil_of_le (by omega), tv_nil])
 replace hn := Lib.hid hn
 replace hv := Lib.hid hv
 replace hd := Lib.hid hd
 clear h
 go_enter Tryz.func146, Tryz.ntmps146
 go_wp2_with fail
 go_loopw [5, 6] (fun s z wr => ∃ j : Nat, j ≤ n ∧ (F ≤ j ∨ j = n) ∧ z = .int .i64 ((j : Int) - 1) ∧ s = .int .i64 ((tv (l.drop j) : Nat) : Int) ∧ w = wr) (fun _ z _ => (intOf z + 1).toNat)
 case atStart => exact ⟨n, Nat.le_refl _, .inr rfl, by first | rfl | go_num, by rw [h0.out]; rfl, rfl⟩
 case round =>
  obtain ⟨j, hj, hFj, rfl, rfl, rfl⟩ := hrel
  rcases Nat.lt_or_ge F j with hlt | hge
  ·obtain ⟨i, rfl⟩ : ∃ i, j = i + 1 := ⟨j - 1, by omega⟩
   obtain ⟨a, rfl, -, hs⟩ := hv.out (by omega)
   have hil : i < l.length := by have := hn.out; omega
   have hcell := hs.cell i hil
   have hx := hd.out _ (List.getElem_mem hil)
   have hnext : tv (l.drop i) = l[i] + 10000 * tv (l.drop (i + 1)) := by rw [List.drop_eq_getElem_cons hil, tv_cons]
   have hT : tv (l.drop (i + 1)) < 1000000000000 := by
    have h1 := tv_lt (l := l.drop (i + 1)) fun d hdd => hd.out d (List.mem_of_mem_drop hdd)
    exact Nat.lt_of_lt_of_le h1 (Nat.le_trans (Nat.pow_le_pow_right (by omega) (show _ ≤ 3 by rw [List.length_drop]; have := hn.out; omega)) (by decide))
   have e1 : (((i + 1 : Nat) : Int) - 1) = (i : Int) := by omega
   have k1 : (F : Int) ≤ (i : Int) := by omega
   have k2 : (i : Int) < (n : Int) := by omega
   have hTi : ((tv (l.drop (i + 1)) : Nat) : Int) ≤ 1000000000000 := by omega
   clear hT hs
   generalize l[i] = x at *
   generalize tv (l.drop (i + 1)) = T at *
   replace hnext := Lib.hid hnext
   replace hFj := Lib.hid hFj
   rw [e1]
   go_wp2_with fail
   go_roundw
   case rel => exact ⟨i, by omega, .inl (by omega), by first | rfl | go_num, (by rw [hnext.out]; go_num), by trivial⟩
   case measure => simp [intOf]
  ·have hfin : tv (l.drop j) = tv (l.drop F) := by
    rcases hFj with h | h
    ·rw [show j = F by omega]
    ·rw [List.drop_eq_nil_of_le (by have := hn.out; omega), List.drop_eq_nil_of_le (by have := hn.out; omega)]
   have k1 : ¬ (F : Int) ≤ (j : Int) - 1 := by omega
   replace hfin := Lib.hid hfin
   replace hFj := Lib.hid hFj
   go_wp2_with fail
   go_ret
   exact ⟨by rw [← hfin.out]; rfl, rfl⟩
/-- What Div's rounds keep: the digits from i on are the quotient's, r is what is left. -/
structure DivS (a b : Nat) (A X : List Nat) (i r : Nat) : Prop where
 lt : ∀ d ∈ X, d < 10000
 zero : ∀ (k : Nat) (h : k < X.length), k < i → X[k] = 0
 eq : tv X * b + 10000 ^ i * r + tv (A.take i) = a
 rem : r < b
theorem DivS.step {a b i r : Nat} {A X : List Nat} (h : DivS a b A X (i + 1) r) (hA : ∀ d ∈ A, d < 10000) (hi : i < X.length) {y : Nat} (hy : y = dg A i + 10000 * r) :
  y / b ≤ 9999 ∧ DivS a b A (X.set i (y / b)) i (y - b * (y / b)) := by
 have hb : 0 < b := Nat.lt_of_le_of_lt (Nat.zero_le _) h.rem
 have hx := dg_lt hA i
 have hr := h.rem
 have hq : y / b ≤ 9999 := by
  have h1 : y < 10000 * b := by
   have : 10000 * (r + 1) ≤ 10000 * b := Nat.mul_le_mul_left _ hr
   omega
  have := (Nat.div_lt_iff_lt_mul hb).2 h1
  omega
 have e := tv_set0 hi (h.zero i hi (by omega)) (y / b)
 have hm := Nat.div_add_mod y b
 have hml := Nat.mod_lt y hb
 refine ⟨hq, fun x hx => ?_, fun k hk hki => ?_, ?_, by omega⟩
 ·rcases List.mem_or_eq_of_mem_set hx with hx | hx
  ·exact h.lt x hx
  ·omega
 ·rw [List.getElem_set_ne (by omega)]
  exact h.zero k (by rw [List.length_set] at hk; exact hk) (by omega)
 ·have e0 := h.eq
  rw [tv_take, Nat.pow_succ] at e0
  rw [e, Nat.add_mul]
  have e1 : 10000 ^ i * (y / b) * b + 10000 ^ i * (y - b * (y / b)) = 10000 ^ i * dg A i + 10000 ^ i * 10000 * r := by
   rw [Nat.mul_assoc, Nat.mul_assoc, ← Nat.mul_add, ← Nat.mul_add, Nat.mul_comm (y / b) b, show b * (y / b) + (y - b * (y / b)) = y by omega, hy]
  generalize tv X * b = p1 at *
  generalize 10000 ^ i * (y / b) * b = p2 at *
  generalize 10000 ^ i * (y - b * (y / b)) = p3 at *
  generalize 10000 ^ i * dg A i = p4 at *
  generalize 10000 ^ i * 10000 * r = p5 at *
  omega
theorem DivS.done {a b r : Nat} {A X : List Nat} (h : DivS a b A X 0 r) : tv X = a / b ∧ r = a % b := by
 have e := h.eq
 rw [Nat.pow_zero, Nat.one_mul, List.take_zero, tv_nil, Nat.add_zero, Nat.mul_comm] at e
 have hb : 0 < b := Nat.lt_of_le_of_lt (Nat.zero_le _) h.rem
 rw [← e]
 exact ⟨by rw [Nat.mul_add_div hb, Nat.div_eq_of_lt h.rem, Nat.add_zero], by rw [Nat.mul_add_mod, Nat.mod_eq_of_lt h.rem]⟩
theorem DivS.start {a b : Nat} (hab : b ≤ a) (hb : 0 < b) : ∃ i, i + (td b).length = (td a).length + 1 ∧ DivS a b (td a) (List.replicate i 0) i (tv ((td a).drop i)) := by
 have hlen := td_mono hab
 have hbl : 0 < (td b).length := by
  rcases Nat.eq_zero_or_pos (td b).length with h | h
  ·have := td_nil.1 (List.eq_nil_of_length_eq_zero h); omega
  ·exact h
 refine ⟨(td a).length + 1 - (td b).length, by omega, fun d hd => by rw [(List.mem_replicate.1 hd).2]; omega, fun k h _ => by simp, ?_, ?_⟩
 ·rw [tv_zeros, Nat.zero_mul, Nat.zero_add]
  have := tv_append ((td a).take ((td a).length + 1 - (td b).length)) ((td a).drop ((td a).length + 1 - (td b).length))
  rw [List.take_append_drop, tv_td, List.length_take, Nat.min_eq_left (by omega)] at this
  omega
 ·rw [td_drop, tv_td]
  refine Nat.lt_of_not_le fun h => ?_
  have h1 : (td (a / 10000 ^ ((td a).length + 1 - (td b).length))).length = (td b).length - 1 := by
   rw [← td_drop, List.length_drop]; omega
  have := td_mono h
  omega
/-- The bounds that the leading digits give. -/
theorem lead_low {b y F t : Nat} (ht : t = b / 10000 ^ F) : y / 10000 ^ F / (t + 1) * b ≤ y := by
 have hp : 0 < 10000 ^ F := Nat.pow_pos (by omega)
 have h1 : b < 10000 ^ F * (t + 1) := by
  have := Nat.lt_mul_div_succ b hp
  rwa [← ht] at this
 have h2 : y / 10000 ^ F / (t + 1) * b ≤ y / 10000 ^ F / (t + 1) * (10000 ^ F * (t + 1)) := Nat.mul_le_mul_left _ (Nat.le_of_lt h1)
 have h3 : y / 10000 ^ F / (t + 1) * (t + 1) ≤ y / 10000 ^ F := Nat.div_mul_le_self _ _
 have h4 : y / 10000 ^ F * 10000 ^ F ≤ y := Nat.div_mul_le_self _ _
 have h5 : y / 10000 ^ F / (t + 1) * (10000 ^ F * (t + 1)) = (y / 10000 ^ F / (t + 1) * (t + 1)) * 10000 ^ F := by
  rw [Nat.mul_comm (10000 ^ F), Nat.mul_assoc]
 have h6 : (y / 10000 ^ F / (t + 1) * (t + 1)) * 10000 ^ F ≤ y / 10000 ^ F * 10000 ^ F := Nat.mul_le_mul_right _ h3
 omega
theorem lead_high {b y F t : Nat} (ht : t = b / 10000 ^ F) (ht0 : 0 < t) : y / b ≤ y / 10000 ^ F / t := by
 rw [Nat.div_div_eq_div_mul]
 have h1 : 10000 ^ F * t ≤ b := by rw [ht]; exact Nat.mul_div_le _ _
 exact Nat.div_le_div_left h1 (Nat.mul_pos (Nat.pow_pos (by omega)) ht0)
end Go.Proofs.YtdkjckiialnpnaaGreatDoor.Rx
namespace Go.Proofs.YtdkjckiialnpnaaGreatDoor.Rx
open Go.RowKit
attribute [local irreducible] tv dg cmpI nb isq
theorem add_add (a : Addr) (i j : Nat) : (a.add i).add j = a.add (i + j) := by
 unfold Addr.add
 by_cases h : i = 0
 ·subst h; simp
 ·by_cases h2 : j = 0
  ·subst h2; simp [h]
  ·simp [h, h2, Nat.add_assoc]
theorem small_len {k : Nat} (hk : k ≤ 9999) : (td k).length ≤ 1 := td_length.2 (by rw [Nat.pow_one]; omega)
theorem own_one (w : World) (x : Int) : (w.alloc (.cells #[.int .i64 x] 3)).ownsRow w.heap.size 3 1 (.slice (some ⟨w.heap.size, 0, none⟩) 1 1) 1 [.int .i64 x] :=
 ⟨rfl, .inr ⟨w.heap.size, 1, #[.int .i64 x], rfl, Nat.le_refl _, heap_alloc_new w _, Nat.le_refl _, by unfold maxLen; omega, rfl, rfl⟩⟩
theorem slice_from (w : World) (aA : Addr) (L ca i1 : Nat) (h : i1 ≤ L) (hc : L ≤ ca) :
  (Instr.slice 38 (.slice (some aA) L ca) (some (.int .i64 (i1 : Int))) none none).run Tryz.prog w = .ok (.slice (some (if ca = i1 then aA else aA.add i1)) (L - i1) (ca - i1)) w := by
 obtain ⟨i0, hi, hz0, hz1, hz2⟩ := info_parts Tryz.infoI
 have h1 : (0 : Int) ≤ (i1 : Int) := by omega
 have h2 : (i1 : Int) ≤ (L : Int) := by omega
 by_cases hh : ca = i1
 ·simp [Instr.slice, Instr.sliceBounds, run_underlying Tryz.underlying38, run_sliceBound, h1, h2, hh, go_sem] <;> rfl
 ·simp [Instr.slice, Instr.sliceBounds, run_underlying Tryz.underlying38, run_sliceBound, h1, h2, hh, go_sem] <;> rfl
theorem made2 (w : World) (o : Obj) : ((w.alloc o).alloc (.cells #[] 3)).ownsRow (w.heap.size + 1) 3 1 (.slice (some ⟨w.heap.size + 1, 0, none⟩) 0 0) 0 [] := by
 have h := World.ownsRow_made (base := w.heap.size + 1) (e := 3) (size := 1) (w.alloc o) #[] 0 (by rw [World.size_alloc]; exact Nat.le_refl _) (Nat.zero_le _) rfl
 rwa [World.size_alloc] at h
/-- trim leaves the block that its argument looks into. -/
theorem trim_blk (v : Value) (l : List Nat) (hd : ∀ d ∈ l, d < 10000) (hB : l.length < 9223372036854775807) (w : World) (h : Sl w v l) :
  Calls Tryz.prog 147 #[v] w fun e w' => ∃ v', e = .returned v' ∧ Sl w v' (td (tv l)) ∧ v'.ownBlock = v.ownBlock ∧ w = w' := by
 obtain ⟨z, hz⟩ := td_tv hd
 rcases h with ⟨ao, c, rfl, rfl, hc0⟩ | ⟨a, c, rfl, h2, h3⟩
 ·refine (trim_nil ao c w).mono ?_
  rintro e w' ⟨rfl, rfl⟩
  exact ⟨_, rfl, .inl ⟨ao, c, rfl, by rw [tv_nil, td_zero], hc0⟩, rfl, rfl⟩
 ·have hlen : l.length = (td (tv l)).length + z := by
   have := congrArg List.length hz
   rwa [List.length_append, List.length_replicate] at this
  rw [hz] at h3
  rw [hlen] at h2 hB ⊢
  refine (trim_row a c _ z (td (tv l)) rfl h2 hB (fun h => td_last h) w h3).mono ?_
  rintro e w' ⟨rfl, rfl⟩
  exact ⟨_, rfl, .inr ⟨a, c, rfl, by omega, h3.left⟩, rfl, rfl⟩
theorem Sl.set_off {w : World} {v : Value} {l : List Nat} {g k : Nat} {u : Value} (h : Sl w v l) (ho : v.ownBlock ≠ some g) : Sl (w.setCell ⟨g, k, none⟩ u) v l := by
 rcases h with h | ⟨a, c, rfl, h2, h3⟩
 ·exact .inl h
 ·have hne : a.block ≠ g := fun e => ho (by rw [← e]; rfl)
  refine .inr ⟨a, c, rfl, h2, fun i hi => ?_, ?_⟩
  ·rw [← h3.cell i hi]
   exact World.cell?_of_block (by rw [addB]; exact Below.heap_setCell _ _ _ _ hne)
  ·have := h3.blk
   simpa [World.setCell] using this
theorem wpList_append_sl {w : World} {ops : Array Oper} {rest : List Oper} {o : Oper} {a : Act} {Q : Exit → Act → World → Prop} (hgd : o.guard = none) (s x : Operand)
  (ho : o.op = .call { callee := .builtin .append, args := #[s, x], argTypes := #[38, 38] })
  (base : Nat) (v : Value) (n : Nat) (xs : List Value) (hs : a.eval s = v) (hown : w.ownsRow base 3 1 v n xs)
  (v2 : Value) (l : List Nat) (hx : a.eval x = v2) (hsl : Sl w v2 l) (hn : n + l.length ≤ 1000000) (hbase : base ≤ w.heap.size)
  (h : ∀ v' w', w'.ownsRow base 3 1 v' (n + l.length) (xs ++ l.map iv) → w.grownBy w' v.ownBlock → wpList Tryz.prog ops Q rest (a.put o.dst v') w') : wpList Tryz.prog ops Q (o :: rest) a w := by
 obtain ⟨i0, hi, hz0, hz1, hz2⟩ := info_parts Tryz.infoI
 rcases hsl.src with ⟨e, rfl⟩ | ⟨ad, c, e, hnews⟩
 ·rw [e] at hx
  refine wpList_append_own_none hgd s x _ ho base 3 i0 1 Tryz.underlying38 hi v n xs hs hown hx (h v w ?_ ⟨rfl, rfl, rfl, Nat.le_refl _, fun _ _ _ => rfl⟩)
  simpa using hown
 ·rw [e] at hx
  exact wpList_append_own w hgd s x _ ho base 3 i0 (.int .i64 0) 1 8 Tryz.underlying38 hi hz0 hz1 hz2 rfl (by decide) v n xs hs hown ad l.length c (l.map iv) hx (by rw [List.length_map, Nat.mul_one]) hnews
   (fun u hu => by obtain ⟨y, -, rfl⟩ := List.mem_map.1 hu; rfl) (by unfold maxLen; omega) (by omega) hbase fun v' w' h1 h2 _ => h v' w' h1 h2
set_option maxHeartbeats 4000000 in
set_option maxRecDepth 100000 in
theorem rdiv_small (va vb : Value) (a b : Nat) (hab : a < b) (la : (td a).length ≤ 1000) (lb : (td b).length ≤ 1000) (w : World) (ha : Rn w va a) (hb : Rn w vb b) :
  Calls Tryz.prog 66 #[va, vb] w fun e w' => e = .returned (.tuple #[.slice none 0 0, va]) ∧ Below w.heap.size w w' := by
 have C := rcmp_any va vb a b (by omega) (by omega) w ha hb
 rw [cmpI_lt hab] at C
 replace C := Lib.hid C
 clear ha hb hab
 go_enter Tryz.func66, Tryz.ntmps66
 go_wp2_with fail
 with_reducible refine Calls.mono C.out ?_
 rintro e w1 ⟨rfl, hb1⟩
 go_wp2_with fail
 exact bodyPost_ret (v := .tuple #[.slice none 0 0, va]) (by simp [results, Tryz.results66, go_sem]) rfl ⟨rfl, hb1⟩
set_option maxHeartbeats 8000000 in
set_option maxRecDepth 100000 in
theorem rdiv_big (va vb : Value) (a b : Nat) (hab : b ≤ a) (hb0 : 0 < b) (la : (td a).length ≤ 1000) (w : World) (ha : Rn w va a) (hb : Rn w vb b) :
  Calls Tryz.prog 66 #[va, vb] w fun e w' => ∃ v1 v2, e = .returned (.tuple #[v1, v2]) ∧ Rn w' v1 (a / b) ∧ Rn w' v2 (a % b) ∧ Below w.heap.size w w' := by
 obtain ⟨i0, hi, hz0, hz1, hz2⟩ := info_parts Tryz.infoI
 obtain ⟨ao, ca, ea, hva⟩ := ha.view
 obtain ⟨bo, cb, eb⟩ := hb.form
 subst ea eb
 have lb := Nat.le_trans (td_mono hab) la
 have hML := td_mono hab
 obtain ⟨i1, hi1, hst⟩ := DivS.start hab hb0
 have hM0 : 0 < (td b).length := by
  rcases Nat.eq_zero_or_pos (td b).length with h | h
  ·have := td_nil.1 (List.eq_nil_of_length_eq_zero h); omega
  ·exact h
 have hAlt := td_lt a
 obtain ⟨F, hF⟩ : ∃ F, F = (td b).length - 3 := ⟨_, rfl⟩
 have hdrop := td_drop b F
 have ht0 : 0 < b / 10000 ^ F := by
  refine Nat.pos_of_ne_zero fun h => ?_
  rw [h, td_zero] at hdrop
  have := congrArg List.length hdrop
  rw [List.length_drop, List.length_nil] at this
  omega
 have Le := Lib.hid (fun (wx : World) (hh : Rn wx (.slice bo (td b).length cb) b) => rleading_any (.slice bo (td b).length cb) (td b) F (td_lt b) (by omega) (by omega) wx hh)
 rw [hdrop, tv_td] at Le
 have htb : b / 10000 ^ F < 1000000000000 := by
  have h1 : (td (b / 10000 ^ F)).length ≤ 3 := by rw [← hdrop, List.length_drop]; omega
  exact Nat.lt_of_lt_of_le (td_length.1 h1) (by decide)
 have C := Lib.hid (fun (wx : World) (h1 : Rn wx (.slice ao (td a).length ca) a) (h2 : Rn wx (.slice bo (td b).length cb) b) => rcmp_any _ _ a b (by omega) (by omega) wx h1 h2)
 have hcw : decide (cmpI a b < 0) = false := decide_eq_false (by unfold cmpI; split <;> (try split) <;> omega)
 generalize cmpI a b = z at *
 obtain ⟨t, ht⟩ : ∃ t, t = b / 10000 ^ F := ⟨_, rfl⟩
 rw [← ht] at Le ht0 htb
 -- the search for a digit
 have low := fun y => lead_low (y := y) ht
 have high := fun y => lead_high (y := y) ht ht0
 have lead := Lib.hid (fun (v : Value) (y : Nat) (hy : y < 10000 * b) (wx : World) (hv : Rn wx v y) => rleading_any v (td y) F (td_lt y) (by omega) (by
  have h1 : (td y).length ≤ (td b).length + 1 := td_length.2 (by
   have := td_length.1 (Nat.le_refl (td b).length)
   rw [Nat.pow_succ]; omega)
  omega) wx hv)
 have fb : ∀ y, y < 10000 * b → y / 10000 ^ F < 20000000000000000 := fun y hy => by
  have hp : 0 < 10000 ^ F := Nat.pow_pos (by omega)
  have h1 : b < 10000 ^ F * (t + 1) := by
   have := Nat.lt_mul_div_succ b hp
   rwa [← ht] at this
  refine (Nat.div_lt_iff_lt_mul hp).2 ?_
  have h2 : 10000 * b < 10000 * (10000 ^ F * (t + 1)) := Nat.mul_lt_mul_of_pos_left h1 (by omega)
  have h3 : 10000 ^ F * (t + 1) ≤ 10000 ^ F * 1000000000000 := Nat.mul_le_mul_left _ (by omega)
  generalize 10000 ^ F * (t + 1) = p at *
  generalize 10000 ^ F = q at *
  omega
 have MB := Lib.hid (fun (k : Nat) (hk : k ≤ 9999) (vx : Value) (wx : World) (h1 : Rn wx (.slice bo (td b).length cb) b) (h2 : Rn wx vx k) => rmul_any (.slice bo (td b).length cb) vx b k (by omega) (Nat.le_trans (small_len hk) (by omega)) wx h1 h2)
 have hbk : ∀ k, k ≤ 9999 → (td (b * k)).length ≤ 1001 := fun k hk => Nat.le_trans (td_mul_le lb (small_len hk)) (by omega)
 have hyl : ∀ y, y < 10000 * b → (td y).length ≤ 1001 := fun y hy => by
  have h1 : (td y).length ≤ (td b).length + 1 := td_length.2 (by
   have := td_length.1 (Nat.le_refl (td b).length)
   rw [Nat.pow_succ]; omega)
  omega
 have CM := Lib.hid (fun (k : Nat) (hk : k ≤ 9999) (y : Nat) (hy : y < 10000 * b) (vx vy : Value) (wx : World) (h1 : Rn wx vx (b * k)) (h2 : Rn wx vy y) => rcmp_any vx vy (b * k) y (Nat.le_trans (hbk k hk) (by omega)) (Nat.le_trans (hyl y hy) (by omega)) wx h1 h2)
 have SB := Lib.hid (fun (k y : Nat) (hy : y < 10000 * b) (hle : b * k ≤ y) (vx vy : Value) (wx : World) (h1 : Rn wx vy y) (h2 : Rn wx vx (b * k)) => rsub_any vy vx y (b * k) (Nat.le_trans (hyl y hy) (by omega)) hle wx h1 h2)
 have hTR : ∀ (x y r : Nat) (hy : y = x + 10000 * r) (hx : x < 10000) (hyb : y < 10000 * b) (v : Value) (wx : World), Sl wx v (x :: td r) → Calls Tryz.prog 147 #[v] wx fun e w' => ∃ v', e = .returned v' ∧ Rn w' v' y ∧ v'.ownBlock = v.ownBlock ∧ wx = w' := fun x y r hy hx hyb v wx hv => by
  have h1 : tv (x :: td r) = y := by rw [tv_cons, tv_td, hy]
  have h2 : (td r).length ≤ 1001 := Nat.le_trans (td_mono (show r ≤ y by omega)) (hyl y hyb)
  have := trim_blk v (x :: td r) (fun d hd => by
   rcases List.mem_cons.1 hd with rfl | hd
   ·exact hx
   ·exact td_lt r d hd) (by rw [List.length_cons]; omega) wx hv
  rw [h1] at this
  refine Calls.mono this ?_
  rintro e w' ⟨v', rfl, h, h', rfl⟩
  exact ⟨v', rfl, h, h', rfl⟩
 replace hTR := Lib.hid hTR
 clear hbk hyl hdrop ht
 obtain ⟨L, hL⟩ : ∃ L, L = (td a).length := ⟨_, rfl⟩
 obtain ⟨M, hM⟩ : ∃ M, M = (td b).length := ⟨_, rfl⟩
 rw [← hL] at la ha hva C hi1 hML ⊢
 rw [← hM] at lb hb C Le MB hi1 hM0 hF hML ⊢
 obtain ⟨aA, rfl, hca, hsd⟩ := hva (by omega)
 have hsd := Lib.hid hsd
 obtain ⟨ad, had⟩ : ∃ ad, ad = (if ca = i1 then aA else aA.add i1) := ⟨_, rfl⟩
 obtain ⟨r0, hr0⟩ : ∃ r0, r0 = a / 10000 ^ i1 := ⟨_, rfl⟩
 have htr : (td a).drop i1 = td r0 := by rw [hr0, td_drop]
 have hmk : ∀ w, (Instr.makeSlice 38 (.int .i64 (i1 : Int)) (.int .i64 (i1 : Int))).run Tryz.prog w = .ok (.slice (some ⟨w.heap.size, 0, none⟩) i1 i1) (w.alloc (zobjI i1)) :=
  fun w => makeN w _ i1 rfl (by omega)
 have hsf : ∀ w, (Instr.slice 38 (.slice (some aA) L ca) (some (.int .i64 (i1 : Int))) none none).run Tryz.prog w = .ok (.slice (some ad) (L - i1) (ca - i1)) w :=
  fun w => by rw [had]; exact slice_from w aA L ca i1 (by omega) hca
 have hsr : ∀ wx, Below w.heap.size w wx → Sl wx (.slice (some ad) (L - i1) (ca - i1)) (td r0) := by
  intro wx hbx
  have hlr : (td r0).length = L - i1 := by rw [← htr, List.length_drop, ← hL]
  by_cases hz : L = i1
  ·exact .inl ⟨some ad, ca - i1, by rw [hz, Nat.sub_self], List.eq_nil_of_length_eq_zero (by rw [hlr, hz, Nat.sub_self]), fun h => by simp at h⟩
  ·have hne : ca ≠ i1 := by omega
   rw [if_neg hne] at had
   refine .inr ⟨ad, ca - i1, by rw [hlr], by omega, fun j hj => ?_, ?_⟩
   ·have hjl : i1 + j < (td a).length := by omega
    have := (hsd.out.below hbx).cell (i1 + j) hjl
    rw [had, add_add, this]
    congr 3
    simp only [← htr, List.getElem_drop]
   ·rw [had, addB]; exact (hsd.out.below hbx).blk
 have hLM : (L : Int) - (M : Int) + 1 = (i1 : Int) := by omega
 obtain ⟨m1, hm1⟩ : ∃ m1, m1 = L - i1 := ⟨_, rfl⟩
 have hLi : L - i1 = m1 := hm1.symm
 have hm1b : m1 ≤ 1000 := by omega
 have hiL : (i1 : Int) ≤ (L : Int) := by omega
 have hi0 : (1 : Int) ≤ (i1 : Int) := by omega
 have hm1' := Lib.hid (show m1 = L - i1 ∧ i1 + M = L + 1 ∧ M ≤ L from ⟨hm1, hi1, by omega⟩)
 clear hm1
 have hmax : max (0 : Int) ((M : Int) - 3) = (F : Int) := by omega
 replace ha := Lib.hid ha
 replace hb := Lib.hid hb
 have hm1r : (td r0).length = m1 := by rw [← htr, List.length_drop, ← hL, hLi]
 rw [htr, tv_td] at hst
 rw [hLi] at hsr
 replace hst := Lib.hid hst
 replace hsr := Lib.hid hsr
 replace htr := Lib.hid htr
 replace hr0 := Lib.hid hr0
 replace hca := Lib.hid hca
 replace had := Lib.hid had
 clear hva
 replace hL := Lib.hid hL
 replace hM := Lib.hid hM
 replace hAlt := Lib.hid hAlt
 replace low := Lib.hid low
 replace high := Lib.hid high
 replace fb := Lib.hid fb
 have hi1' := Lib.hid hi1
 have hF' := Lib.hid hF
 have k1 : (M : Int) ≤ (L : Int) := by omega
 clear hi1 hF
 go_enter Tryz.func66, Tryz.ntmps66
 go_wp2_with fail
 with_reducible refine Calls.mono (C.out _ ha.out hb.out) ?_
 rintro e w1 ⟨rfl, hb1⟩
 go_wp2_with fail
 with_reducible refine Calls.mono (Le.out _ (hb.out.below hb1)) ?_
 rintro e w2 ⟨rfl, rfl⟩
 have hD0 := ((hb1.alloc hb1.size (zobjI i1)).alloc (by rw [World.size_alloc]; have := hb1.size; omega) (.cells #[] 3))
 have hr0S := Lib.hid (hsr.out _ hD0)
 have hm1r' : 0 + (td r0).length ≤ 1000000 := by omega
 replace hD0 := Lib.hid hD0
 replace hm1r' := Lib.hid hm1r'
 go_wp2_with (at_builtin; refine wpList_append_sl rfl _ _ rfl (w1.heap.size + 1) _ 0 [] rfl (made2 _ _) _ (td r0) rfl hr0S.out hm1r'.out (by simp) ?_)
 intro v2 w2 hown hgrow
 have hB2 : Below (w1.heap.size + 1) (w1.alloc (zobjI i1)) w2 := ((Below.refl _ _).alloc (by rw [World.size_alloc]; exact Nat.le_refl _) _).grown hgrow (by simp [World.size_alloc]) (fun j hj => by simp [Value.ownBlock] at hj; omega)
 have hX0 := (IB.zeros w1 i1).below hB2 (Nat.lt_succ_self _)
 have hgB : w.heap.size ≤ w1.heap.size := hb1.size
 have hD2 := (hb1.alloc hb1.size (zobjI i1)).trans (hB2.mono (Nat.le_trans hgB (Nat.le_succ _)))
 have hR2 : Rn w2 v2 r0 := Sl.owned hown hm1r.symm
 clear hown hgrow hB2 hD0 hr0S hsf hsr hmk hm1r'
 replace hX0 := Lib.hid hX0
 replace hR2 := Lib.hid hR2
 obtain ⟨g, hg⟩ : ∃ g, g = w1.heap.size := ⟨_, rfl⟩
 rw [← hg] at hX0 hgB ⊢
 clear hg
 go_wp2_with fail
 go_loopw [8, 10] (fun zv rv wr => ∃ (j : Nat) (X : List Nat) (r : Nat), zv = .int .i64 ((j : Int) - 1) ∧ j ≤ i1 ∧ X.length = i1 ∧ DivS a b (td a) X j r ∧ IB wr g X ∧ Rn wr rv r ∧ Below w.heap.size w wr) (fun zv _ _ => (intOf zv + 1).toNat)
 case atStart => exact ⟨i1, _, r0, (by rw [show (L : Int) - (M : Int) = (i1 : Int) - 1 by omega]), Nat.le_refl _, List.length_replicate, hst.out, hX0.out, hR2.out, hD2⟩
 case round =>
  obtain ⟨j, X, r, rfl, hj, hXl, hS, hX, hr, hbl⟩ := hrel
  clear hX0 hR2 hst hD2 C Le
  cases j with
  | zero =>
   have HT := trim_any _ X hS.lt (by rw [hXl]; omega) wr (hX.sl i1 (by omega))
   obtain ⟨hq, hrm⟩ := hS.done
   rw [hq, hXl] at HT
   replace HT := Lib.hid HT
   rw [hrm] at hr
   obtain ⟨ro, rc, erv⟩ := hr.form
   subst erv
   replace hr := Lib.hid hr
   clear hS hX hXl hq hrm
   go_wp2_with fail
   with_reducible refine Calls.mono HT.out ?_
   rintro e w3 ⟨v', rfl, hv, rfl⟩
   replace hv := Lib.hid hv
   go_wp2_with fail
   exact bodyPost_ret (v := .tuple #[v', .slice ro (td (a % b)).length rc]) (by simp [results, Tryz.results66, go_sem]) rfl ⟨_, _, rfl, hv.out, hr.out, hbl⟩
  | succ k =>
   have hki : k < i1 := by omega
   have hkL : k < L := by omega
   have e1 : (((k + 1 : Nat) : Int) - 1) = (k : Int) := by omega
   have hxb : dg (td a) k < 10000 := dg_lt hAlt.out k
   have hcell : wr.cell? (aA.add k) = some (.int .i64 ((dg (td a) k : Nat) : Int)) := by
    rw [dg_in (by rw [← hL.out]; exact hkL)]
    exact (hsd.out.below hbl).cell k (by rw [← hL.out]; exact hkL)
   have hkX : k < X.length := by rw [hXl]; exact hki
   obtain ⟨y, hy⟩ : ∃ y, y = dg (td a) k + 10000 * r := ⟨_, rfl⟩
   obtain ⟨hq9, hN⟩ := hS.step hAlt.out hkX hy
   generalize dg (td a) k = x at *
   have hrb := hS.rem
   have hyb : y < 10000 * b := by omega
   have hlr : (td r).length ≤ 1000 := Nat.le_trans (td_mono (Nat.le_of_lt hrb)) (by rw [← hM.out]; exact lb)
   obtain ⟨f, hf⟩ : ∃ f, f = y / 10000 ^ F := ⟨_, rfl⟩
   have hfb : f < 20000000000000000 := by rw [hf]; exact fb.out y hyb
   have LD := Lib.hid (fun (v : Value) (wx : World) (h : Rn wx v y) => lead.out v y hyb wx h)
   rw [td_drop, tv_td, ← hf] at LD
   obtain ⟨l0, hl0⟩ : ∃ l0, l0 = f / (t + 1) := ⟨_, rfl⟩
   obtain ⟨h0, hh0⟩ : ∃ h0, h0 = f / t := ⟨_, rfl⟩
   obtain ⟨h9, hh9⟩ : ∃ h9, h9 = min h0 9999 := ⟨_, rfl⟩
   have m1q : l0 * b ≤ y := by rw [hl0, hf]; exact low.out y
   have m2q : y / b ≤ h0 := by rw [hh0, hf]; exact high.out y
   have m3q : y / b ≤ h9 := by omega
   have m4q : l0 ≤ y / b := (Nat.le_div_iff_mul_le hb0).2 m1q
   have m5q : l0 ≤ h9 := Nat.le_trans m4q m3q
   have m6q : y < b * (h9 + 1) := by
    have := (Nat.div_lt_iff_lt_mul hb0).1 (Nat.lt_succ_of_le m3q)
    rwa [Nat.mul_comm] at this
   have m7q : h9 ≤ 9999 := by omega
   have i1q : (f : Int) / ((t : Int) + 1) = (l0 : Int) := by rw [hl0]; exact (Int.natCast_ediv f (t + 1)).symm
   have i2q : (f : Int) / (t : Int) = (h0 : Int) := by rw [hh0]; exact (Int.natCast_ediv f t).symm
   have i3q : min (h0 : Int) 9999 = (h9 : Int) := by omega
   have h0b : h0 ≤ f := by rw [hh0]; exact Nat.div_le_self _ _
   have hTR1 := Lib.hid (fun v wx h => hTR.out x y r hy hxb hyb v wx h)
   rw [Nat.mul_comm] at m1q
   replace m1q := Lib.hid m1q
   replace m6q := Lib.hid m6q
   replace hN := Lib.hid hN
   replace hy := Lib.hid hy
   replace hq9 := Lib.hid hq9
   replace hr := Lib.hid hr
   replace hkX := Lib.hid hkX
   replace hXl := Lib.hid hXl
   have hcX := hX.cell k hkX.out
   have hfX := hX.frozen k
   replace hX := Lib.hid hX
   replace hyb := Lib.hid hyb
   clear hS m2q m3q m4q hf hl0 hh0 hh9 lead hTR low high fb hrb
   rw [e1]
   have hrA := Lib.hid (hr.out.below ((Below.refl wr.heap.size wr).alloc (Nat.le_refl _) (.cells #[.int .i64 (x : Int)] 3)))
   have hlr1 := Lib.hid (show 1 + (td r).length ≤ 1000000 by omega)
   clear hlr
   go_wp2_with (at_builtin; refine wpList_append_sl rfl _ _ rfl wr.heap.size _ 1 [.int .i64 (x : Int)] rfl (own_one wr x) _ (td r) rfl hrA.out hlr1.out (by simp) ?_)
   intro v3 w3 hown hgrow
   have hs3 := Lib.hid (show Sl w3 v3 (x :: td r) from Sl.owned hown (by rw [List.length_cons, Nat.add_comm]))
   have hB3 : Below wr.heap.size wr w3 := ((Below.refl _ _).alloc (Nat.le_refl _) _).grown hgrow (by simp) (fun j hj => by simp [Value.ownBlock] at hj; omega)
   have hD3 := hbl.trans (hB3.mono hbl.size)
   have hX3 := Lib.hid (hX.out.below hB3 hX.out.lt)
   have ho3 : v3.ownBlock ≠ some g := fun e => by
    have := (hown.lt g e).1
    have := hX.out.lt
    omega
   clear hown hgrow hB3 hX hbl hcX hfX hcell hrA hr hlr1
   go_wp2_with fail
   with_reducible refine Calls.mono (hTR1.out _ _ hs3.out) ?_
   rintro e w4 ⟨v4, rfl, hv4, ho4, rfl⟩
   rw [← ho4] at ho3
   replace ho3 := Lib.hid ho3
   clear ho4
   replace hv4 := Lib.hid hv4
   clear hs3
   go_wp2_with fail
   with_reducible refine Calls.mono (LD.out _ _ hv4.out) ?_
   rintro e w4 ⟨rfl, rfl⟩
   have t1 : ¬ (t : Int) + 1 = 0 := by omega
   have t2 : ¬ (t : Int) = 0 := by omega
   go_wp2_with fail
   go_quiet (fail)
   go_wp2_with fail
   have hX3' := Lib.hid (hX3.out.drewN nq)
   have hD3' := ibdrew hD3 nq
   have hv4' := Lib.hid (show Rn (w3.drewN nq) v4 y from hv4.out.below (ibdrew (Below.refl _ _) nq))
   generalize hW4 : w3.drewN nq = w4 at *
   clear hW4 hX3 hD3 hv4
   go_loopw [12, 13] (fun lv hv wx => ∃ (l h : Nat), lv = .int .i64 (l : Int) ∧ hv = .int .i64 (h : Int) ∧ l ≤ h ∧ h ≤ 9999 ∧ b * l ≤ y ∧ y < b * (h + 1) ∧ IB wx g X ∧ Rn wx v4 y ∧ Below w.heap.size w wx) (fun lv hv _ => (intOf hv - intOf lv).toNat)
   case atStart => exact ⟨l0, h9, rfl, rfl, m5q, m7q, m1q.out, m6q.out, hX3'.out, hv4'.out, hD3'⟩
   case round =>
    obtain ⟨l, h, rfl, rfl, hlh, hh9, hq1, hq2, hXb, hvb, hbl⟩ := hrel
    replace hq1 := Lib.hid hq1
    replace hq2 := Lib.hid hq2
    have hXlt := hXb.lt
    clear hX3' hD3' hv4' m1q m6q m5q m7q i1q i2q i3q h0b hfb t1 t2 LD hTR1
    rcases Nat.lt_or_ge l h with hlt | hge
    ·have k2 : (l : Int) < (h : Int) := by omega
     obtain ⟨mid, hmid⟩ : ∃ mid, mid = (l + h + 1) / 2 := ⟨_, rfl⟩
     have hmv : ((l : Int) + (h : Int) + 1) / 2 = (mid : Int) := by omega
     have hm1 : l < mid := by omega
     have hm2 : mid ≤ h := by omega
     have hm9 : mid ≤ 9999 := by omega
     have hmidy : mid = (mid - 1) + 1 := by omega
     have OF := Lib.hid (fun wx => rof_any mid (by omega) wx)
     have hmB := Lib.hid (fun vx wx h1 h2 => MB.out mid hm9 vx wx h1 h2)
     have hcM := Lib.hid (fun vx wx h1 h2 => CM.out mid hm9 y hyb.out vx v4 wx h1 h2)
     replace hmid := Lib.hid hmid
     replace hmidy := Lib.hid hmidy
     replace hXb := Lib.hid hXb
     replace hvb := Lib.hid hvb
     go_wp2_with fail
     with_reducible refine Calls.mono (OF.out _) ?_
     rintro e w5 ⟨v5, rfl, hv5, hb5⟩
     replace hv5 := Lib.hid hv5
     have B5 := hbl.trans (hb5.mono hbl.size)
     have hvb5 := Lib.hid (hvb.out.below hb5)
     have hX5 := Lib.hid (hXb.out.below hb5 hXb.out.lt)
     clear hb5
     go_wp2_with fail
     with_reducible refine Calls.mono (hmB.out _ _ (hb.out.below B5) hv5.out) ?_
     rintro e w6 ⟨v6, rfl, hv6, hb6⟩
     replace hv6 := Lib.hid hv6
     have B6 := B5.trans (hb6.mono B5.size)
     have hvb6 := Lib.hid (hvb5.out.below hb6)
     have hX6 := Lib.hid (hX5.out.below hb6 hX5.out.lt)
     clear hb6 B5
     by_cases hle : b * mid ≤ y
     ·have k3 : decide (cmpI (b * mid) y ≤ 0) = true := decide_eq_true (by unfold cmpI; split <;> (try split) <;> omega)
      replace hle := Lib.hid hle
      generalize cmpI (b * mid) y = zz at *
      go_wp2_with fail
      with_reducible refine Calls.mono (hcM.out _ _ hv6.out hvb6.out) ?_
      rintro e w7 ⟨rfl, hb7⟩
      have B7 := B6.trans (hb7.mono B6.size)
      have hvb7 := Lib.hid (hvb6.out.below hb7)
      have hX7 := Lib.hid (hX6.out.below hb7 hX6.out.lt)
      clear hb7 B6
      go_wp2_with fail
      go_roundw
      case rel => exact ⟨mid, h, rfl, rfl, hm2, hh9, hle.out, hq2.out, hX7.out, hvb7.out, B7⟩
      case measure => simp [intOf]; omega
     ·have k3 : decide (cmpI (b * mid) y ≤ 0) = false := decide_eq_false (by rw [cmpI_gt (by omega)]; omega)
      replace hle := Lib.hid hle
      generalize cmpI (b * mid) y = zz at *
      go_wp2_with fail
      with_reducible refine Calls.mono (hcM.out _ _ hv6.out hvb6.out) ?_
      rintro e w7 ⟨rfl, hb7⟩
      have B7 := B6.trans (hb7.mono B6.size)
      have hvb7 := Lib.hid (hvb6.out.below hb7)
      have hX7 := Lib.hid (hX6.out.below hb7 hX6.out.lt)
      clear hb7 B6
      go_wp2_with fail
      go_roundw
      case rel => exact ⟨l, mid - 1, rfl, by first | rfl | go_num, by omega, by omega, hq1.out, (by rw [← hmidy.out]; exact Nat.lt_of_not_le hle.out), hX7.out, hvb7.out, B7⟩
      case measure => simp [intOf]; omega
    ·obtain rfl : l = h := by omega
     have k2 : ¬ (l : Int) < (l : Int) := by omega
     have hyd : y / b = l := Nat.div_eq_of_lt_le (by rw [Nat.mul_comm]; exact hq1.out) (by rw [Nat.mul_comm]; exact hq2.out)
     rw [hyd] at hN hq9
     have OF := Lib.hid (fun wx => rof_any l (by omega) wx)
     have hmB := Lib.hid (fun vx wx h1 h2 => MB.out l hh9 vx wx h1 h2)
     have hsB := Lib.hid (fun vx wx h1 h2 => SB.out l y hyb.out hq1.out vx v4 wx h1 h2)
     have hcX := hXb.cell k hkX.out
     have hfX := hXb.frozen k
     have hb1 := hbl.setCell (p := ⟨g, k, none⟩) hgB (.int .i64 (l : Int))
     have hXs := Lib.hid (hXb.set k l)
     have hvs := Lib.hid (Sl.set_off (k := k) (u := .int .i64 (l : Int)) hvb ho3.out)
     replace hXb := Lib.hid hXb
     go_wp2_with fail
     with_reducible refine Calls.mono (OF.out _) ?_
     rintro e w5 ⟨v5, rfl, hv5, hb5⟩
     replace hv5 := Lib.hid hv5
     have B5 := hb1.trans (hb5.mono hb1.size)
     have hvb5 := Lib.hid (hvs.out.below hb5)
     have hX5 := Lib.hid (hXs.out.below hb5 hXs.out.lt)
     clear hb5 hXs hvs hcX hfX hb1
     go_wp2_with fail
     with_reducible refine Calls.mono (hmB.out _ _ (hb.out.below B5) hv5.out) ?_
     rintro e w6 ⟨v6, rfl, hv6, hb6⟩
     replace hv6 := Lib.hid hv6
     have B6 := B5.trans (hb6.mono B5.size)
     have hvb6 := Lib.hid (hvb5.out.below hb6)
     have hX6 := Lib.hid (hX5.out.below hb6 hX5.out.lt)
     clear hb6 B5
     go_wp2_with fail
     with_reducible refine Calls.mono (hsB.out _ _ hvb6.out hv6.out) ?_
     rintro e w7 ⟨v7, rfl, hv7, hb7⟩
     replace hv7 := Lib.hid hv7
     have B7 := B6.trans (hb7.mono B6.size)
     have hX7 := Lib.hid (hX6.out.below hb7 hX6.out.lt)
     clear hb7 B6
     go_wp2_with fail
     go_roundw
     case rel => exact ⟨k, X.set k l, y - b * l, by first | rfl | go_num, by omega, by rw [List.length_set]; exact hXl.out, hN.out, hX7.out, hv7.out, B7⟩
     case measure => simp [intOf]
set_option maxHeartbeats 4000000 in
/-- Div, for b above 0. -/
theorem rdiv_any (va vb : Value) (a b : Nat) (hb0 : 0 < b) (la : (td a).length ≤ 1000) (lb : (td b).length ≤ 1000) (w : World) (ha : Rn w va a) (hb : Rn w vb b) :
  Calls Tryz.prog 66 #[va, vb] w fun e w' => ∃ v1 v2, e = .returned (.tuple #[v1, v2]) ∧ Rn w' v1 (a / b) ∧ Rn w' v2 (a % b) ∧ Below w.heap.size w w' := by
 rcases Nat.lt_or_ge a b with h | h
 ·refine (rdiv_small va vb a b h la lb w ha hb).mono ?_
  rintro e w' ⟨rfl, hbl⟩
  refine ⟨_, _, rfl, ?_, ?_, hbl⟩
  ·rw [Nat.div_eq_of_lt h]
   show Sl w' _ (td 0)
   rw [td_zero]; exact Sl.nil w'
  ·rw [Nat.mod_eq_of_lt h]; exact ha.below hbl
 ·exact rdiv_big va vb a b h hb0 la w ha hb
end Go.Proofs.YtdkjckiialnpnaaGreatDoor.Rx
namespace Go.Proofs.YtdkjckiialnpnaaGreatDoor.Rx
open Go.RowKit
attribute [local irreducible] tv dg cmpI nb isq
theorem Sl.inj {w : World} {v : Value} {l m : List Nat} (h : Sl w v l) (k : Sl w v m) : l = m := by
 rcases h with ⟨ao, c, e1, rfl, -⟩ | ⟨a, c, e1, -, h3⟩
 ·rcases k with ⟨_, _, _, rfl, -⟩ | ⟨a', c', e2, -, -⟩
  ·rfl
  ·rw [e1] at e2
   injection e2 with _ e3 _
   exact (List.eq_nil_of_length_eq_zero e3.symm).symm
 ·rcases k with ⟨_, _, e2, rfl, -⟩ | ⟨a', c', e2, -, k3⟩
  ·rw [e1] at e2
   injection e2 with _ e3 _
   exact List.eq_nil_of_length_eq_zero e3
  ·rw [e1] at e2
   injection e2 with e4 e3 _
   injection e4 with e4
   subst e4
   refine List.ext_getElem e3 fun i h1 h2 => ?_
   have := (h3.cell i h1).symm.trans (k3.cell i h2)
   injection this with this
   injection this with _ this
   exact Int.ofNat.inj this
theorem Rn.inj {w : World} {v : Value} {x y : Nat} (h : Rn w v x) (k : Rn w v y) : x = y := by
 have := congrArg tv (Sl.inj h k)
 rwa [tv_td, tv_td] at this
open Classical in
noncomputable def dec (w : World) (v : Value) : Nat := if h : ∃ y, Rn w v y then h.choose else 0
theorem dec_eq {w : World} {v : Value} {y : Nat} (h : Rn w v y) : dec w v = y := by
 unfold dec
 rw [dif_pos ⟨y, h⟩]
 exact Rn.inj (Exists.choose_spec (⟨y, h⟩ : ∃ y, Rn w v y)) h
set_option maxHeartbeats 4000000 in
set_option maxRecDepth 100000 in
theorem rgcd_any (va vb : Value) (a b : Nat) (la : (td a).length ≤ 1000) (lb : (td b).length ≤ 1000) (w : World) (ha : Rn w va a) (hb : Rn w vb b) :
  Calls Tryz.prog 189 #[va, vb] w fun e w' => ∃ v, e = .returned v ∧ Rn w' v (Nat.gcd a b) ∧ Below w.heap.size w w' := by
 replace ha := Lib.hid ha
 replace hb := Lib.hid hb
 go_enter Tryz.func189, Tryz.ntmps189
 go_wp2_with fail
 go_loopw [0, 1] (fun av bv wr => ∃ (x y : Nat), Rn wr av x ∧ Rn wr bv y ∧ Nat.gcd x y = Nat.gcd a b ∧ (td x).length ≤ 1000 ∧ (td y).length ≤ 1000 ∧ Below w.heap.size w wr) (fun _ bv wr => dec wr bv)
 case atStart => exact ⟨a, b, ha.out, hb.out, rfl, la, lb, Below.refl _ _⟩
 case round =>
  obtain ⟨x, y, hx, hy, hg, lx, ly, hbl⟩ := hrel
  clear ha hb
  have hm := Lib.hid (dec_eq hy)
  obtain ⟨yo, yc, ey⟩ := hy.form
  obtain ⟨xo, xc, ex⟩ := hx.form
  subst ey ex
  obtain ⟨M, hM⟩ : ∃ M, M = (td y).length := ⟨_, rfl⟩
  rcases Nat.eq_zero_or_pos y with h0 | h0
  ·have hM0 : M = 0 := by rw [hM, h0, td_zero]; rfl
   have hgx : x = Nat.gcd a b := by rw [← hg, h0, Nat.gcd_zero_right]
   rw [← hM, hM0]
   rw [hgx] at hx
   rw [hgx]
   replace hx := Lib.hid hx
   clear hy hm hM hM0 hg hgx
   go_wp2_with fail
   go_ret
   exact ⟨_, rfl, hx.out, hbl⟩
  ·have D := Lib.hid (rdiv_any _ _ x y h0 lx ly wr hx hy)
   rw [← hM] at hy ly D hm ⊢
   have hMp : (0 : Int) < (M : Int) := by
    have : M ≠ 0 := fun h => by
     have := td_nil.1 (List.eq_nil_of_length_eq_zero (hM.symm.trans h))
     omega
    omega
   replace hy := Lib.hid hy
   replace hM := Lib.hid hM
   clear hx
   generalize (td x).length = N at *
   go_wp2_with fail
   with_reducible refine Calls.mono D.out ?_
   rintro e w1 ⟨v1, v2, rfl, h1, h2, hb1⟩
   replace h2 := Lib.hid h2
   clear h1
   have hyb := Lib.hid (hy.out.below hb1)
   have hD := hbl.trans (hb1.mono hbl.size)
   go_wp2_with fail
   go_roundw
   case rel => exact ⟨y, x % y, hyb.out, h2.out, (by rw [← hg, Nat.gcd_comm x y, Nat.gcd_rec y x, Nat.gcd_comm]), (by rw [← hM.out]; exact ly), Nat.le_trans (td_mono (Nat.le_of_lt (Nat.mod_lt x h0))) (by rw [← hM.out]; exact ly), hD⟩
   case measure => rw [dec_eq h2.out, hm.out]; exact Nat.mod_lt x h0
end Go.Proofs.YtdkjckiialnpnaaGreatDoor.Rx
namespace Go.Proofs.YtdkjckiialnpnaaGreatDoor
open Go.RowKit Go.Proofs.YtdkjckiialnpnaaGreatDoor.Rx
attribute [local irreducible] lo hs sm s64 c64 d64 b64 mh ml pd pc qd qc val hiB str cmpI srD lz nb isq zl zh zs dval
theorem td_of_digs {n k : Nat} (h : (digs n).length ≤ k) : (td n).length ≤ 5 * k := by
 rw [td_length, Nat.pow_mul]
 refine Nat.lt_of_lt_of_le (digs_length_iff.1 h) (Nat.pow_le_pow_left ?_ k)
 unfold Bs; omega
theorem Sz.tdn {q : Rat} {k : Nat} (h : Sz q k) : (td q.den).length ≤ 5 * k := td_of_digs h.2
theorem Sz.tf {q : Rat} {k : Nat} (h : Sz q k) : (td (fd q)).length ≤ 5 * k := Nat.le_trans (td_mono (Nat.sub_le _ _)) h.tdn
theorem fd_succ (q : Rat) : fd q + 1 = q.den := by have := q.den_nz; unfold fd; omega
theorem td_one : (td 1).length ≤ 1 := by rw [td_length]; omega
theorem one_r (w : World) : Calls Tryz.prog 69 #[.int .u64 1] w fun e w' => ∃ v, e = .returned v ∧ Rn w' v 1 ∧ Below w.heap.size w w' := rof_val 1 1 rfl (by omega) w
theorem rone (w : World) : Calls Tryz.prog 144 #[] w fun e w' => ∃ v, e = .returned v ∧ Rn w' v 1 ∧ Below w.heap.size w w' := rone_w one_r w
/-- From, of a sign and a size. -/
theorem rz_from (b : Bool) (n : Nat) (z : Int) (hb : (b && decide (n ≠ 0)) = decide (z < 0)) (hn : n = z.natAbs) (v : Value) (w : World) (h : Rn w v n) :
  Calls Tryz.prog 125 #[.bool b, v] w fun e w' => ∃ v, e = .returned v ∧ RZ w' v z ∧ Below w.heap.size w w' :=
 (rfrom_any b v n w h).mono fun e w' ⟨h1, h2⟩ => ⟨_, h1, RZ.of (Sl.below h h2) hb hn, h2⟩
theorem rden (q : Rat) {k : Nat} (hq : Sz q k) (hk : k ≤ 1000) (v : Value) (w : World) (h : RF w v q) :
  Calls Tryz.prog 65 #[v] w fun e w' => ∃ v, e = .returned v ∧ Rn w' v q.den ∧ Below w.heap.size w w' :=
 rfden_w q q.den rone (fun v1 v2 w h1 h2 => by rw [← fd_succ q]; exact radd_any v1 v2 _ 1 (Nat.le_trans hq.tf (by omega)) (Nat.le_trans td_one (by omega)) w h1 h2) v w h
theorem rfrom (z : Int) (d : Nat) (h0 : d ≠ 0) (lz : (Rx.td z.natAbs).length ≤ 1000) (ld : (Rx.td d).length ≤ 1000) (v1 v2 : Value) (w : World) (h1 : RZ w v1 z) (h2 : Rn w v2 d) :
  Calls Tryz.prog 127 #[v1, v2] w fun e w' => ∃ v, e = .returned v ∧ RF w' v (mkRat z d) ∧ Below w.heap.size w w' := by
 obtain ⟨c1, c2⟩ := canc (z := z) h0
 have hg : 0 < Nat.gcd z.natAbs d := Nat.gcd_pos_of_pos_right _ (by omega)
 have hgl : (Rx.td (Nat.gcd z.natAbs d)).length ≤ 1000 := Nat.le_trans (td_mono (Nat.gcd_le_right _ (by omega))) ld
 have e1 : d / Nat.gcd z.natAbs d = (mkRat z d).den := c2.symm
 have e2 : (mkRat z d).num.natAbs = z.natAbs / Nat.gcd z.natAbs d := by rw [c1, Int.natAbs_tdiv]; rfl
 have e3 : (zs z && decide (z.natAbs / Nat.gcd z.natAbs d ≠ 0)) = decide ((mkRat z d).num < 0) := by
  rw [c1, tdiv_sgn]
  generalize z.natAbs / Nat.gcd z.natAbs d = x
  unfold zs
  by_cases h : z < 0 <;> by_cases h' : x = 0 <;> simp [h, h'] <;> omega
 exact rffrom_w z d (Nat.gcd z.natAbs d) (z.natAbs / Nat.gcd z.natAbs d) (z.natAbs % Nat.gcd z.natAbs d) (d / Nat.gcd z.natAbs d) (d % Nat.gcd z.natAbs d) (mkRat z d)
  (fun a b w ha hb => rgcd_any a b _ _ lz ld w ha hb) (fun a b w ha hb => rdiv_any a b _ _ hg lz hgl w ha hb) (fun a b w ha hb => rdiv_any a b _ _ hg ld hgl w ha hb)
  (fun a w ha => rz_from _ _ _ e3 e2.symm a w ha) rone
  (fun a b w ha hb => by
   have h3 := (mkRat z d).den_nz
   have := rsub_any a b _ 1 (by rw [e1]; exact Nat.le_trans (td_mono (by rw [c2]; exact Nat.div_le_self _ _)) (Nat.le_trans ld (by omega))) (by omega) w ha hb
   rw [e1] at this
   exact this) v1 v2 w h1 h2
theorem rzsignI (z : Int) (v : Value) (w : World) (h : RZ w v z) : Calls Tryz.prog 192 #[v] w fun e w' => e = .returned (.int .i64 (sgn z)) ∧ Below w.heap.size w w' := by
 obtain ⟨ao, c, rfl⟩ := rz_form h
 unfold sgn
 by_cases h0 : z < 0
 ·rw [if_pos h0, show zs z = true from by unfold zs; exact decide_eq_true h0]
  exact rzsign_neg ao _ c (Nat.pos_of_ne_zero fun e => by have := (td_len_zero _).1 e; omega) w
 ·rw [if_neg h0, show zs z = false from by unfold zs; exact decide_eq_false h0]
  by_cases h1 : z = 0
  ·rw [if_pos h1]
   exact rzsign_zero false ao _ c ((td_len_zero _).2 (by omega)) w
  ·rw [if_neg h1]
   exact rzsign_pos ao _ c (Nat.pos_of_ne_zero fun e => by have := (td_len_zero _).1 e; omega) w
theorem rzof_one (w : World) : Calls Tryz.prog 129 #[.int .i64 1] w fun e w' => ∃ v, e = .returned v ∧ RZ w' v 1 ∧ Below w.heap.size w w' :=
 rzof_pos 1 1 1 1 one_r (rz_from false 1 1 rfl rfl) (by decide) (by decide) w
theorem ed_uniq {x y q r : Int} (h0 : y ≠ 0) (h : r + y * q = x) (h1 : 0 ≤ r) (h2 : r < (y.natAbs : Int)) : x / y = q ∧ x % y = r := by
 rcases Int.lt_or_gt_of_ne h0 with hy | hy
 ·have h3 := (Int.ediv_emod_unique (a := x) (b := -y) (q := -q) (r := r) (by omega)).2 ⟨by rw [Int.neg_mul_neg]; exact h, h1, by omega⟩
  rw [Int.ediv_neg, Int.emod_neg] at h3
  exact ⟨by omega, h3.2⟩
 ·exact (Int.ediv_emod_unique hy).2 ⟨h, h1, by omega⟩
/-- The division of integers. -/
theorem rzdivI (x y : Int) (h0 : y ≠ 0) (lx : (Rx.td x.natAbs).length ≤ 1000) (ly : (Rx.td y.natAbs).length ≤ 1000) (v1 v2 : Value) (w : World) (h1 : RZ w v1 x) (h2 : RZ w v2 y) :
  Calls Tryz.prog 133 #[v1, v2] w fun e w' => ∃ a b, e = .returned (.tuple #[a, b]) ∧ RZ w' a (x / y) ∧ RZ w' b (x % y) ∧ Below w.heap.size w w' := by
 have hy : 0 < y.natAbs := by omega
 have HD := fun a b w ha hb => rdiv_any a b x.natAbs y.natAbs hy lx ly w ha hb
 have hm := Nat.mod_lt x.natAbs hy
 have hdm := Nat.div_add_mod x.natAbs y.natAbs
 have lq : (Rx.td (x.natAbs / y.natAbs)).length ≤ 1000 := Nat.le_trans (td_mono (Nat.div_le_self _ _)) lx
 have lm : (Rx.td (x.natAbs % y.natAbs)).length ≤ 1000 := Nat.le_trans (td_mono (Nat.mod_le _ _)) lx
 generalize x.natAbs / y.natAbs = q at *
 generalize x.natAbs % y.natAbs = m at *
 -- the two signed parts
 obtain ⟨u, hu, hub, hul⟩ : ∃ u : Int, (u = if zs x == zs y then (q : Int) else -q) ∧ ((!(zs x == zs y)) && decide (q ≠ 0)) = decide (u < 0) ∧ q = u.natAbs := by
  refine ⟨_, rfl, ?_, ?_⟩
  ·rw [Bool.eq_iff_iff]; cases zs x == zs y <;> simp <;> omega
  ·split <;> simp
 obtain ⟨v, hv, hvb, hvl⟩ : ∃ v : Int, (v = if zs x then -(m : Int) else m) ∧ (zs x && decide (m ≠ 0)) = decide (v < 0) ∧ m = v.natAbs := by
  refine ⟨_, rfl, ?_, ?_⟩
  ·rw [Bool.eq_iff_iff]; cases zs x <;> simp <;> omega
  ·split <;> simp
 have hx : v + y * u = x := by
  have e : (y.natAbs : Int) * (q : Int) + m = (x.natAbs : Int) := by exact_mod_cast hdm
  have zx : zs x = decide (x < 0) := by unfold zs; rfl
  have zy : zs y = decide (y < 0) := by unfold zs; rfl
  rw [hu, hv, zx, zy]
  have ey' : (y.natAbs : Int) = if y < 0 then -y else y := by split <;> omega
  have ex' : (x.natAbs : Int) = if x < 0 then -x else x := by split <;> omega
  rw [ey', ex'] at e
  by_cases ex : x < 0 <;> by_cases ey : y < 0 <;> simp [ex, ey] at e ⊢ <;> grind
 have lu : (Rx.td u.natAbs).length ≤ 1000 := by rw [← hul]; exact lq
 have lv : (Rx.td v.natAbs).length ≤ 1000 := by rw [← hvl]; exact lm
 have HF := fun a w ha => rz_from (!(zs x == zs y)) q u hub hul a w ha
 have HG := fun a w ha => rz_from (zs x) m v hvb hvl a w ha
 have l1 : (Rx.td (1 : Int).natAbs).length ≤ 1000000 := Nat.le_trans td_one (by omega)
 by_cases hv0 : v < 0
 ·have s0 : decide (sgn v < 0) = true := decide_eq_true (by unfold sgn; rw [if_pos hv0]; omega)
  by_cases hy0 : 0 < y
  ·obtain ⟨d1, d2⟩ := ed_uniq (x := x) (q := u - 1) (r := v + y) h0 (by rw [Int.mul_sub, Int.mul_one]; omega) (by omega) (by omega)
   rw [d1, d2]
   exact rzdiv_pos x y u v (sgn v) (sgn y) q m 1 _ _ HD HF HG (rzsignI v) (rzsignI y) (rzof_one) (fun a b w ha hb => rzsubI a b _ _ (by omega) l1 w ha hb) (fun a b w ha hb => rzaddI a b _ _ (by omega) (by omega) w ha hb) s0 (decide_eq_true (by unfold sgn; rw [if_neg (by omega), if_neg (by omega)]; omega)) v1 v2 w h1 h2
  ·obtain ⟨d1, d2⟩ := ed_uniq (x := x) (q := u + 1) (r := v - y) h0 (by rw [Int.mul_add, Int.mul_one]; omega) (by omega) (by omega)
   rw [d1, d2]
   exact rzdiv_neg x y u v (sgn v) (sgn y) q m 1 _ _ HD HF HG (rzsignI v) (rzsignI y) (rzof_one) (fun a b w ha hb => rzaddI a b _ _ (by omega) l1 w ha hb) (fun a b w ha hb => rzsubI a b _ _ (by omega) (by omega) w ha hb) s0 (decide_eq_false (by unfold sgn; rw [if_pos (by omega)]; omega)) v1 v2 w h1 h2
 ·obtain ⟨d1, d2⟩ := ed_uniq (x := x) (q := u) (r := v) h0 hx (by omega) (by omega)
  rw [d1, d2]
  exact rzdiv_plain x y u v (sgn v) 0 q m HD HF HG (rzsignI v) (decide_eq_false (by unfold sgn; rw [if_neg hv0]; split <;> omega)) v1 v2 w h1 h2
end Go.Proofs.YtdkjckiialnpnaaGreatDoor
namespace Go.Proofs.YtdkjckiialnpnaaGreatDoor
open Go.RowKit
attribute [local irreducible] lo hs sm s64 c64 d64 b64 mh ml pd pc qd qc val hiB str cmpI srD lz nb isq zl zh zs
/-- The variable of package bytealg that strings.Cut looks at. -/
def MaxL (w : World) : Prop := ∃ m, w.cell? ⟨3, 0, none⟩ = some (.int .i64 m)
theorem MaxL.keeps : Keeps MaxL := fun w w' hb ⟨m, h⟩ => ⟨m, by
 have hl := World.block_lt_of_cell? w _ h
 exact (hb.cell (p := ⟨3, 0, none⟩) hl).trans h⟩
end Go.Proofs.YtdkjckiialnpnaaGreatDoor
namespace Go.Proofs.YtdkjckiialnpnaaGreatDoor
open Go.RowKit
attribute [local irreducible] lo hs sm s64 c64 d64 b64 mh ml pd pc qd qc val hiB str cmpI srD lz nb isq zl zh zs
/-- A Great as plain data. -/
def gmade (s : Bool) (l k : List Nat) : Rat := mkRat (zmade s l) (made k + 1)
theorem gof_any (s : Bool) (a b : Option Addr) (n c m d : Nat) (l k : List Nat) (hl : l.length ≤ 1000) (hk : k.length ≤ 1000) (w : World) (h1 : Ws w (.slice a n c) l) (h2 : Ws w (.slice b m d) k) :
  Calls Tryz.prog 20 #[.agg #[.bool s, .slice a n c, .slice b m d]] w fun xe w' => xe = .returned (fracV (gmade s l k)) ∧ Below w.heap.size w w' := by
 have d1 := zmade_dI (s := s) h1.lt
 have d2 := made_digs h2.lt
 have dz1 : (digs 1).length ≤ 1 := digs_length_iff.2 (by rw [Nat.pow_one]; exact Bs_gt)
 have d3 : (digs (made k + 1)).length ≤ 1001 := Nat.le_trans (digs_add_le (k := 1000) (by omega) (Nat.le_trans dz1 (by omega))) (by omega)
 refine gof_w s a b n c m d (zmade false k) (zmade s l) _ (made k) (made k + 1) _ _ (Keeps.ws _ l) (fun w h => zof_any s a n c l hl w h) (fun w => gden_w s a b n c m d w) _ (Keeps.ws _ k) (fun w h => zof_any false b m d k hk w h) (fun w => ?_) one_o (fun w => add_any (made k) 1 (by omega) (by omega) w) (fromF (zmade s l) (made k + 1) (by omega) (by omega) (by omega)) w h1 h2
 have h := absI (zmade false k) w
 rw [show (zmade false k).natAbs = made k from rfl] at h
 exact h
theorem gmade_sz {s : Bool} {w : World} {a b : Option Addr} {n c m d : Nat} {l k : List Nat} {most : Nat} (hp : 0 < most) (h1 : Ws w (.slice a n c) l) (h2 : Ws w (.slice b m d) k) (hn : n ≤ most) (hm : m ≤ most) : Sz (gmade s l k) (most + 1) := by
 have e1 := h1.len
 have e2 := h2.len
 have d1 := zmade_dI (s := s) h1.lt
 have d2 := made_digs h2.lt
 refine Sz.mk (by omega) ?_ (by omega)
 have dz1 : (digs 1).length ≤ 1 := digs_length_iff.2 (by rw [Nat.pow_one]; exact Bs_gt)
 exact digs_add_le (k := most) (by omega) (by omega)
end Go.Proofs.YtdkjckiialnpnaaGreatDoor
namespace Go.Proofs.YtdkjckiialnpnaaGreatDoor
open Go.RowKit Go.Proofs.YtdkjckiialnpnaaGreatDoor.Rx
attribute [local irreducible] lo hs sm s64 c64 d64 b64 mh ml pd pc qd qc val hiB str cmpI srD lz nb isq zl zh zs dval tln fd
theorem z_field (b : Bool) (a : Option Addr) (n c : Nat) (w : World) : (Instr.field 40 (.agg #[.bool b, .slice a n c]) 1).run Tryz.prog w = .ok (.slice a n c) w := by
 simp [go_sem, Instr.field, asAgg]
set_option maxHeartbeats 4000000 in
set_option maxRecDepth 100000 in
theorem zref_w (s : Bool) (a : Option Addr) (n c m : Nat) (z : Int) (K : World → Prop) (hK : Keeps K) (HO : ∀ (w : World), K w → Calls Tryz.prog 134 #[.slice a n c] w fun e w' => ∃ pv, e = .returned pv ∧ Rn w' pv m ∧ Below w.heap.size w w') (HF : ∀ (p1 : Value) (w : World), Rn w p1 m → Calls Tryz.prog 125 #[.bool s, p1] w fun e w' => ∃ pv, e = .returned pv ∧ RZ w' pv z ∧ Below w.heap.size w w') (w : World) (kK : K w) :
  Calls Tryz.prog 53 #[.agg #[.bool s, .slice a n c]] w fun e w' => ∃ pv, e = .returned pv ∧ RZ w' pv z ∧ Below w.heap.size w w' := by
 replace hK := Lib.hid hK
 replace HO := Lib.hid HO
 replace HF := Lib.hid HF
 have hL0 : GL w w [] := GL.start w
 have hS : SS w [] := SS.nil w
 replace hS := ((hS.new (.cells #[.bool s, .slice a n c] 48)).new (.cells #[.bool false, .slice none 0 0] 40))
 replace hL0 := ((hL0.new rfl [.bool s, .slice a n c] 48).new (K := w.heap.size + 1) (szA _ _) [.bool false, .slice none 0 0] 40)
 generalize hweq : ((w.alloc (.cells #[.bool s, .slice a n c] 48)).alloc (.cells #[.bool false, .slice none 0 0] 40)) = x1 at hL0 hS
 go_enter Tryz.func53, Tryz.ntmps53
 go_upto_region 1 with fail
 clear hweq
 refine region_tl 6 [EV (.pointer (some ⟨w.heap.size, 0, none⟩)), EV (.bool s), EV (.pointer (some ⟨w.heap.size, 1, none⟩)), EV (.slice a n c), PN m, PZ z] (by kernel_rfl) (by kernel_rfl) ?_ ?_ ?_
 ·exact stays_cons (stays_eq _) (stays_cons (stays_eq _) (stays_cons (stays_eq _) (stays_cons (stays_eq _) (stays_cons (stays_rn _) (stays_cons (stays_rz _) (stays_nil))))))
 ·simp only [List.take_succ_cons, List.take_zero, hopsR, and_true]
  refine ⟨?_, ?_, ?_, ?_, ?_, ?_⟩ <;> intro fv w1 hb1 hp
  all_goals (simp only [putsV, Act.put, List.setIfInBounds_toArray, List.set_cons_succ, List.set_cons_zero, Nat.zero_add, Nat.reduceAdd])
  ·refine tyAt_none rfl ?_
   simp [tyUpon, execOp, go_sem, Act.eval, Below.refl]
  ·have h0 : EV _ (fv 0) w1 := hp 0 (LC (by kernel_rfl))
   refine tyAt_none rfl ?_
   have hc := (hL0.call (below_drew hb1)).fc
   simp only [fcG, cellsF, neK, and_true, ne_eq, Nat.zero_add, Nat.reduceAdd] at hc
   simp [tyUpon, execOp, go_sem, Act.eval, hc, h0, Below.refl]
  ·refine tyAt_none rfl ?_
   simp [tyUpon, execOp, go_sem, Act.eval, Below.refl]
  ·have h2 : EV _ (fv 2) w1 := hp 2 (LC (by kernel_rfl))
   refine tyAt_none rfl ?_
   have hc := (hL0.call (below_drew hb1)).fc
   simp only [fcG, cellsF, neK, and_true, ne_eq, Nat.zero_add, Nat.reduceAdd] at hc
   simp [tyUpon, execOp, go_sem, Act.eval, hc, h2, Below.refl]
  ·have h3 : EV _ (fv 3) w1 := hp 3 (LC (by kernel_rfl))
   refine tyAt_none rfl ?_
   refine ty_call (f := 134) (args := #[.slice a n c]) (by simp [execOp, go_sem, Act.eval, h3]) ?_
   exact (HO.out w1 (hK.out.at ((hL0.call (below_drew hb1)).bl) kK)).mono fun e w2 ⟨pv, h1, h2, h3⟩ => ⟨pv, h1, h2, h3⟩
  ·have h1 : EV _ (fv 1) w1 := hp 1 (LC (by kernel_rfl))
   have h4 : PN _ (fv 4) w1 := hp 4 (LC (by kernel_rfl))
   refine tyAt_none rfl ?_
   refine ty_call (f := 125) (args := #[.bool s, fv 4]) (by simp [execOp, go_sem, Act.eval, h1]) ?_
   exact (HF.out (fv 4) w1 h4).mono fun e w2 ⟨pv, h1, h2, h3⟩ => ⟨pv, h1, h2, h3⟩
 ·intro fv x2 hb1 hv
  have e0 : fv 0 = _ := hv 0 (by omega)
  have e1 : fv 1 = _ := hv 1 (by omega)
  have e2 : fv 2 = _ := hv 2 (by omega)
  have e3 : fv 3 = _ := hv 3 (by omega)
  have q4 : Rn x2 (fv 4) m := hv 4 (by omega)
  obtain ⟨g1, d1, e4⟩ := rn_form q4
  rw [e4] at q4
  have q5 : RZ x2 (fv 5) z := hv 5 (by omega)
  obtain ⟨g2, d2, e5⟩ := rz_form q5
  rw [e5] at q5
  simp only [List.take_succ_cons, List.take_zero, putsV, Act.put, List.setIfInBounds_toArray, List.set_cons_succ, List.set_cons_zero, List.drop_succ_cons, List.drop_zero, Nat.zero_add, Nat.reduceAdd, e0, e1, e2, e3, e4, e5]
  replace hL0 := hL0.call (below_drew hb1)
  replace hS := hS.call (below_drew hb1)
  replace hS := hS.cons q4
  replace hS := hS.cons (rz_rn q5)
  clear e0 e1 e2 e3 e4 e5 hb1 hv q4 q5 fv
  have hS1 := hS.put (((Upd.refl (w.heap.size + 1) x2).setCell 0 (.bool (zs z))).setCell 1 (.slice g2 (tln z.natAbs) d2)) (hL0.get _ _ List.mem_cons_self) (by intro v hv n; simp only [List.mem_cons, List.not_mem_nil, or_false] at hv; rcases hv with rfl | rfl <;> simp)
  have hA := hL0.fc
  simp only [fcG, cellsF, neK, and_true, ne_eq, Nat.zero_add, Nat.reduceAdd] at hA
  have hP := hL0.put 0 (w.heap.size + 1) _ rfl [.bool (zs z), .slice g2 (tln z.natAbs) d2] rfl
  simp only [setAll, List.set_cons_zero, List.set_cons_succ] at hP
  generalize hput1 : ((x2.setCell ⟨w.heap.size + 1, 0, none⟩ (.bool (zs z))).setCell ⟨w.heap.size + 1, 1, none⟩ (.slice g2 (tln z.natAbs) d2)) = x3 at hP hS1
  have hB1 := hP.fc
  simp only [fcG, cellsF, neK, and_true, ne_eq, Nat.zero_add, Nat.reduceAdd] at hB1
  replace hL0 := hP
  replace hS := hS1
  clear hS1
  go_wp2_with fail
  exact bodyPost_ret (v := .agg #[.bool (zs z), .slice g2 (tln z.natAbs) d2]) (by simp [results, Tryz.results53, go_sem, hB1]) rfl ⟨_, rfl, (rz_of (hS.get List.mem_cons_self)), hL0.bl⟩
set_option maxHeartbeats 4000000 in
set_option maxRecDepth 100000 in
theorem gref_w (s : Bool) (a b : Option Addr) (n c m d : Nat) (z y k x : Int) (q : Rat) (K : World → Prop) (hK : Keeps K) (HZ : ∀ (w : World), K w → Calls Tryz.prog 53 #[.agg #[.bool s, .slice a n c]] w fun e w' => ∃ pv, e = .returned pv ∧ RZ w' pv z ∧ Below w.heap.size w w') (HD : RT 79 #[.agg #[.bool s, .slice a n c, .slice b m d]] (.agg #[.bool false, .slice b m d])) (L : World → Prop) (hL : Keeps L) (HE : ∀ (w : World), L w → Calls Tryz.prog 53 #[.agg #[.bool false, .slice b m d]] w fun e w' => ∃ pv, e = .returned pv ∧ RZ w' pv y ∧ Below w.heap.size w w') (HO : ∀ (w : World), Calls Tryz.prog 129 #[.int .i64 1] w fun e w' => ∃ pv, e = .returned pv ∧ RZ w' pv k ∧ Below w.heap.size w w') (HA : ∀ (p0 p1 : Value) (w : World), RZ w p0 y → RZ w p1 k → Calls Tryz.prog 128 #[p0, p1] w fun e w' => ∃ pv, e = .returned pv ∧ RZ w' pv x ∧ Below w.heap.size w w') (HF : ∀ (p0 p1 : Value) (w : World), RZ w p0 z → Rn w p1 x.natAbs → Calls Tryz.prog 127 #[p0, p1] w fun e w' => ∃ pv, e = .returned pv ∧ RF w' pv q ∧ Below w.heap.size w w') (w : World) (kK : K w) (kL : L w) :
  Calls Tryz.prog 49 #[.agg #[.bool s, .slice a n c, .slice b m d]] w fun e w' => ∃ pv, e = .returned pv ∧ RF w' pv q ∧ Below w.heap.size w w' := by
 replace hK := Lib.hid hK
 replace HZ := Lib.hid HZ
 replace HD := Lib.hid HD
 replace hL := Lib.hid hL
 replace HE := Lib.hid HE
 replace HO := Lib.hid HO
 replace HA := Lib.hid HA
 replace HF := Lib.hid HF
 have hL0 : GL w w [] := GL.start w
 have hS : SS w [] := SS.nil w
 replace hS := ((hS.new (.cells #[.bool s, .slice a n c, .slice b m d] 50)).new (.cells #[.bool false, .slice none 0 0, .slice none 0 0] 42))
 replace hL0 := ((hL0.new rfl [.bool s, .slice a n c, .slice b m d] 50).new (K := w.heap.size + 1) (szA _ _) [.bool false, .slice none 0 0, .slice none 0 0] 42)
 generalize hweq : ((w.alloc (.cells #[.bool s, .slice a n c, .slice b m d] 50)).alloc (.cells #[.bool false, .slice none 0 0, .slice none 0 0] 42)) = x1 at hL0 hS
 go_enter Tryz.func49, Tryz.ntmps49
 go_upto_region 1 with fail
 clear hweq
 refine region_tl 10 [EV (.pointer (some ⟨w.heap.size, 0, none⟩)), EV (.agg #[.bool s, .slice a n c]), PZ z, EV (.agg #[.bool s, .slice a n c, .slice b m d]), EV (.agg #[.bool false, .slice b m d]), PZ y, PZ k, PZ x, PN x.natAbs, PF q] (by kernel_rfl) (by kernel_rfl) ?_ ?_ ?_
 ·exact stays_cons (stays_eq _) (stays_cons (stays_eq _) (stays_cons (stays_rz _) (stays_cons (stays_eq _) (stays_cons (stays_eq _) (stays_cons (stays_rz _) (stays_cons (stays_rz _) (stays_cons (stays_rz _) (stays_cons (stays_rn _) (stays_cons (stays_rf _) (stays_nil))))))))))
 ·simp only [List.take_succ_cons, List.take_zero, hopsR, and_true]
  refine ⟨?_, ?_, ?_, ?_, ?_, ?_, ?_, ?_, ?_, ?_⟩ <;> intro fv w1 hb1 hp
  all_goals (simp only [putsV, Act.put, List.setIfInBounds_toArray, List.set_cons_succ, List.set_cons_zero, Nat.zero_add, Nat.reduceAdd])
  ·refine tyAt_none rfl ?_
   simp [tyUpon, execOp, go_sem, Act.eval, Below.refl]
  ·have h0 : EV _ (fv 0) w1 := hp 0 (LC (by kernel_rfl))
   refine tyAt_none rfl ?_
   have hc := (hL0.call (below_drew hb1)).fc
   simp only [fcG, cellsF, neK, and_true, ne_eq, Nat.zero_add, Nat.reduceAdd] at hc
   simp [tyUpon, execOp, go_sem, Act.eval, hc, h0, Below.refl]
  ·have h1 : EV _ (fv 1) w1 := hp 1 (LC (by kernel_rfl))
   refine tyAt_none rfl ?_
   refine ty_call (f := 53) (args := #[.agg #[.bool s, .slice a n c]]) (by simp [execOp, go_sem, Act.eval, h1]) ?_
   exact (HZ.out w1 (hK.out.at ((hL0.call (below_drew hb1)).bl) kK)).mono fun e w2 ⟨pv, h1, h2, h3⟩ => ⟨pv, h1, h2, h3⟩
  ·refine tyAt_none rfl ?_
   have hc := (hL0.call (below_drew hb1)).fc
   simp only [fcG, cellsF, neK, and_true, ne_eq, Nat.zero_add, Nat.reduceAdd] at hc
   simp [tyUpon, execOp, go_sem, Act.eval, hc, Below.refl]
  ·have h3 : EV _ (fv 3) w1 := hp 3 (LC (by kernel_rfl))
   refine tyAt_none rfl ?_
   refine ty_call (f := 79) (args := #[.agg #[.bool s, .slice a n c, .slice b m d]]) (by simp [execOp, go_sem, Act.eval, h3]) ?_
   exact (HD.out w1).mono fun e w2 ⟨h1, h2⟩ => ⟨_, h1, rfl, h2⟩
  ·have h4 : EV _ (fv 4) w1 := hp 4 (LC (by kernel_rfl))
   refine tyAt_none rfl ?_
   refine ty_call (f := 53) (args := #[.agg #[.bool false, .slice b m d]]) (by simp [execOp, go_sem, Act.eval, h4]) ?_
   exact (HE.out w1 (hL.out.at ((hL0.call (below_drew hb1)).bl) kL)).mono fun e w2 ⟨pv, h1, h2, h3⟩ => ⟨pv, h1, h2, h3⟩
  ·refine tyAt_none rfl ?_
   refine ty_call (f := 129) (args := #[.int .i64 1]) (by simp [execOp, go_sem, Act.eval]) ?_
   exact (HO.out w1).mono fun e w2 ⟨pv, h1, h2, h3⟩ => ⟨pv, h1, h2, h3⟩
  ·have h5 : PZ _ (fv 5) w1 := hp 5 (LC (by kernel_rfl))
   have h6 : PZ _ (fv 6) w1 := hp 6 (LC (by kernel_rfl))
   refine tyAt_none rfl ?_
   refine ty_call (f := 128) (args := #[fv 5, fv 6]) (by simp [execOp, go_sem, Act.eval]) ?_
   exact (HA.out (fv 5) (fv 6) w1 h5 h6).mono fun e w2 ⟨pv, h1, h2, h3⟩ => ⟨pv, h1, h2, h3⟩
  ·have h7 : PZ _ (fv 7) w1 := hp 7 (LC (by kernel_rfl))
   refine tyAt_none rfl ?_
   obtain ⟨pg, pd, pe⟩ := rz_form h7
   rw [pe] at h7
   simp [tyUpon, execOp, go_sem, Act.eval, pe, z_field, Below.refl]
   exact rz_rn h7
  ·have h2 : PZ _ (fv 2) w1 := hp 2 (LC (by kernel_rfl))
   have h8 : PN _ (fv 8) w1 := hp 8 (LC (by kernel_rfl))
   refine tyAt_none rfl ?_
   refine ty_call (f := 127) (args := #[fv 2, fv 8]) (by simp [execOp, go_sem, Act.eval]) ?_
   exact (HF.out (fv 2) (fv 8) w1 h2 h8).mono fun e w2 ⟨pv, h1, h2, h3⟩ => ⟨pv, h1, h2, h3⟩
 ·intro fv x2 hb1 hv
  have e0 : fv 0 = _ := hv 0 (by omega)
  have e1 : fv 1 = _ := hv 1 (by omega)
  have q2 : RZ x2 (fv 2) z := hv 2 (by omega)
  obtain ⟨g1, d1, e2⟩ := rz_form q2
  rw [e2] at q2
  have e3 : fv 3 = _ := hv 3 (by omega)
  have e4 : fv 4 = _ := hv 4 (by omega)
  have q5 : RZ x2 (fv 5) y := hv 5 (by omega)
  obtain ⟨g2, d2, e5⟩ := rz_form q5
  rw [e5] at q5
  have q6 : RZ x2 (fv 6) k := hv 6 (by omega)
  obtain ⟨g3, d3, e6⟩ := rz_form q6
  rw [e6] at q6
  have q7 : RZ x2 (fv 7) x := hv 7 (by omega)
  obtain ⟨g4, d4, e7⟩ := rz_form q7
  rw [e7] at q7
  have q8 : Rn x2 (fv 8) x.natAbs := hv 8 (by omega)
  obtain ⟨g5, d5, e8⟩ := rn_form q8
  rw [e8] at q8
  have q9 : RF x2 (fv 9) q := hv 9 (by omega)
  obtain ⟨g6, d6, g7, d7, e9⟩ := rf_form q9
  rw [e9] at q9
  simp only [List.take_succ_cons, List.take_zero, putsV, Act.put, List.setIfInBounds_toArray, List.set_cons_succ, List.set_cons_zero, List.drop_succ_cons, List.drop_zero, Nat.zero_add, Nat.reduceAdd, e0, e1, e2, e3, e4, e5, e6, e7, e8, e9]
  replace hL0 := hL0.call (below_drew hb1)
  replace hS := hS.call (below_drew hb1)
  replace hS := hS.cons (rz_rn q2)
  replace hS := hS.cons (rz_rn q5)
  replace hS := hS.cons (rz_rn q6)
  replace hS := hS.cons (rz_rn q7)
  replace hS := hS.cons q8
  replace hS := hS.cons (rf_rn1 q9)
  replace hS := hS.cons (rf_rn2 q9)
  clear e0 e1 e2 e3 e4 e5 e6 e7 e8 e9 hb1 hv q2 q5 q6 q7 q8 q9 fv
  have hS1 := hS.put ((((Upd.refl (w.heap.size + 1) x2).setCell 0 (.bool (zs q.num))).setCell 1 (.slice g6 (tln q.num.natAbs) d6)).setCell 2 (.slice g7 (tln (fd q)) d7)) (hL0.get _ _ List.mem_cons_self) (by intro v hv n; simp only [List.mem_cons, List.not_mem_nil, or_false] at hv; rcases hv with rfl | rfl | rfl <;> simp)
  have hA := hL0.fc
  simp only [fcG, cellsF, neK, and_true, ne_eq, Nat.zero_add, Nat.reduceAdd] at hA
  have hP := hL0.put 0 (w.heap.size + 1) _ rfl [.bool (zs q.num), .slice g6 (tln q.num.natAbs) d6, .slice g7 (tln (fd q)) d7] rfl
  simp only [setAll, List.set_cons_zero, List.set_cons_succ] at hP
  generalize hput1 : (((x2.setCell ⟨w.heap.size + 1, 0, none⟩ (.bool (zs q.num))).setCell ⟨w.heap.size + 1, 1, none⟩ (.slice g6 (tln q.num.natAbs) d6)).setCell ⟨w.heap.size + 1, 2, none⟩ (.slice g7 (tln (fd q)) d7)) = x3 at hP hS1
  have hB1 := hP.fc
  simp only [fcG, cellsF, neK, and_true, ne_eq, Nat.zero_add, Nat.reduceAdd] at hB1
  replace hL0 := hP
  replace hS := hS1
  clear hS1
  go_wp2_with fail
  exact bodyPost_ret (v := .agg #[.bool (zs q.num), .slice g6 (tln q.num.natAbs) d6, .slice g7 (tln (fd q)) d7]) (by simp [results, Tryz.results49, go_sem, hB1]) rfl ⟨_, rfl, (rf_of (hS.get (List.mem_cons_of_mem _ List.mem_cons_self)) (hS.get List.mem_cons_self)), hL0.bl⟩
end Go.Proofs.YtdkjckiialnpnaaGreatDoor
namespace Go.Proofs.YtdkjckiialnpnaaGreatDoor
open Go.RowKit Go.Proofs.YtdkjckiialnpnaaGreatDoor.Rx
attribute [local irreducible] lo hs sm s64 c64 d64 b64 mh ml pd pc qd qc val hiB str cmpI srD lz nb isq zl zh dval
theorem zref_any (s : Bool) (a : Option Addr) (n c : Nat) (l : List Nat) (hl : l.length ≤ 1000) (w : World) (h : Ws w (.slice a n c) l) :
  Calls Tryz.prog 53 #[.agg #[.bool s, .slice a n c]] w fun e w' => ∃ v, e = .returned v ∧ RZ w' v (zmade s l) ∧ Below w.heap.size w w' :=
 zref_w s a n c (made l) (zmade s l) _ (Keeps.ws _ l) (fun w h => rofw_any _ l hl w h) (rz_from s (made l) (zmade s l) (by rw [Bool.eq_iff_iff]; unfold zmade; cases s <;> simp <;> omega) (by unfold zmade; split <;> simp)) w h
theorem gref_any (s : Bool) (a b : Option Addr) (n c m d : Nat) (l k : List Nat) (hl : l.length ≤ 300) (hk : k.length ≤ 300) (w : World) (h1 : Ws w (.slice a n c) l) (h2 : Ws w (.slice b m d) k) :
  Calls Tryz.prog 49 #[.agg #[.bool s, .slice a n c, .slice b m d]] w fun e w' => ∃ v, e = .returned v ∧ RF w' v (gmade s l k) ∧ Below w.heap.size w w' := by
 have t1 := td_made h1.lt
 have t2 := td_made h2.lt
 have e1 : (zmade s l).natAbs = made l := by unfold zmade; split <;> simp
 have e2 : (zmade false k).natAbs = made k := by unfold zmade; simp
 have e3 : (zmade false k + 1).natAbs = made k + 1 := by unfold zmade; simp; omega
 have t3 : (Rx.td (made k + 1)).length ≤ 901 := Nat.le_trans (td_add_le (k := 900) (by omega) (Nat.le_trans td_one (by omega))) (by omega)
 unfold gmade
 refine gref_w s a b n c m d (zmade s l) (zmade false k) 1 (zmade false k + 1) _ _ (Keeps.ws _ l) (fun w h => zref_any s a n c l (by omega) w h) (fun w => gden_w s a b n c m d w) _ (Keeps.ws _ k) (fun w h => zref_any false b m d k (by omega) w h) rzof_one (fun v1 v2 w g1 g2 => rzaddI v1 v2 _ _ (by rw [e2]; omega) (Nat.le_trans td_one (by omega)) w g1 g2) ?_ w h1 h2
 rw [e3]
 exact rfrom (zmade s l) (made k + 1) (by omega) (by rw [e1]; omega) (by omega)
end Go.Proofs.YtdkjckiialnpnaaGreatDoor
namespace Go.Proofs.YtdkjckiialnpnaaGreatDoor
/-- A number greater than 1 that only 1 and itself divide. -/
def isPr (p : Nat) : Prop := 1 < p ∧ ∀ d, d ∣ p → d = 1 ∨ d = p
theorem pr_coprime {p a : Nat} (hp : isPr p) (h : ¬ p ∣ a) : Nat.Coprime p a := by
 rcases hp.2 _ (Nat.gcd_dvd_left p a) with e | e
 ·exact e
 ·exact absurd (e ▸ Nat.gcd_dvd_right p a) h
theorem pr_mul {p a b : Nat} (hp : isPr p) (h : p ∣ a * b) : p ∣ a ∨ p ∣ b := by
 by_cases ha : p ∣ a
 ·exact .inl ha
 ·exact .inr ((pr_coprime hp ha).dvd_of_dvd_mul_left h)
def bin : Nat → Nat → Nat
 | _, 0 => 1
 | 0, _ + 1 => 0
 | n + 1, k + 1 => bin n k + bin n (k + 1)
theorem bin_zero (n : Nat) : bin n 0 = 1 := by cases n <;> rfl
theorem bin_succ (n k : Nat) : bin (n + 1) (k + 1) = bin n k + bin n (k + 1) := rfl
theorem bin_big : ∀ {n k : Nat}, n < k → bin n k = 0
 | 0, k + 1, _ => rfl
 | n + 1, k + 1, h => by rw [bin_succ, bin_big (by omega), bin_big (by omega)]
theorem bin_self : ∀ n, bin n n = 1
 | 0 => rfl
 | n + 1 => by rw [bin_succ, bin_self n, bin_big (Nat.lt_succ_self n)]
/-- k times the binomial is n times the one before. -/
theorem bin_absorb : ∀ n k, (k + 1) * bin (n + 1) (k + 1) = (n + 1) * bin n k
 | 0, 0 => rfl
 | 0, k + 1 => by rw [bin_big (show 0 + 1 < k + 1 + 1 by omega), bin_big (show 0 < k + 1 by omega), Nat.mul_zero, Nat.mul_zero]
 | n + 1, 0 => by
  have h := bin_absorb n 0
  rw [bin_zero] at h
  rw [bin_succ, bin_zero]
  simp only [Nat.zero_add, Nat.one_mul, Nat.mul_one] at h ⊢
  omega
 | n + 1, k + 1 => by
  have h1 := bin_absorb n k
  have h2 := bin_absorb n (k + 1)
  rw [bin_succ (n + 1) (k + 1), Nat.mul_add, h2]
  have h3 : bin (n + 1) (k + 1) = bin n k + bin n (k + 1) := rfl
  have h4 : (k + 1 + 1) * bin (n + 1) (k + 1) = (n + 1) * bin n k + bin (n + 1) (k + 1) := by rw [Nat.add_mul, h1, Nat.one_mul]
  rw [h4, h3, Nat.add_mul (n + 1), Nat.mul_add (n + 1)]
  omega
theorem bin_prime {p k : Nat} (hp : isPr p) (h0 : 0 < k) (h : k < p) : p ∣ bin p k := by
 obtain ⟨n, rfl⟩ : ∃ n, p = n + 1 := ⟨p - 1, by have := hp.1; omega⟩
 obtain ⟨j, rfl⟩ : ∃ j, k = j + 1 := ⟨k - 1, by omega⟩
 have e := bin_absorb n j
 have hd : n + 1 ∣ (j + 1) * bin (n + 1) (j + 1) := ⟨_, e⟩
 rcases pr_mul hp hd with h1 | h1
 ·exact absurd (Nat.le_of_dvd (by omega) h1) (by omega)
 ·exact h1
/-- The first j terms of the binomial sum. -/
def bsum (a n : Nat) : Nat → Nat
 | 0 => 0
 | j + 1 => bsum a n j + bin n j * a ^ j
theorem bsum_step (a n : Nat) : ∀ j, bsum a (n + 1) (j + 1) = bsum a n (j + 1) + a * bsum a n j
 | 0 => by simp [bsum, bin_zero]
 | j + 1 => by
  have h := bsum_step a n j
  rw [bsum, h, bin_succ, bsum, bsum]
  have e1 : bsum a n (j + 1) = bsum a n j + bin n j * a ^ j := rfl
  rw [e1, Nat.add_mul, Nat.mul_add, Nat.pow_succ]
  have e2 : bin n j * (a ^ j * a) = a * (bin n j * a ^ j) := by rw [Nat.mul_comm a, Nat.mul_assoc]
  rw [e2]; omega
theorem binomial (a : Nat) : ∀ n, (a + 1) ^ n = bsum a n (n + 1)
 | 0 => by simp [bsum, bin_zero]
 | n + 1 => by
  rw [bsum_step, bsum, bin_big (Nat.lt_succ_self n), Nat.zero_mul, Nat.add_zero, ← binomial a n, Nat.pow_succ, Nat.mul_add, Nat.mul_one, Nat.mul_comm _ a]
  omega
theorem bsum_prime {p : Nat} (hp : isPr p) (a : Nat) : ∀ j, 0 < j → j ≤ p → bsum a p j % p = 1
 | 1, _, _ => by
  show (0 + bin p 0 * a ^ 0) % p = 1
  rw [bin_zero, Nat.zero_add, Nat.one_mul, Nat.pow_zero, Nat.mod_eq_of_lt hp.1]
 | j + 2, _, h => by
  have h1 := bsum_prime hp a (j + 1) (by omega) (by omega)
  obtain ⟨c, e⟩ := bin_prime hp (show 0 < j + 1 by omega) (show j + 1 < p by omega)
  rw [bsum, e, Nat.mul_assoc, Nat.add_mul_mod_self_left]
  exact h1
/-- The power p of a number is the number, modulo a prime p. -/
theorem fermat {p : Nat} (hp : isPr p) : ∀ a, a ^ p % p = a % p
 | 0 => by rw [Nat.zero_pow (by have := hp.1; omega)]
 | a + 1 => by
  rw [binomial, bsum, bin_self, Nat.one_mul, Nat.add_mod, bsum_prime hp a p (by have := hp.1; omega) (Nat.le_refl p), fermat hp a, Nat.add_comm 1, ← Nat.add_mod_mod]
  rw [Nat.add_mod_mod, Nat.mod_add_mod]
theorem fermat_one {p a : Nat} (hp : isPr p) (h : ¬ p ∣ a) : a ^ (p - 1) % p = 1 := by
 have h1 := fermat hp a
 have e : a ^ p = a ^ (p - 1) * a := by rw [← Nat.pow_succ]; congr 1; have := hp.1; omega
 have ha : 0 < a := Nat.pos_of_ne_zero fun e => h (e ▸ Nat.dvd_zero p)
 have hle : a ≤ a ^ p := Nat.le_self_pow (by have := hp.1; omega) a
 have h2 : p ∣ a ^ p - a := Nat.dvd_of_mod_eq_zero (Nat.sub_mod_eq_zero_of_mod_eq h1)
 have h3 : a ^ p - a = (a ^ (p - 1) - 1) * a := by rw [e, Nat.sub_mul, Nat.one_mul]
 rw [h3] at h2
 have hpos : 0 < a ^ (p - 1) := Nat.pow_pos ha
 rcases pr_mul hp h2 with h4 | h4
 ·obtain ⟨c, hc⟩ := h4
  have : a ^ (p - 1) = 1 + p * c := by omega
  rw [this, Nat.add_mul_mod_self_left, Nat.mod_eq_of_lt hp.1]
 ·exact absurd h4 h
/-- No divisor from d on, for n tests. -/
def noDiv (p : Nat) : Nat → Nat → Bool
 | 0, _ => true
 | n + 1, d => p % d != 0 && noDiv p n (d + 1)
theorem noDiv_spec {p : Nat} : ∀ {n d i : Nat}, noDiv p n d = true → d ≤ i → i < d + n → ¬ i ∣ p
 | 0, d, i, _, h1, h2 => by omega
 | n + 1, d, i, h, h1, h2 => by
  rw [noDiv, Bool.and_eq_true] at h
  rcases Nat.lt_or_ge d i with h3 | h3
  ·exact noDiv_spec h.2 h3 (by omega)
  ·have : i = d := by omega
   subst this
   intro hd
   have := Nat.mod_eq_zero_of_dvd hd
   simp [this] at h
/-- A number with no divisor from 2 up to its root is a prime. -/
theorem isPr_of {p n : Nat} (h1 : 1 < p) (hn : p < (n + 2) * (n + 2)) (h : noDiv p n 2 = true) : isPr p := by
 refine ⟨h1, fun d hd => ?_⟩
 obtain ⟨e, rfl⟩ := hd
 have hnot : ∀ i, 2 ≤ i → i < 2 + n → ¬ i ∣ d * e := fun i g1 g2 => noDiv_spec h g1 g2
 have hd0 : 0 < d := Nat.pos_of_ne_zero fun g => by subst g; omega
 have he0 : 0 < e := Nat.pos_of_ne_zero fun g => by subst g; omega
 rcases Nat.lt_or_ge d 2 with g | g
 ·left; omega
 ·right
  rcases Nat.lt_or_ge e 2 with g2 | g2
  ·have : e = 1 := by omega
   rw [this, Nat.mul_one]
  ·have c1 : 2 + n ≤ d := by
    rcases Nat.lt_or_ge d (2 + n) with k | k
    ·exact absurd (Nat.dvd_mul_right d e) (hnot d g k)
    ·exact k
   have c2 : 2 + n ≤ e := by
    rcases Nat.lt_or_ge e (2 + n) with k | k
    ·exact absurd (Nat.dvd_mul_left e d) (hnot e g2 k)
    ·exact k
   have := Nat.mul_le_mul c1 c2
   rw [Nat.add_comm 2 n] at this
   omega
end Go.Proofs.YtdkjckiialnpnaaGreatDoor
namespace Go.Proofs.YtdkjckiialnpnaaGreatDoor
theorem pow_mul_one {b q k : Nat} (h1 : 1 < q) (h : b ^ k % q = 1) (c : Nat) : b ^ (k * c) % q = 1 := by
 rw [Nat.pow_mul, Nat.pow_mod, h, Nat.one_pow, Nat.mod_eq_of_lt h1]
theorem pow_add_one {b q k m : Nat} (h : b ^ k % q = 1) : b ^ (k + m) % q = b ^ m % q := by
 rw [Nat.pow_add, Nat.mul_mod, h, Nat.one_mul, Nat.mod_mod]
theorem mod_down {n q c x : Nat} (h1 : 1 < q) (e : n = q * c) (h : x % n = 1) : x % q = 1 := by
 have := Nat.mod_mod_of_dvd x (show q ∣ n from ⟨c, e⟩)
 rw [h, Nat.mod_eq_of_lt h1] at this
 exact this.symm
theorem mod_zero_pow {b q k : Nat} (h0 : 0 < k) (h : q ∣ b) : b ^ k % q = 0 := by
 obtain ⟨j, rfl⟩ : ∃ j, k = j + 1 := ⟨k - 1, by omega⟩
 rw [Nat.pow_succ]
 exact Nat.mod_eq_zero_of_dvd (Nat.dvd_mul_left_of_dvd h _)
/-- Where b^(n-1) is 1 modulo n, b^(n/q-1) is 1 modulo a prime q of n. -/
theorem psp_prime {n q b c : Nat} (hq : isPr q) (hn : n = q * c) (hc : 0 < c) (h : b ^ (n - 1) % n = 1) : b ^ (c - 1) % q = 1 := by
 have h1 := mod_down hq.1 hn h
 have h2 := hq.1
 have hn1 : 0 < n - 1 := by
  have := Nat.le_mul_of_pos_right q hc
  omega
 have hb : ¬ q ∣ b := fun g => by rw [mod_zero_pow hn1 g] at h1; omega
 have h3 := pow_mul_one hq.1 (fermat_one hq hb) c
 have e : n - 1 = (q - 1) * c + (c - 1) := by
  rw [hn, Nat.sub_mul, Nat.one_mul]
  have := Nat.le_mul_of_pos_left c (show 0 < q by omega)
  omega
 rw [e, pow_add_one h3] at h1
 exact h1
/-- The exponents with power 1 are closed under greatest common divisors. -/
theorem pow_gcd {b q : Nat} (h1 : 1 < q) : ∀ k m : Nat, b ^ k % q = 1 → b ^ m % q = 1 → b ^ Nat.gcd k m % q = 1 := by
 intro k m
 induction k, m using Nat.gcd.induction with
 | H0 n => intro _ h; rwa [Nat.gcd_zero_left]
 | H1 m n hm ih =>
  intro hk hn
  rw [Nat.gcd_rec]
  refine ih ?_ hk
  have e := Nat.mod_add_div n m
  rw [Nat.add_comm] at e
  rw [← e, pow_add_one (pow_mul_one h1 hk (n / m))] at hn
  exact hn
theorem prime_factor : ∀ n : Nat, 1 < n → ∃ p, isPr p ∧ p ∣ n := by
 intro n
 induction n using Nat.strongRecOn with
 | _ n ih =>
  intro h
  by_cases hp : isPr n
  ·exact ⟨n, hp, Nat.dvd_refl n⟩
  ·have : ∃ d, d ∣ n ∧ d ≠ 1 ∧ d ≠ n := by
    refine Classical.byContradiction fun g => hp ⟨h, fun d hd => ?_⟩
    by_cases e1 : d = 1
    ·exact .inl e1
    ·exact .inr (Classical.byContradiction fun e2 => g ⟨d, hd, e1, e2⟩)
   obtain ⟨d, hd, e1, e2⟩ := this
   have hle := Nat.le_of_dvd (by omega) hd
   have h0 : d ≠ 0 := fun e => by subst e; obtain ⟨c, hc⟩ := hd; omega
   obtain ⟨p, hp, hpd⟩ := ih d (by omega) (by omega)
   exact ⟨p, hp, Nat.dvd_trans hpd hd⟩
/-- The greatest prime of a number. -/
theorem greatest_prime {n : Nat} (h : 1 < n) : ∃ q, isPr q ∧ q ∣ n ∧ ∀ p, isPr p → p ∣ n → p ≤ q := by
 have key : ∀ k, (∃ q, isPr q ∧ q ∣ n ∧ n ≤ q + k) → ∃ q, isPr q ∧ q ∣ n ∧ ∀ p, isPr p → p ∣ n → p ≤ q := by
  intro k
  induction k with
  | zero =>
   rintro ⟨q, h1, h2, h3⟩
   exact ⟨q, h1, h2, fun p _ hp => by have := Nat.le_of_dvd (by omega) hp; omega⟩
  | succ k ih =>
   rintro ⟨q, h1, h2, h3⟩
   by_cases g : ∃ p, isPr p ∧ p ∣ n ∧ q < p
   ·obtain ⟨p, g1, g2, g3⟩ := g
    exact ih ⟨p, g1, g2, by omega⟩
   ·exact ⟨q, h1, h2, fun p hp hd => by
     rcases Nat.lt_or_ge q p with k1 | k1
     ·exact absurd ⟨p, hp, hd, k1⟩ g
     ·exact k1⟩
 obtain ⟨q, h1, h2⟩ := prime_factor n h
 exact key n ⟨q, h1, h2, by omega⟩
/-- A proper divisor divides the number over one of its primes. -/
theorem proper_dvd {g m : Nat} (hm : 0 < m) (hd : g ∣ m) (hne : g ≠ m) : ∃ l, isPr l ∧ l ∣ m ∧ g ∣ m / l := by
 obtain ⟨c, rfl⟩ := hd
 have hg : 0 < g := Nat.pos_of_ne_zero fun e => by subst e; omega
 have hc0 : c ≠ 0 := fun e => by subst e; omega
 have hc : 1 < c := by
  rcases Nat.lt_or_ge 1 c with h | h
  ·exact h
  ·have : c = 1 := by omega
   subst this; exact absurd (Nat.mul_one g).symm hne
 obtain ⟨l, hl, k, rfl⟩ := prime_factor c hc
 refine ⟨l, hl, ⟨g * k, by rw [Nat.mul_left_comm]⟩, ?_⟩
 have : g * (l * k) = l * (g * k) := Nat.mul_left_comm g l k
 rw [this, Nat.mul_div_cancel_left _ (by have := hl.1; omega)]
 exact Nat.dvd_mul_right g k
end Go.Proofs.YtdkjckiialnpnaaGreatDoor
namespace Go.Proofs.YtdkjckiialnpnaaGreatDoor
def st2 (n x d : Nat) : Nat := Nat.mod (Nat.mul (Nat.pow x 256) (Nat.pow 2 d)) n
def pw2 (n e : Nat) : Nat := st2 n (st2 n (st2 n (st2 n 1 (Nat.div e 16777216)) (Nat.mod (Nat.div e 65536) 256)) (Nat.mod (Nat.div e 256) 256)) (Nat.mod e 256)
theorem st2_eq (n x d : Nat) : st2 n x d = x ^ 256 * 2 ^ d % n := rfl
theorem st2_pow (n k d : Nat) : st2 n (2 ^ k % n) d = 2 ^ (256 * k + d) % n := by
 rw [st2_eq, Nat.mul_mod, ← Nat.pow_mod, ← Nat.mul_mod, ← Nat.pow_mul, ← Nat.pow_add, Nat.mul_comm k]
theorem pw2_eq (n e : Nat) : pw2 n e = 2 ^ e % n := by
 have h0 : st2 n 1 (e / 16777216) = 2 ^ (e / 16777216) % n := by rw [st2_eq, Nat.one_pow, Nat.one_mul]
 show st2 n (st2 n (st2 n (st2 n 1 (e / 16777216)) (e / 65536 % 256)) (e / 256 % 256)) (e % 256) = _
 rw [h0, st2_pow, st2_pow, st2_pow]
 congr 2
 omega
def stb (b n x d : Nat) : Nat := Nat.mod (Nat.mul (Nat.pow x 256) (Nat.pow b d)) n
def pwb (b n e : Nat) : Nat := stb b n (stb b n (stb b n (stb b n 1 (Nat.div e 16777216)) (Nat.mod (Nat.div e 65536) 256)) (Nat.mod (Nat.div e 256) 256)) (Nat.mod e 256)
theorem stb_eq (b n x d : Nat) : stb b n x d = x ^ 256 * b ^ d % n := rfl
theorem stb_pow (b n k d : Nat) : stb b n (b ^ k % n) d = b ^ (256 * k + d) % n := by
 rw [stb_eq, Nat.mul_mod, ← Nat.pow_mod, ← Nat.mul_mod, ← Nat.pow_mul, ← Nat.pow_add, Nat.mul_comm k]
theorem pwb_eq (b n e : Nat) : pwb b n e = b ^ e % n := by
 have h0 : stb b n 1 (e / 16777216) = b ^ (e / 16777216) % n := by rw [stb_eq, Nat.one_pow, Nat.one_mul]
 show stb b n (stb b n (stb b n (stb b n 1 (e / 16777216)) (e / 65536 % 256)) (e / 256 % 256)) (e % 256) = _
 rw [h0, stb_pow, stb_pow, stb_pow]
 congr 2
 omega
/-- n passes: the powers n - 1 of all witnesses are 1. -/
def Pass (W : List Nat) (n : Nat) : Prop := ∀ b ∈ W, b ^ (n - 1) % n = 1
/-- What is known of a prime q: all exponents at which the witnesses have the power 1 are multiples of e; and not all have it modulo q q. -/
def Ent (W : List Nat) (q e : Nat) : Prop := isPr q → (∀ m, (∀ b ∈ W, b ^ m % q = 1) → e ∣ m) ∧ ∃ b ∈ W, b ^ (q - 1) % (q * q) ≠ 1
/-- (1 + k q)^j is 1 + j k q modulo q q. -/
theorem pow_lift {x q k : Nat} (h : x = 1 + k * q) : ∀ j, x ^ j % (q * q) = (1 + j * k * q) % (q * q)
 | 0 => by simp
 | j + 1 => by
  rw [Nat.pow_succ, Nat.mul_mod, pow_lift h j, ← Nat.mul_mod, h]
  have e : (1 + j * k * q) * (1 + k * q) = (1 + (j + 1) * k * q) + q * q * (j * k * k) := by grind
  rw [e, Nat.add_mul_mod_self_left]
theorem euler_sq {b q : Nat} (hq : isPr q) (hb : ¬ q ∣ b) : b ^ ((q - 1) * q) % (q * q) = 1 := by
 have h := fermat_one hq hb
 have e := Nat.mod_add_div (b ^ (q - 1)) q
 rw [h] at e
 have h1 := hq.1
 rw [Nat.pow_mul, pow_lift (k := b ^ (q - 1) / q) (by rw [Nat.mul_comm]; exact e.symm) q]
 have : q * (b ^ (q - 1) / q) * q = q * q * (b ^ (q - 1) / q) := by rw [Nat.mul_right_comm]
 rw [this, Nat.add_mul_mod_self_left, Nat.mod_eq_of_lt]
 have := Nat.mul_le_mul (show 2 ≤ q by omega) (show 2 ≤ q by omega)
 omega
theorem not_dvd_w {W : List Nat} {n q b : Nat} (hp : Pass W n) (hq : isPr q) (hd : q ∣ n) (h1 : 1 < n) (hb : b ∈ W) : ¬ q ∣ b := by
 intro g
 obtain ⟨c, e⟩ := hd
 have h := mod_down hq.1 e (hp b hb)
 rw [mod_zero_pow (by omega) g] at h
 omega
theorem dvd_pred {n q c : Nat} (e : n = q * c) (h1 : 1 < n) (hd : q ∣ n - 1) : q = 1 := by
 have := (Nat.dvd_sub (show q ∣ n from ⟨c, e⟩) hd)
 rw [show n - (n - 1) = 1 by omega] at this
 exact Nat.dvd_one.1 this
/-- The prime q occurs once, and e divides n - 1. -/
theorem Ent.once {W : List Nat} {n q e : Nat} (h : Ent W q e) (hp : Pass W n) (hq : isPr q) (hd : q ∣ n) (h1 : 1 < n) : ¬ q * q ∣ n := by
 rintro ⟨c, hc⟩
 obtain ⟨b, hb, hne⟩ := (h hq).2
 have hbq := not_dvd_w hp hq hd h1 hb
 have q1 := hq.1
 have qq : 1 < q * q := by
  have := Nat.mul_le_mul (show 2 ≤ q by omega) (show 2 ≤ q by omega)
  omega
 have k1 := mod_down qq hc (hp b hb)
 have k2 := euler_sq hq hbq
 have k3 := pow_gcd qq _ _ k2 k1
 have hcop : Nat.Coprime (n - 1) q := by
  rcases hq.2 _ (Nat.gcd_dvd_right (n - 1) q) with g | g
  ·exact g
  ·have : q ∣ n - 1 := g ▸ Nat.gcd_dvd_left (n - 1) q
   have := dvd_pred (show n = q * (q * c) by rw [hc, Nat.mul_assoc]) h1 this
   omega
 have k4 : Nat.gcd ((q - 1) * q) (n - 1) ∣ q - 1 := by
  have c1 : Nat.Coprime (Nat.gcd ((q - 1) * q) (n - 1)) q := Nat.Coprime.coprime_dvd_left (Nat.gcd_dvd_right _ _) hcop
  exact c1.dvd_of_dvd_mul_right (Nat.gcd_dvd_left _ _)
 obtain ⟨t, ht⟩ := k4
 apply hne
 rw [ht]
 exact pow_mul_one qq k3 t
theorem Ent.pred {W : List Nat} {n q e : Nat} (h : Ent W q e) (hp : Pass W n) (hq : isPr q) (hd : q ∣ n) (h1 : 1 < n) : e ∣ n - 1 := by
 obtain ⟨c, hc⟩ := hd
 have hc0 : 0 < c := Nat.pos_of_ne_zero fun g => by subst g; omega
 refine (h hq).1 _ fun b hb => ?_
 have := mod_down hq.1 hc (hp b hb)
 exact this
/-- n does not pass: the power of 2 first, then the test itself. -/
def leafOk (T : Nat → Bool) (n : Nat) : Bool := cond (Nat.beq (pw2 n (Nat.sub n 1)) 1) (not (T n)) true
theorem leafOk_spec {T : Nat → Bool} {n : Nat} (h : leafOk T n = true) (h2 : 2 ^ (n - 1) % n = 1) : T n = false := by
 unfold leafOk at h
 rw [pw2_eq] at h
 have : Nat.beq (2 ^ (n - 1) % n) 1 = true := by rw [h2]; rfl
 rw [show Nat.sub n 1 = n - 1 from rfl, this] at h
 simpa using h
/-- All n = m (c0 + i L) below N, for i < k. -/
noncomputable def enumOk (N : Nat) (T : Nat → Bool) (m L c0 k : Nat) : Bool :=
 Nat.rec (motive := fun _ => Bool) true (fun i ih => and ((fun n => cond (Nat.ble N n) true (leafOk T n)) (Nat.mul m (Nat.add c0 (Nat.mul i L)))) ih) k
theorem enumOk_succ (N : Nat) (T : Nat → Bool) (m L c0 k : Nat) : enumOk N T m L c0 (k + 1) = ((cond (Nat.ble N (m * (c0 + k * L))) true (leafOk T (m * (c0 + k * L)))) && enumOk N T m L c0 k) := rfl
theorem enumOk_spec {N : Nat} {T : Nat → Bool} {m L c0 : Nat} : ∀ {k i : Nat}, enumOk N T m L c0 k = true → i < k → m * (c0 + i * L) < N → leafOk T (m * (c0 + i * L)) = true
 | 0, i, _, hi, _ => by omega
 | k + 1, i, h, hi, hn => by
  rw [enumOk_succ, Bool.and_eq_true] at h
  rcases Nat.lt_or_ge i k with h1 | h1
  ·exact enumOk_spec h.2 h1 hn
  ·have : i = k := by omega
   subst this
   have hb : Nat.ble N (m * (c0 + i * L)) = false := by
    rcases hh : Nat.ble N (m * (c0 + i * L)) with _ | _
    ·rfl
    ·exact absurd (Nat.le_of_ble_eq_true hh) (by omega)
   rw [hb] at h
   exact h.1
/-- A number x with m x = 1 modulo L, if it finds one (checked where it is used). -/
noncomputable def invN (L : Nat) (f : Nat) : Nat → Nat → Nat → Nat → Nat :=
 Nat.rec (motive := fun _ => Nat → Nat → Nat → Nat → Nat) (fun _ _ _ s1 => s1)
  (fun _ ih r0 r1 s0 s1 => cond (Nat.ble r1 1) s1 (ih r1 (Nat.mod r0 r1) s1 (Nat.mod (Nat.add s0 (Nat.mul (Nat.div r0 r1) (Nat.sub L s1))) L))) f
noncomputable def leaves (N : Nat) (T : Nat → Bool) (m L : Nat) : Bool :=
 (fun c0 => and (Nat.beq (Nat.mod (Nat.mul m c0) L) (Nat.mod 1 L)) (enumOk N T m L (Nat.mod c0 L) (Nat.add (Nat.div N (Nat.mul m L)) 1))) (invN L 60 L (Nat.mod m L) 0 1)
theorem leaves_spec {N : Nat} {T : Nat → Bool} {m L n : Nat} (h : leaves N T m L = true) (hL : 0 < L) (hm : m ∣ n) (hn : n < N) (h1 : 1 < n) (hd : L ∣ n - 1) : leafOk T n = true := by
 unfold leaves at h
 generalize invN L 60 L (Nat.mod m L) 0 1 = c0 at h
 have h : ((Nat.beq (m * c0 % L) (1 % L)) && enumOk N T m L (c0 % L) (N / (m * L) + 1)) = true := h
 rw [Bool.and_eq_true] at h
 have e1 : m * c0 % L = 1 % L := Nat.eq_of_beq_eq_true h.1
 obtain ⟨c, rfl⟩ := hm
 have hm0 : 0 < m := Nat.pos_of_ne_zero fun g => by subst g; omega
 have e2 : m * c % L = 1 % L := by
  obtain ⟨t, ht⟩ := hd
  have : m * c = 1 + L * t := by omega
  rw [this, Nat.add_mul_mod_self_left]
 have e3 : c % L = c0 % L := by
  have a1 : (m * c0) * c % L = c % L := by rw [Nat.mul_mod, e1, ← Nat.mul_mod, Nat.one_mul]
  have a2 : (m * c) * c0 % L = c0 % L := by rw [Nat.mul_mod, e2, ← Nat.mul_mod, Nat.one_mul]
  rw [← a1, ← a2, Nat.mul_right_comm]
 have e4 : c = c0 % L + c / L * L := by rw [← e3, Nat.mul_comm]; exact (Nat.mod_add_div c L).symm
 have e5 : c / L < N / (m * L) + 1 := by
  rw [← Nat.mul_div_mul_left c L hm0]
  exact Nat.lt_succ_of_le (Nat.div_le_div_right (Nat.le_of_lt hn))
 have := enumOk_spec h.2 e5 (by rw [← e4]; exact hn)
 rwa [← e4] at this
/-- The search: m divides n, L divides n - 1, the other primes of n come from the list. -/
noncomputable def go (N : Nat) (T : Nat → Bool) (l : List (Nat × Nat)) : Nat → Nat → Bool :=
 List.rec (motive := fun _ => Nat → Nat → Bool) (fun _ _ => true)
  (fun p rest ih m L => and (ih m L) (cond (Nat.ble N (Nat.mul m p.1)) true (cond (Nat.beq (Nat.gcd L p.1) 1)
   (and (leafOk T (Nat.mul m p.1)) ((fun K => cond (Nat.ble (Nat.div N (Nat.mul (Nat.mul m p.1) K)) (Nat.div p.1 2)) (leaves N T (Nat.mul m p.1) K) (ih (Nat.mul m p.1) K)) (Nat.lcm L p.2))) true))) l
theorem go_cons (N : Nat) (T : Nat → Bool) (q e : Nat) (rest : List (Nat × Nat)) (m L : Nat) : go N T ((q, e) :: rest) m L = (go N T rest m L && (cond (Nat.ble N (m * q)) true (cond (Nat.beq (Nat.gcd L q) 1)
  (leafOk T (m * q) && (cond (Nat.ble (N / (m * q * Nat.lcm L e)) (q / 2)) (leaves N T (m * q) (Nat.lcm L e)) (go N T rest (m * q) (Nat.lcm L e)))) true))) := rfl
/-- What the search shows. -/
theorem go_spec {N : Nat} {T : Nat → Bool} {W : List Nat} (hT : ∀ n, T n = true → Pass W n) (h2 : 2 ∈ W) {n : Nat} (hn : n < N) (h1 : 1 < n) (ht : T n = true) :
  ∀ (l : List (Nat × Nat)), (∀ p ∈ l, Ent W p.1 p.2 ∧ 0 < p.2) → ∀ m L, 0 < L → go N T l m L = true → m ∣ n → L ∣ n - 1 → (∀ p, isPr p → p ∣ n / m → ∃ e, (p, e) ∈ l) → n = m := by
 have hp := hT n ht
 have hbad : leafOk T n = true → False := fun g => by
  have := leafOk_spec g (hp 2 h2)
  rw [ht] at this; cases this
 intro l
 induction l with
 | nil =>
  intro _ m L _ _ hm _ hl
  obtain ⟨c, hc⟩ := hm
  have hm0 : 0 < m := Nat.pos_of_ne_zero fun g => by subst g; omega
  have e : n / m = c := by rw [hc, Nat.mul_div_cancel_left _ hm0]
  rcases Nat.lt_or_ge 1 c with g | g
  ·obtain ⟨p, hp1, hp2⟩ := prime_factor c g
   obtain ⟨e', he⟩ := hl p hp1 (by rw [e]; exact hp2)
   simp at he
  ·have : c ≠ 0 := fun k => by subst k; omega
   have : c = 1 := by omega
   rw [hc, this, Nat.mul_one]
 | cons pq rest ih =>
  obtain ⟨q, e⟩ := pq
  intro hE m L hL h hm hd hl
  rw [go_cons, Bool.and_eq_true] at h
  have hE' : ∀ p ∈ rest, Ent W p.1 p.2 ∧ 0 < p.2 := fun p hp => hE p (List.mem_cons_of_mem _ hp)
  obtain ⟨hent, he0⟩ := hE (q, e) List.mem_cons_self
  by_cases hq : isPr q ∧ q ∣ n / m
  ·exfalso
   obtain ⟨hq, hqd⟩ := hq
   obtain ⟨c, hc⟩ := hm
   have hm0 : 0 < m := Nat.pos_of_ne_zero fun g => by subst g; omega
   have ec : n / m = c := by rw [hc, Nat.mul_div_cancel_left _ hm0]
   rw [ec] at hqd
   obtain ⟨d, hd'⟩ := hqd
   have en : n = m * q * d := by rw [hc, hd', Nat.mul_assoc]
   have hqn : q ∣ n := ⟨m * d, by rw [en, Nat.mul_comm m q, Nat.mul_assoc]⟩
   have hd0 : 0 < d := Nat.pos_of_ne_zero fun g => by subst g; omega
   have hmq : m * q ≤ n := by rw [en]; exact Nat.le_mul_of_pos_right _ hd0
   have hb : Nat.ble N (m * q) = false := by
    rcases hh : Nat.ble N (m * q) with _ | _
    ·rfl
    ·exact absurd (Nat.le_of_ble_eq_true hh) (by omega)
   have hg : Nat.gcd L q = 1 := by
    rcases hq.2 _ (Nat.gcd_dvd_right L q) with g | g
    ·exact g
    ·have : q ∣ n - 1 := Nat.dvd_trans (g ▸ Nat.gcd_dvd_left L q) hd
     have := dvd_pred (show n = q * (m * d) by rw [en, Nat.mul_comm m q, Nat.mul_assoc]) h1 this
     have := hq.1
     omega
   have hg' : Nat.beq (Nat.gcd L q) 1 = true := by rw [hg]; rfl
   have h3 := h.2
   rw [hb, hg', cond_false, cond_true, Bool.and_eq_true] at h3
   have hep := hent.pred hp hq hqn h1
   have hLK : Nat.lcm L e ∣ n - 1 := Nat.lcm_dvd hd hep
   have hK0 : 0 < Nat.lcm L e := Nat.lcm_pos hL he0
   have hmn : m * q ∣ n := ⟨d, en⟩
   have h4 := h3.2
   rcases hh : Nat.ble (N / (m * q * Nat.lcm L e)) (q / 2) with _ | _
   ·rw [hh, cond_false] at h4
    have hfin := ih hE' (m * q) _ hK0 h4 hmn hLK (fun p hpp hpd => by
     have hmq0 : 0 < m * q := Nat.mul_pos hm0 (by have := hq.1; omega)
     have ed : n / (m * q) = d := by rw [en, Nat.mul_div_cancel_left _ hmq0]
     rw [ed] at hpd
     obtain ⟨e', he'⟩ := hl p hpp (by rw [ec, hd']; exact Nat.dvd_mul_left_of_dvd hpd q)
     rcases List.mem_cons.1 he' with k | k
     ·exfalso
      have : p = q := by injection k
      subst this
      obtain ⟨t, ht'⟩ := hpd
      exact hent.once hp hq hqn h1 ⟨m * t, by rw [en, ht']; grind⟩
     ·exact ⟨e', k⟩)
    exact hbad (by rw [hfin]; exact h3.1)
   ·rw [hh, cond_true] at h4
    exact hbad (leaves_spec h4 hK0 hmn hn h1 hLK)
  ·refine ih hE' m L hL h.1 hm hd (fun p hpp hpd => ?_)
   obtain ⟨e', he'⟩ := hl p hpp hpd
   rcases List.mem_cons.1 he' with k | k
   ·exfalso
    have : p = q := by injection k
    subst this
    exact hq ⟨hpp, hpd⟩
   ·exact ⟨e', k⟩
end Go.Proofs.YtdkjckiialnpnaaGreatDoor
namespace Go.Proofs.YtdkjckiialnpnaaGreatDoor
def neOne (b x q : Nat) : Bool := not (Nat.beq (pwb b q x) 1)
noncomputable def anyNe (W : List Nat) (x q : Nat) : Bool := List.rec (motive := fun _ => Bool) false (fun b _ ih => or (neOne b x q) ih) W
theorem neOne_spec {b x q : Nat} (h : neOne b x q = true) : b ^ x % q ≠ 1 := fun e => by
 unfold neOne at h
 have : Nat.beq (b ^ x % q) 1 = true := by rw [e]; rfl
 rw [pwb_eq, this] at h; cases h
theorem anyNe_spec {W : List Nat} {x q : Nat} (h : anyNe W x q = true) : ∃ b ∈ W, b ^ x % q ≠ 1 := by
 induction W with
 | nil => cases h
 | cons b W ih =>
  have h : (neOne b x q || anyNe W x q) = true := h
  rcases (Bool.or_eq_true_iff).1 h with g | g
  ·exact ⟨b, List.mem_cons_self, neOne_spec g⟩
  ·obtain ⟨c, hc, hn⟩ := ih g
   exact ⟨c, List.mem_cons_of_mem _ hc, hn⟩
noncomputable def divsOk (W : List Nat) (q e : Nat) (k : Nat) : Bool := Nat.rec (motive := fun _ => Bool) true
 (fun i ih => and ih (cond (Nat.beq (Nat.mod e (Nat.succ i)) 0) (and (or (Nat.beq i 0) (anyNe W (Nat.div e (Nat.succ i)) q)) (or (Nat.beq e (Nat.succ i)) (anyNe W (Nat.succ i) q))) true)) k
theorem divsOk_spec {W : List Nat} {q e : Nat} : ∀ {k d : Nat}, divsOk W q e k = true → 0 < d → d ≤ k → d ∣ e → (d = 1 ∨ ∃ b ∈ W, b ^ (e / d) % q ≠ 1) ∧ (e = d ∨ ∃ b ∈ W, b ^ d % q ≠ 1)
 | 0, d, _, h0, hk, _ => by omega
 | k + 1, d, h, h0, hk, hd => by
  have h : (divsOk W q e k && (cond (Nat.beq (e % (k + 1)) 0) ((Nat.beq k 0 || anyNe W (e / (k + 1)) q) && (Nat.beq e (k + 1) || anyNe W (k + 1) q)) true)) = true := h
  rw [Bool.and_eq_true] at h
  rcases Nat.lt_or_ge d (k + 1) with g | g
  ·exact divsOk_spec h.1 h0 (by omega) hd
  ·have : d = k + 1 := by omega
   subst this
   have hm : Nat.beq (e % (k + 1)) 0 = true := by rw [Nat.mod_eq_zero_of_dvd hd]; rfl
   have h2 := h.2
   rw [hm, cond_true, Bool.and_eq_true, Bool.or_eq_true, Bool.or_eq_true] at h2
   refine ⟨?_, ?_⟩
   ·rcases h2.1 with x | x
    ·left; have := Nat.eq_of_beq_eq_true x; omega
    ·exact .inr (anyNe_spec x)
   ·rcases h2.2 with x | x
    ·exact .inl (Nat.eq_of_beq_eq_true x)
    ·exact .inr (anyNe_spec x)
noncomputable def entOk (W : List Nat) (q e : Nat) : Bool := and (Nat.ble 1 e) (and (Nat.ble e 65535) (and (List.all W fun b => Nat.beq (pwb b q e) 1) (and (anyNe W (Nat.sub q 1) (Nat.mul q q)) (divsOk W q e 255))))
theorem entOk_spec {W : List Nat} {q e : Nat} (h : entOk W q e = true) : Ent W q e ∧ 0 < e := by
 unfold entOk at h
 rw [Bool.and_eq_true, Bool.and_eq_true, Bool.and_eq_true, Bool.and_eq_true] at h
 obtain ⟨h1, h2, h3, h4, h5⟩ := h
 have he1 := Nat.le_of_ble_eq_true h1
 have he2 := Nat.le_of_ble_eq_true h2
 refine ⟨fun hq => ⟨fun m hm => ?_, anyNe_spec h4⟩, he1⟩
 have hall : ∀ b ∈ W, b ^ e % q = 1 := fun b hb => by rw [← pwb_eq]; exact Nat.eq_of_beq_eq_true (List.all_eq_true.1 h3 b hb)
 by_cases g : Nat.gcd e m = e
 ·have := Nat.gcd_dvd_right e m
  rwa [g] at this
 ·exfalso
  obtain ⟨l, hl, hd, t, ht⟩ := proper_dvd he1 (Nat.gcd_dvd_left e m) g
  have hone : ∀ b ∈ W, b ^ (e / l) % q = 1 := fun b hb => by
   rw [ht]; exact pow_mul_one hq.1 (pow_gcd hq.1 _ _ (hall b hb) (hm b hb)) t
  have hl1 := hl.1
  have hel : l * (e / l) = e := Nat.mul_div_cancel' hd
  rcases Nat.lt_or_ge l 256 with k | k
  ·rcases (divsOk_spec h5 (by omega) (by omega) hd).1 with x | ⟨b, hb, hne⟩
   ·omega
   ·exact hne (hone b hb)
  ·have h6 : e / l < 256 := by
    rw [Nat.div_lt_iff_lt_mul (by omega)]
    have := Nat.mul_le_mul_left 256 k
    omega
   have h7 : 0 < e / l := Nat.pos_of_ne_zero fun z => by rw [z] at hel; omega
   rcases (divsOk_spec h5 h7 (by omega) ⟨l, by rw [Nat.mul_comm]; exact hel.symm⟩).2 with x | ⟨b, hb, hne⟩
   ·have : l * (e / l) ≥ 2 * (e / l) := Nat.mul_le_mul_right _ (by omega)
    omega
   ·exact hne (hone b hb)
noncomputable def listOk (W : List Nat) (l : List (Nat × Nat)) : Bool := List.rec (motive := fun _ => Bool) true (fun p _ ih => and ih (entOk W p.1 p.2)) l
theorem listOk_spec {W : List Nat} {l : List (Nat × Nat)} (h : listOk W l = true) : ∀ p ∈ l, Ent W p.1 p.2 ∧ 0 < p.2 := by
 induction l with
 | nil => intro p hp; simp at hp
 | cons a l ih =>
  have h : (listOk W l && entOk W a.1 a.2) = true := h
  rw [Bool.and_eq_true] at h
  intro p hp
  rcases List.mem_cons.1 hp with rfl | k
  ·exact entOk_spec h.2
  ·exact ih h.1 p k
theorem listOk_append {W : List Nat} {l k : List (Nat × Nat)} (h : listOk W l = true) (g : listOk W k = true) : listOk W (l ++ k) = true := by
 induction l with
 | nil => exact g
 | cons a l ih =>
  have h : (listOk W l && entOk W a.1 a.2) = true := h
  rw [Bool.and_eq_true] at h
  show (listOk W (l ++ k) && entOk W a.1 a.2) = true
  rw [Bool.and_eq_true]
  exact ⟨ih h.1, h.2⟩
/-- The test, but for the prime q itself. -/
def butQ (T : Nat → Bool) (q n : Nat) : Bool := and (not (Nat.beq n q)) (T n)
theorem butQ_of {T : Nat → Bool} {q n : Nat} (h : T n = true) (hn : n ≠ q) : butQ T q n = true := by
 unfold butQ
 have : Nat.beq n q = false := by
  rcases hh : Nat.beq n q with _ | _
  ·rfl
  ·exact absurd (Nat.eq_of_beq_eq_true hh) hn
 rw [this, h]; rfl
theorem butQ_T {T : Nat → Bool} {q n : Nat} (h : butQ T q n = true) : T n = true := by
 unfold butQ at h
 rw [Bool.and_eq_true] at h
 exact h.2
/-- The search behind one greatest prime. -/
noncomputable def headOk (N : Nat) (T : Nat → Bool) (q e : Nat) (rest : List (Nat × Nat)) : Bool := cond (Nat.ble N q) true
 (cond (Nat.ble (Nat.div N (Nat.mul q e)) (Nat.div q 2)) (leaves N (butQ T q) q e) (go N (butQ T q) rest q e))
noncomputable def heads (N : Nat) (T : Nat → Bool) (l rest : List (Nat × Nat)) : Bool := List.rec (motive := fun _ => Bool) true (fun p t ih => and ih (headOk N T p.1 p.2 (List.append t rest))) l
/-- Each prime of the list has been searched behind. -/
def HA (N : Nat) (T : Nat → Bool) (l : List (Nat × Nat)) : Prop := ∀ a q e b, l = a ++ (q, e) :: b → headOk N T q e b = true
theorem HA_nil {N : Nat} {T : Nat → Bool} : HA N T [] := fun a q e b h => by cases a <;> cases h
theorem heads_HA {N : Nat} {T : Nat → Bool} {l rest : List (Nat × Nat)} (h : heads N T l rest = true) (g : HA N T rest) : HA N T (l ++ rest) := by
 induction l with
 | nil => exact g
 | cons p t ih =>
  have h : (heads N T t rest && headOk N T p.1 p.2 (t ++ rest)) = true := h
  rw [Bool.and_eq_true] at h
  intro a q e b hab
  cases a with
  | nil =>
   rw [List.nil_append, List.cons_append] at hab
   injection hab with h1 h2
   subst h1; rw [← h2]; exact h.2
  | cons x a =>
   rw [List.cons_append, List.cons_append] at hab
   injection hab with h1 h2
   exact ih h.1 a q e b h2
/-- The list falls. -/
noncomputable def descOk (l : List (Nat × Nat)) : Nat → Bool := List.rec (motive := fun _ => Nat → Bool) (fun _ => true) (fun p _ ih u => and (Nat.blt p.1 u) (and (Nat.blt 0 p.1) (ih p.1))) l
theorem descOk_all {l : List (Nat × Nat)} : ∀ {u : Nat}, descOk l u = true → ∀ p ∈ l, p.1 < u ∧ 0 < p.1 := by
 induction l with
 | nil => intro u _ p hp; simp at hp
 | cons a l ih =>
  intro u h p hp
  have h : (Nat.blt a.1 u && (Nat.blt 0 a.1 && descOk l a.1)) = true := h
  rw [Bool.and_eq_true, Bool.and_eq_true] at h
  have h1 : a.1 < u := Nat.le_of_ble_eq_true h.1
  have h2 : 0 < a.1 := Nat.le_of_ble_eq_true h.2.1
  rcases List.mem_cons.1 hp with rfl | k
  ·exact ⟨h1, h2⟩
  ·have := ih h.2.2 p k
   exact ⟨by omega, this.2⟩
theorem descOk_front {a b : List (Nat × Nat)} {x : Nat × Nat} : ∀ {u : Nat}, descOk (a ++ x :: b) u = true → ∀ p ∈ a, x.1 < p.1 := by
 induction a with
 | nil => intro u _ p hp; simp at hp
 | cons y a ih =>
  intro u h p hp
  have h : (Nat.blt y.1 u && (Nat.blt 0 y.1 && descOk (a ++ x :: b) y.1)) = true := h
  rw [Bool.and_eq_true, Bool.and_eq_true] at h
  rcases List.mem_cons.1 hp with rfl | k
  ·exact (descOk_all h.2.2 x (by simp)).1
  ·exact ih h.2.2 p k
noncomputable def noPr (x : Nat) : Bool := or (Nat.beq x 9) (and (Nat.ble 14 x) (anyNe [2, 3, 5, 7, 13] (Nat.sub x 1) x))
theorem noPr_spec {x : Nat} (h : noPr x = true) : ¬ isPr x := by
 intro hp
 unfold noPr at h
 rcases Bool.or_eq_true_iff.1 h with k | h
 ·have := Nat.eq_of_beq_eq_true k
  subst this
  rcases hp.2 3 ⟨3, rfl⟩ with k2 | k2 <;> omega
 rw [Bool.and_eq_true] at h
 have h1 := Nat.le_of_ble_eq_true h.1
 obtain ⟨b, hb, hne⟩ := anyNe_spec h.2
 refine hne (fermat_one hp fun hd => ?_)
 have hle : b ≤ 13 ∧ 0 < b := by
  simp only [List.mem_cons, List.not_mem_nil, or_false] at hb
  omega
 have := Nat.le_of_dvd hle.2 hd
 omega
/-- No prime but the witnesses among lo + 2 j, for 0 < j < k. -/
noncomputable def gapOk (W : List Nat) (lo k : Nat) : Bool := Nat.rec (motive := fun _ => Bool) true (fun i ih => and ih (or (Nat.beq i 0) (or (noPr (Nat.add lo (Nat.mul 2 i))) (List.elem (Nat.add lo (Nat.mul 2 i)) W)))) k
theorem gapOk_spec {W : List Nat} {lo : Nat} : ∀ {k j : Nat}, gapOk W lo k = true → 0 < j → j < k → ¬ isPr (lo + 2 * j) ∨ lo + 2 * j ∈ W
 | 0, j, _, _, hk => by omega
 | k + 1, j, h, h0, hk => by
  have h : (gapOk W lo k && (Nat.beq k 0 || (noPr (lo + 2 * k) || List.elem (lo + 2 * k) W))) = true := h
  rw [Bool.and_eq_true] at h
  rcases Nat.lt_or_ge j k with g | g
  ·exact gapOk_spec h.1 h0 g
  ·have : j = k := by omega
   subst this
   rcases (Bool.or_eq_true_iff).1 h.2 with x | x
   ·have := Nat.eq_of_beq_eq_true x; omega
   ·rcases (Bool.or_eq_true_iff).1 x with y | y
    ·exact .inl (noPr_spec y)
    ·exact .inr (List.elem_iff.1 y)
/-- The list falls; between its numbers, below u and above 1, there is no prime but the witnesses. -/
noncomputable def covOk (W : List Nat) (l : List (Nat × Nat)) : Nat → Bool := List.rec (motive := fun _ => Nat → Bool) (fun u => gapOk W 1 (Nat.div (Nat.sub u 1) 2))
 (fun p _ ih u => and (Nat.beq (Nat.mod p.1 2) 1) (and (gapOk W p.1 (Nat.div (Nat.sub u p.1) 2)) (ih p.1))) l
theorem covOk_spec {W : List Nat} {l : List (Nat × Nat)} : ∀ {u p : Nat}, covOk W l u = true → u % 2 = 1 → isPr p → p % 2 = 1 → p < u → p ∉ W → ∃ e, (p, e) ∈ l := by
 induction l with
 | nil =>
  intro u p h hu hp h2 hlt hW
  have h : gapOk W 1 ((u - 1) / 2) = true := h
  have h1 := hp.1
  rcases gapOk_spec (j := (p - 1) / 2) h (by omega) (by omega) with k | k
  ·exact absurd (by rwa [show 1 + 2 * ((p - 1) / 2) = p by omega]) k
  ·exact absurd (by rwa [show 1 + 2 * ((p - 1) / 2) = p by omega] at k) hW
 | cons a l ih =>
  intro u p h hu hp h2 hlt hW
  have h : ((Nat.beq (a.1 % 2) 1) && (gapOk W a.1 ((u - a.1) / 2) && covOk W l a.1)) = true := h
  rw [Bool.and_eq_true, Bool.and_eq_true] at h
  have ha := Nat.eq_of_beq_eq_true h.1
  rcases Nat.lt_trichotomy p a.1 with g | g | g
  ·obtain ⟨e, he⟩ := ih h.2.2 ha hp h2 g hW
   exact ⟨e, List.mem_cons_of_mem _ he⟩
  ·exact ⟨a.2, by rw [g]; exact List.mem_cons_self⟩
  ·rcases gapOk_spec (j := (p - a.1) / 2) h.2.1 (by omega) (by omega) with k | k
   ·exact absurd (by rwa [show a.1 + 2 * ((p - a.1) / 2) = p by omega]) k
   ·exact absurd (by rwa [show a.1 + 2 * ((p - a.1) / 2) = p by omega] at k) hW
/-- The greatest common divisor of the witnesses' powers less 1. -/
noncomputable def gcdW (W : List Nat) (k : Nat) : Nat := List.rec (motive := fun _ => Nat) 0 (fun b _ ih => Nat.gcd (Nat.sub (Nat.pow b k) 1) ih) W
theorem gcdW_dvd {W : List Nat} {k q : Nat} (h1 : 1 < q) (hb : ∀ b ∈ W, b ^ k % q = 1) : q ∣ gcdW W k := by
 induction W with
 | nil => exact Nat.dvd_zero q
 | cons b W ih =>
  refine Nat.dvd_gcd ?_ (ih fun c hc => hb c (List.mem_cons_of_mem _ hc))
  have h := hb b List.mem_cons_self
  have e := Nat.mod_add_div (b ^ k) q
  rw [h] at e
  show q ∣ b ^ k - 1
  exact ⟨b ^ k / q, by omega⟩
/-- The product of the great primes that are told for c. -/
noncomputable def lookup (X : List (Nat × Nat)) (c : Nat) : Nat := List.rec (motive := fun _ => Nat) 1 (fun p _ ih => cond (Nat.beq p.1 c) (Nat.mul p.2 ih) ih) X
/-- Trial division, no further than needed. -/
noncomputable def triOk (q : Nat) : Bool := cond (Nat.ble q 131071) (noDiv q 361 2) (cond (Nat.ble q 262143) (noDiv q 511 2) (cond (Nat.ble q 1048575) (noDiv q 1023 2) (noDiv q 2047 2)))
theorem triOk_spec {q : Nat} (h2 : 1 < q) (hq : q ≤ 4194303) (h : triOk q = true) : isPr q := by
 unfold triOk at h
 rcases h1 : Nat.ble q 131071 with _ | _
 ·rw [h1, cond_false] at h
  rcases h3 : Nat.ble q 262143 with _ | _
  ·rw [h3, cond_false] at h
   rcases h4 : Nat.ble q 1048575 with _ | _
   ·rw [h4, cond_false] at h; exact isPr_of (n := 2047) h2 (by omega) h
   ·rw [h4, cond_true] at h; exact isPr_of (n := 1023) h2 (by have := Nat.le_of_ble_eq_true h4; omega) h
  ·rw [h3, cond_true] at h; exact isPr_of (n := 511) h2 (by have := Nat.le_of_ble_eq_true h3; omega) h
 ·rw [h1, cond_true] at h; exact isPr_of (n := 361) h2 (by have := Nat.le_of_ble_eq_true h1; omega) h
/-- They are primes, and the products with their c do not pass. -/
noncomputable def tellOk (N : Nat) (T : Nat → Bool) (X : List (Nat × Nat)) : Bool := List.rec (motive := fun _ => Bool) true
 (fun p _ ih => and ih (and (Nat.ble 2 p.2) (and (Nat.ble p.2 4194303) (and (triOk p.2) (cond (Nat.ble N (Nat.mul p.2 p.1)) true (leafOk T (Nat.mul p.2 p.1))))))) X
theorem tellOk_append {N : Nat} {T : Nat → Bool} : ∀ {X Y : List (Nat × Nat)}, tellOk N T X = true → tellOk N T Y = true → tellOk N T (X ++ Y) = true
 | [], _, _, h => h
 | p :: X, Y, h, k => by
  have h : (tellOk N T X && (Nat.ble 2 p.2 && (Nat.ble p.2 4194303 && (triOk p.2 && cond (Nat.ble N (p.2 * p.1)) true (leafOk T (p.2 * p.1)))))) = true := h
  rw [Bool.and_eq_true] at h
  show (tellOk N T (X ++ Y) && (Nat.ble 2 p.2 && (Nat.ble p.2 4194303 && (triOk p.2 && cond (Nat.ble N (p.2 * p.1)) true (leafOk T (p.2 * p.1)))))) = true
  rw [Bool.and_eq_true]
  exact ⟨tellOk_append h.1 k, h.2⟩
theorem pr_pow {q x : Nat} (hq : isPr q) : ∀ k, q ∣ x ^ k → q ∣ x
 | 0, h => by have := Nat.dvd_one.1 h; have := hq.1; omega
 | k + 1, h => by
  rw [Nat.pow_succ] at h
  rcases pr_mul hq h with g | g
  ·exact pr_pow hq k g
  ·exact g
theorem lookup_spec {N : Nat} {T : Nat → Bool} {X : List (Nat × Nat)} {c q : Nat} (hq : isPr q) (h : tellOk N T X = true) (hd : q ∣ lookup X c) (hN : q * c < N) : leafOk T (q * c) = true := by
 induction X with
 | nil => have := Nat.dvd_one.1 hd; have := hq.1; omega
 | cons p X ih =>
  have h : (tellOk N T X && (Nat.ble 2 p.2 && (Nat.ble p.2 4194303 && (triOk p.2 && cond (Nat.ble N (p.2 * p.1)) true (leafOk T (p.2 * p.1)))))) = true := h
  rw [Bool.and_eq_true, Bool.and_eq_true, Bool.and_eq_true, Bool.and_eq_true] at h
  obtain ⟨h0, a2, a3, a4, a5⟩ := h
  have hd : q ∣ cond (Nat.beq p.1 c) (p.2 * lookup X c) (lookup X c) := hd
  rcases hc : Nat.beq p.1 c with _ | _
  ·rw [hc, cond_false] at hd
   exact ih h0 hd
  ·rw [hc, cond_true] at hd
   rcases pr_mul hq hd with b3 | b3
   ·have t2 := Nat.le_of_ble_eq_true a2
    have t3 := Nat.le_of_ble_eq_true a3
    have hpt : isPr p.2 := triOk_spec (by omega) t3 a4
    have ec := Nat.eq_of_beq_eq_true hc
    rcases hpt.2 q b3 with k | k
    ·have := hq.1; omega
    ·rw [← k, ec] at a5
     have hb : Nat.ble N (q * c) = false := by
      rcases hh : Nat.ble N (q * c) with _ | _
      ·rfl
      ·exact absurd (Nat.le_of_ble_eq_true hh) (by omega)
     rw [hb, cond_false] at a5
     exact a5
   ·exact ih h0 b3
/-- No great prime divides the powers less 1, but those that are told. -/
noncomputable def farOk (W : List Nat) (P : Nat) (X : List (Nat × Nat)) (c : Nat) : Bool :=
 (fun g => (fun y => cond (Nat.beq y 0) true (Nat.beq (Nat.mod (Nat.mul y (lookup X c)) g) 0)) (Nat.mod (Nat.pow (Nat.mod P g) 64) g)) (gcdW W (Nat.sub c 1))
theorem farOk_spec {N : Nat} {T : Nat → Bool} {W : List Nat} {P c q : Nat} {X : List (Nat × Nat)} (h : farOk W P X c = true) (hX : tellOk N T X = true) (hq : isPr q) (hP : ¬ q ∣ P) (hb : ∀ b ∈ W, b ^ (c - 1) % q = 1) (hN : q * c < N) : leafOk T (q * c) = true := by
 have hg := gcdW_dvd hq.1 hb
 unfold farOk at h
 rw [show Nat.sub c 1 = c - 1 from rfl] at h
 generalize gcdW W (c - 1) = g at hg h
 have h : (cond (Nat.beq ((P % g) ^ 64 % g) 0) true (Nat.beq ((P % g) ^ 64 % g * lookup X c % g) 0)) = true := h
 have key : ¬ q ∣ (P % g) ^ 64 % g := fun k => by
  have k1 : q ∣ (P % g) ^ 64 := (Nat.dvd_mod_iff hg).1 k
  have k2 := pr_pow hq 64 k1
  exact hP ((Nat.dvd_mod_iff hg).1 k2)
 rcases hy : Nat.beq ((P % g) ^ 64 % g) 0 with _ | _
 ·rw [hy, cond_false] at h
  have b1 : g ∣ (P % g) ^ 64 % g * lookup X c := Nat.dvd_of_mod_eq_zero (Nat.eq_of_beq_eq_true h)
  exact lookup_spec hq hX ((pr_mul hq (Nat.dvd_trans hg b1)).resolve_left key) hN
 ·exact absurd (Nat.eq_of_beq_eq_true hy ▸ Nat.dvd_zero q) key
noncomputable def farAll (W : List Nat) (P : Nat) (X : List (Nat × Nat)) (lo k : Nat) : Bool := Nat.rec (motive := fun _ => Bool) true (fun i ih => and ih (farOk W P X (Nat.add lo (Nat.mul 2 i)))) k
theorem farAll_spec {W : List Nat} {P lo : Nat} {X : List (Nat × Nat)} : ∀ {k i : Nat}, farAll W P X lo k = true → i < k → farOk W P X (lo + 2 * i) = true
 | 0, i, _, h => by omega
 | k + 1, i, h, hi => by
  have h : (farAll W P X lo k && farOk W P X (lo + 2 * k)) = true := h
  rw [Bool.and_eq_true] at h
  rcases Nat.lt_or_ge i k with g | g
  ·exact farAll_spec h.1 g
  ·have : i = k := by omega
   subst this; exact h.2
/-- The product of the list's numbers. -/
noncomputable def prodL (l : List (Nat × Nat)) : Nat := List.rec (motive := fun _ => Nat) 1 (fun p _ ih => Nat.mul p.1 ih) l
theorem prodL_dvd {l : List (Nat × Nat)} {q : Nat} (hq : isPr q) (h : q ∣ prodL l) : ∃ p ∈ l, q ∣ p.1 := by
 induction l with
 | nil => have := Nat.dvd_one.1 h; have := hq.1; omega
 | cons a l ih =>
  have h : q ∣ a.1 * prodL l := h
  rcases pr_mul hq h with g | g
  ·exact ⟨a, List.mem_cons_self, g⟩
  ·obtain ⟨p, hp, hd⟩ := ih g
   exact ⟨p, List.mem_cons_of_mem _ hp, hd⟩
theorem passes_prime {T : Nat → Bool} {W : List Nat} {l X : List (Nat × Nat)} {P : Nat} (hT : ∀ n, T n = true → Pass W n) (h2 : 2 ∈ W) (hl : listOk W l = true) (hc : covOk W l 65537 = true) (hs : descOk l 65537 = true)
  (hP : Nat.beq (prodL l) P = true) (hfar : ∀ c, 2 < c → c < 65536 → c % 2 = 1 → farOk W P X c = true) (hX : tellOk 4294967296 T X = true) (hgo : HA 4294967296 T l)
  {n : Nat} (h1 : 1 < n) (hn : n < 4294967296) (ho : n % 2 = 1) (ht : T n = true) : isPr n := by
 refine Classical.byContradiction fun hnp => ?_
 have hp := hT n ht
 obtain ⟨q, hq, hqn, hmax⟩ := greatest_prime h1
 have hqn' := hqn
 obtain ⟨c, hc'⟩ := hqn
 have hq1 := hq.1
 have hc0 : 0 < c := Nat.pos_of_ne_zero fun g => by subst g; omega
 have hnq : n ≠ q := fun g => hnp (g ▸ hq)
 have hc1 : c ≠ 1 := fun g => by subst g; rw [Nat.mul_one] at hc'; exact hnq hc'
 have hco : c % 2 = 1 := by
  rcases Nat.mod_two_eq_zero_or_one c with g | g
  ·exfalso
   have : n % 2 = 0 := by rw [hc', Nat.mul_mod, g, Nat.mul_zero]
   omega
  ·exact g
 have hin : ∀ p, isPr p → p ∣ n → p < 65537 → ∃ e, (p, e) ∈ l := fun p hpp hpd hlt => by
  have hodd : p % 2 = 1 := by
   rcases Nat.mod_two_eq_zero_or_one p with k | k
   ·exfalso
    have : n % 2 = 0 := Nat.mod_eq_zero_of_dvd (Nat.dvd_trans (Nat.dvd_of_mod_eq_zero k) hpd)
    omega
   ·exact k
  exact covOk_spec hc (by decide) hpp hodd hlt (fun hw => not_dvd_w hp hpp hpd h1 hw (Nat.dvd_refl p))
 have hents := listOk_spec hl
 rcases Nat.lt_or_ge q 65537 with g | g
 ·obtain ⟨e, he⟩ := hin q hq hqn' g
  obtain ⟨hent, he0⟩ := hents (q, e) he
  obtain ⟨a, b, hab⟩ := List.append_of_mem he
  have hh := hgo a q e b hab
  have hqle : q ≤ n := by rw [hc']; exact Nat.le_mul_of_pos_right _ hc0
  have hb0 : Nat.ble 4294967296 q = false := by
   rcases hx : Nat.ble 4294967296 q with _ | _
   ·rfl
   ·exact absurd (Nat.le_of_ble_eq_true hx) (by omega)
  have hh : cond (Nat.ble 4294967296 q) true (cond (Nat.ble (4294967296 / (q * e)) (q / 2)) (leaves 4294967296 (butQ T q) q e) (go 4294967296 (butQ T q) b q e)) = true := hh
  rw [hb0, cond_false] at hh
  have htq := butQ_of (q := q) ht hnq
  have hd := hent.pred hp hq hqn' h1
  rcases hx : Nat.ble (4294967296 / (q * e)) (q / 2) with _ | _
  ·rw [hx, cond_false] at hh
   refine hnq (go_spec (fun m hm => hT m (butQ_T hm)) h2 hn h1 htq b (fun p hpb => hents p (by rw [hab]; simp [hpb])) q e he0 hh hqn' hd (fun p hpp hpd => ?_))
   rw [hc', Nat.mul_div_cancel_left _ (by omega)] at hpd
   have hpn : p ∣ n := by rw [hc']; exact Nat.dvd_mul_left_of_dvd hpd q
   have hple := hmax p hpp hpn
   have hpne : p ≠ q := fun k => by
    subst k
    obtain ⟨t, ht'⟩ := hpd
    exact hent.once hp hq hqn' h1 ⟨t, by rw [hc', ht', Nat.mul_assoc]⟩
   obtain ⟨e', he'⟩ := hin p hpp hpn (by omega)
   rw [hab] at he'
   rcases List.mem_append.1 he' with k | k
   ·rw [hab] at hs
    have := descOk_front hs _ k
    have h5 : q < p := this
    omega
   ·rcases List.mem_cons.1 k with k | k
    ·exact absurd (by injection k) hpne
    ·exact ⟨e', k⟩
  ·rw [hx, cond_true] at hh
   have := leafOk_spec (leaves_spec hh he0 hqn' hn h1 hd) (hp 2 h2)
   rw [htq] at this; cases this
 ·have hcs : c < 65536 := by
   rcases Nat.lt_or_ge c 65536 with k | k
   ·exact k
   ·have := Nat.mul_le_mul g k
    omega
  have hk := farOk_spec (hfar c (by omega) hcs hco) hX hq (fun k => by
   rw [← Nat.eq_of_beq_eq_true hP] at k
   obtain ⟨p, hp', hpd⟩ := prodL_dvd hq k
   have := descOk_all hs p hp'
   have := Nat.le_of_dvd this.2 hpd
   omega) (fun b hb => psp_prime hq hc' hc0 (hp b hb)) (by omega)
  rw [← hc'] at hk
  have := leafOk_spec hk (hp 2 h2)
  rw [ht] at this; cases this
end Go.Proofs.YtdkjckiialnpnaaGreatDoor
namespace Go.Proofs.YtdkjckiialnpnaaGreatDoor
/-- The k-th root of the power n - 1: it is n - 1, or 1 and the last. -/
def rootOk (b n k : Nat) : Bool := cond (Nat.beq (Nat.mod (Nat.sub n 1) (Nat.pow 2 k)) 0)
 ((fun x => or (Nat.beq x (Nat.sub n 1)) (and (Nat.beq x 1) (Nat.beq (Nat.mod (Nat.div (Nat.sub n 1) (Nat.pow 2 k)) 2) 1))) (pwb b n (Nat.div (Nat.sub n 1) (Nat.pow 2 k)))) false
/-- The strong test to the base b. -/
noncomputable def strong (b n : Nat) : Bool := Nat.rec (motive := fun _ => Bool) false (fun i ih => or (rootOk b n (Nat.succ i)) ih) 32
theorem strong_some {b n : Nat} : ∀ {K : Nat}, (Nat.rec (motive := fun _ => Bool) false (fun i ih => or (rootOk b n (Nat.succ i)) ih) K : Bool) = true → ∃ k, 0 < k ∧ k ≤ K ∧ rootOk b n k = true
 | 0, h => by cases h
 | K + 1, h => by
  have h : (rootOk b n (K + 1) || (Nat.rec (motive := fun _ => Bool) false (fun i ih => or (rootOk b n (Nat.succ i)) ih) K : Bool)) = true := h
  rcases Bool.or_eq_true_iff.1 h with g | g
  ·exact ⟨K + 1, by omega, by omega, g⟩
  ·obtain ⟨k, h1, h2, h3⟩ := strong_some g
   exact ⟨k, h1, by omega, h3⟩
theorem pred_sq {n : Nat} (h : 1 < n) : (n - 1) * (n - 1) % n = 1 := by
 obtain ⟨m, rfl⟩ : ∃ m, n = m + 2 := ⟨n - 2, by omega⟩
 have : (m + 2 - 1) * (m + 2 - 1) = 1 + (m + 2) * m := by
  rw [show m + 2 - 1 = m + 1 by omega]; grind
 rw [this, Nat.add_mul_mod_self_left, Nat.mod_eq_of_lt h]
theorem rootOk_pass {b n k : Nat} (h1 : 1 < n) (h0 : 0 < k) (h : rootOk b n k = true) : b ^ (n - 1) % n = 1 := by
 unfold rootOk at h
 rw [pwb_eq] at h
 have h : cond (Nat.beq ((n - 1) % 2 ^ k) 0) (Nat.beq (b ^ ((n - 1) / 2 ^ k) % n) (n - 1) || (Nat.beq (b ^ ((n - 1) / 2 ^ k) % n) 1 && Nat.beq ((n - 1) / 2 ^ k % 2) 1)) false = true := h
 rcases hd : Nat.beq ((n - 1) % 2 ^ k) 0 with _ | _
 ·rw [hd] at h; cases h
 ·rw [hd, cond_true] at h
  have e : 2 ^ k * ((n - 1) / 2 ^ k) = n - 1 := Nat.mul_div_cancel' (Nat.dvd_of_mod_eq_zero (Nat.eq_of_beq_eq_true hd))
  have e2 : b ^ (n - 1) % n = (b ^ ((n - 1) / 2 ^ k) % n) ^ 2 ^ k % n := by rw [← Nat.pow_mod, ← Nat.pow_mul, Nat.mul_comm, e]
  rcases Bool.or_eq_true_iff.1 h with g | g
  ·rw [e2, Nat.eq_of_beq_eq_true g]
   obtain ⟨j, rfl⟩ : ∃ j, k = j + 1 := ⟨k - 1, by omega⟩
   rw [Nat.pow_succ, Nat.mul_comm, Nat.pow_mul, show (n - 1) ^ 2 = (n - 1) * (n - 1) from Nat.pow_two _, Nat.pow_mod, pred_sq h1, Nat.one_pow, Nat.mod_eq_of_lt h1]
  ·rw [Bool.and_eq_true] at g
   rw [e2, Nat.eq_of_beq_eq_true g.1, Nat.one_pow, Nat.mod_eq_of_lt h1]
/-- n passes the strong test to all bases. -/
noncomputable def strongT (W : List Nat) (n : Nat) : Bool := and (Nat.ble 2 n) (List.rec (motive := fun _ => Bool) true (fun b _ ih => and (strong b n) ih) W)
theorem strongT_pass {W : List Nat} (n : Nat) (h : strongT W n = true) : Pass W n := by
 unfold strongT at h
 rw [Bool.and_eq_true] at h
 have h1 : 1 < n := Nat.le_of_ble_eq_true h.1
 have h2 := h.2
 clear h
 intro b hb
 induction W with
 | nil => simp at hb
 | cons a W ih =>
  have h3 : (strong a n && (List.rec (motive := fun _ => Bool) true (fun b _ ih => and (strong b n) ih) W : Bool)) = true := h2
  rw [Bool.and_eq_true] at h3
  rcases List.mem_cons.1 hb with rfl | k
  ·obtain ⟨k, k0, _, hk⟩ := strong_some (b := b) (n := n) (K := 32) h3.1
   exact rootOk_pass h1 k0 hk
  ·exact ih h3.2 k
end Go.Proofs.YtdkjckiialnpnaaGreatDoor
namespace Go.Proofs.YtdkjckiialnpnaaGreatDoor
theorem dvd_sub_mod {u v p : Nat} (h : u ≤ v) : p ∣ v - u ↔ v % p = u % p := by
 constructor
 ·rintro ⟨k, hk⟩
  rw [show v = u + p * k by omega, Nat.add_mul_mod_self_left]
 ·intro e; exact Nat.dvd_of_mod_eq_zero (Nat.sub_mod_eq_zero_of_mod_eq e)
theorem mod_add_cancel {a b c p : Nat} (h : (a + c) % p = (b + c) % p) : a % p = b % p := by
 rcases Nat.le_total a b with g | g
 ·have := (dvd_sub_mod (show a + c ≤ b + c by omega)).2 h.symm
  rw [show b + c - (a + c) = b - a by omega] at this
  exact ((dvd_sub_mod g).1 this).symm
 ·have := (dvd_sub_mod (show b + c ≤ a + c by omega)).2 h
  rw [show a + c - (b + c) = a - b by omega] at this
  exact (dvd_sub_mod g).1 this
/-- The residue of n modulo p; it is 0 modulo 0. -/
def rsd (n p : Nat) : Nat := if p = 0 then 0 else n % p
theorem rsd_zero (n : Nat) : rsd n 0 = 0 := rfl
theorem rsd_pos {n p : Nat} (h : p ≠ 0) : rsd n p = n % p := if_neg h
theorem rsd_lt {n p : Nat} (h : p ≠ 0) : rsd n p < p := by rw [rsd_pos h]; exact Nat.mod_lt _ (by omega)
theorem rsd_le (n p : Nat) : rsd n p ≤ p := by
 rcases Nat.eq_zero_or_pos p with rfl | h
 ·exact Nat.le_refl _
 ·exact Nat.le_of_lt (rsd_lt (by omega))
theorem rsd_add_l (a b p : Nat) : rsd (rsd a p + b) p = rsd (a + b) p := by
 unfold rsd; split
 ·rfl
 ·rw [Nat.mod_add_mod]
theorem rsd_add_r (a b p : Nat) : rsd (a + rsd b p) p = rsd (a + b) p := by
 unfold rsd; split
 ·rfl
 ·rw [Nat.add_mod_mod]
theorem rsd_mul_l (a b p : Nat) : rsd (rsd a p * b) p = rsd (a * b) p := by
 unfold rsd; split
 ·rfl
 ·rw [Nat.mod_mul_mod]
theorem rsd_mul_r (a b p : Nat) : rsd (a * rsd b p) p = rsd (a * b) p := by rw [Nat.mul_comm, rsd_mul_l, Nat.mul_comm]
theorem rsd_rsd (a p : Nat) : rsd (rsd a p) p = rsd a p := by
 unfold rsd; split
 ·rfl
 ·rw [Nat.mod_mod]
theorem rsd_pow (a n p : Nat) : rsd (rsd a p ^ n) p = rsd (a ^ n) p := by
 unfold rsd; split
 ·rfl
 ·rw [← Nat.pow_mod]
/-- What Sub returns. -/
def subN (a b p : Nat) : Nat := rsd (a + (p - rsd b p)) p
theorem subN_add (a b p : Nat) : rsd (subN a b p + b) p = rsd a p := by
 unfold subN
 rw [rsd_add_l, ← rsd_add_r]
 have := rsd_le b p
 rw [show a + (p - rsd b p) + rsd b p = a + p by omega]
 unfold rsd; split
 ·rfl
 ·rw [Nat.add_mod_right]
theorem bezout (a b : Nat) : ∃ x y : Int, x * a + y * b = (Nat.gcd a b : Nat) := by
 induction a, b using Nat.gcd.induction with
 | H0 n => exact ⟨0, 1, by rw [Nat.gcd_zero_left]; omega⟩
 | H1 m n hm ih =>
  obtain ⟨x, y, h⟩ := ih
  refine ⟨y - x * ((n / m : Nat) : Int), x, ?_⟩
  rw [Nat.gcd_rec, ← h]
  have e : (n : Int) = (m : Int) * ((n / m : Nat) : Int) + ((n % m : Nat) : Int) := by exact_mod_cast (Nat.div_add_mod n m).symm
  generalize ((n / m : Nat) : Int) = q at *
  generalize ((n % m : Nat) : Int) = r at *
  rw [e]; grind
/-- What Inv returns: the inverse, if there is one. -/
def IsInv (a p v : Nat) (ok : Bool) : Prop := (ok = true ∧ v < p ∧ a * v % p = 1 % p) ∨ (ok = false ∧ v = 0 ∧ (p = 0 ∨ Nat.gcd a p ≠ 1))
theorem inv_gcd {a p v : Nat} (hv : a * v % p = 1 % p) (h0 : 0 < p) : Nat.gcd a p = 1 := by
 have h1 : Nat.gcd a p ∣ a * v := Nat.dvd_trans (Nat.gcd_dvd_left _ _) (Nat.dvd_mul_right _ _)
 have h2 : Nat.gcd a p ∣ a * v % p := (Nat.dvd_mod_iff (Nat.gcd_dvd_right _ _)).2 h1
 rw [hv] at h2
 exact Nat.dvd_one.1 ((Nat.dvd_mod_iff (Nat.gcd_dvd_right _ _)).1 h2)
theorem mul_cancel_mod {a v u p : Nat} (h0 : 0 < p) (hg : Nat.gcd a p = 1) (h : a * v % p = a * u % p) : v % p = u % p := by
 rcases Nat.le_total u v with g | g
 ·have h1 : p ∣ a * v - a * u := (dvd_sub_mod (Nat.mul_le_mul_left a g)).2 h
  rw [← Nat.mul_sub] at h1
  have h2 : p ∣ v - u := Nat.Coprime.dvd_of_dvd_mul_left (Nat.Coprime.symm hg) h1
  exact (dvd_sub_mod g).1 h2
 ·have h1 : p ∣ a * u - a * v := (dvd_sub_mod (Nat.mul_le_mul_left a g)).2 h.symm
  rw [← Nat.mul_sub] at h1
  have h2 : p ∣ u - v := Nat.Coprime.dvd_of_dvd_mul_left (Nat.Coprime.symm hg) h1
  exact ((dvd_sub_mod g).1 h2).symm
theorem IsInv.uniq {a p v u : Nat} {x y : Bool} (h : IsInv a p v x) (k : IsInv a p u y) : v = u ∧ x = y := by
 rcases h with ⟨rfl, h1, h2⟩ | ⟨rfl, rfl, h1⟩ <;> rcases k with ⟨rfl, k1, k2⟩ | ⟨rfl, rfl, k1⟩
 ·have := mul_cancel_mod (by omega) (inv_gcd h2 (by omega)) (h2.trans k2.symm)
  rw [Nat.mod_eq_of_lt h1, Nat.mod_eq_of_lt k1] at this
  exact ⟨this, rfl⟩
 ·rcases k1 with k1 | k1
  ·omega
  ·exact absurd (inv_gcd h2 (by omega)) k1
 ·rcases h1 with h1 | h1
  ·omega
  ·exact absurd (inv_gcd k2 (by omega)) h1
 ·exact ⟨rfl, rfl⟩
theorem IsInv.ex (a p : Nat) : ∃ vo : Nat × Bool, IsInv a p vo.1 vo.2 := by
 by_cases h0 : p = 0
 ·exact ⟨(0, false), .inr ⟨rfl, rfl, .inl h0⟩⟩
 by_cases hg : Nat.gcd a p = 1
 ·obtain ⟨x, y, h⟩ := bezout a p
  rw [hg] at h
  have hp : (p : Int) ≠ 0 := by omega
  refine ⟨((x % p).toNat, true), .inl ⟨rfl, ?_, ?_⟩⟩
  ·have := Int.emod_lt_of_pos x (show (0 : Int) < p by omega); have := Int.emod_nonneg x hp; show (x % p).toNat < p; omega
  ·have e : (((x % p).toNat : Nat) : Int) = x % p := Int.toNat_of_nonneg (Int.emod_nonneg x hp)
   have : ((a * (x % p).toNat % p : Nat) : Int) = ((1 % p : Nat) : Int) := by
    push_cast
    rw [e, Int.mul_emod, Int.emod_emod, ← Int.mul_emod, show (a : Int) * x = 1 + p * (-y) by have : ((1 : Nat) : Int) = 1 := rfl; grind, Int.add_mul_emod_self_left]
   exact_mod_cast this
 ·exact ⟨(0, false), .inr ⟨rfl, rfl, .inr hg⟩⟩
noncomputable def invV (a p : Nat) : Nat := (IsInv.ex a p).choose.1
noncomputable def invB (a p : Nat) : Bool := (IsInv.ex a p).choose.2
theorem inv_is (a p : Nat) : IsInv a p (invV a p) (invB a p) := (IsInv.ex a p).choose_spec
theorem inv_eq {a p v : Nat} {ok : Bool} (h : IsInv a p v ok) : invV a p = v ∧ invB a p = ok := (inv_is a p).uniq h
theorem inv_lt (a p : Nat) (hp : p < 4294967296) : invV a p < 4294967296 := by
 rcases inv_is a p with ⟨-, h, -⟩ | ⟨-, h, -⟩ <;> omega
/-- What Euclid's algorithm keeps: g and d are a x and a y modulo p. -/
structure EucI (a p g d x y : Nat) : Prop where
 hg : Nat.gcd g d = Nat.gcd a p
 e1 : g % p = a * x % p
 e2 : d % p = a * y % p
 gp : g ≤ p
 dl : d < p ∨ d = 0
 xl : x < p
 yl : d ≠ 0 → y < p
theorem EucI.start {a p : Nat} (h : p ≠ 0) : EucI a p p (rsd a p) 0 1 := by
 have hl := rsd_lt (n := a) h
 refine ⟨by rw [rsd_pos h, Nat.gcd_comm, ← Nat.gcd_rec, Nat.gcd_comm], by rw [Nat.mod_self, Nat.mul_zero, Nat.zero_mod], by rw [rsd_pos h, Nat.mod_mod, Nat.mul_one], Nat.le_refl _, .inl hl, by omega, fun g => ?_⟩
 rcases Nat.lt_or_ge 1 p with k | k
 ·exact k
 ·omega
theorem EucI.step {a p g d x y : Nat} (h : EucI a p g d x y) (h0 : p ≠ 0) (hd : d ≠ 0) : EucI a p d (g % d) y (subN x (rsd (g / d * y) p) p) := by
 have hlt := Nat.mod_lt g (show 0 < d by omega)
 have hdp : d < p := by rcases h.dl with k | k <;> omega
 refine ⟨by rw [← h.hg, Nat.gcd_comm g d, Nat.gcd_rec d g, Nat.gcd_comm], h.e2, ?_, by omega, .inl (by omega), h.yl hd, fun _ => by unfold subN; exact rsd_lt h0⟩
 have h1 := subN_add x (rsd (g / d * y) p) p
 rw [rsd_add_r] at h1
 generalize subN x (rsd (g / d * y) p) p = z at *
 rw [rsd_pos h0, rsd_pos h0] at h1
 have h2 : (g % d + g / d * d) % p = (a * z + g / d * d) % p := by
  rw [Nat.mul_comm (g / d) d, Nat.mod_add_div, h.e1, Nat.mul_mod, ← h1, ← Nat.mul_mod, Nat.mul_add, ← Nat.add_mod_mod (a * z) (d * (g / d)), Nat.mul_mod d, h.e2, ← Nat.mul_mod, Nat.add_mod_mod, show a * y * (g / d) = a * (g / d * y) by grind]
 exact mod_add_cancel h2
theorem EucI.ok {a p g x y : Nat} (h : EucI a p g 0 x y) (h0 : p ≠ 0) (h1 : g = 1) : IsInv a p x true :=
 .inl ⟨rfl, h.xl, by rw [← h.e1, h1]⟩
theorem EucI.no {a p g x y : Nat} (h : EucI a p g 0 x y) (h1 : g ≠ 1) : IsInv a p 0 false :=
 .inr ⟨rfl, rfl, .inr (by rw [← h.hg, Nat.gcd_zero_right]; exact h1)⟩
/-- Whether n is a prime. -/
noncomputable def prB (n : Nat) : Bool := @decide (isPr n) (Classical.propDecidable _)
theorem prB_iff {n : Nat} : prB n = true ↔ isPr n := @decide_eq_true_iff _ (Classical.propDecidable _)
theorem prB_of {n : Nat} (h : isPr n) : prB n = true := prB_iff.2 h
theorem prB_no {n : Nat} (h : ¬ isPr n) : prB n = false := by
 rcases hb : prB n with _ | _
 ·rfl
 ·exact absurd (prB_iff.1 hb) h
theorem pr_odd {n : Nat} (h : isPr n) (h2 : n ≠ 2) : n % 2 = 1 := by
 rcases Nat.mod_two_eq_zero_or_one n with g | g
 ·rcases h.2 2 (Nat.dvd_of_mod_eq_zero g) with k | k <;> omega
 ·exact g
/-- A square root of 1 modulo a prime. -/
theorem sq_one {n x : Nat} (hn : isPr n) (h : x * x % n = 1) : x % n = 1 ∨ x % n = n - 1 := by
  have h1 := hn.1
  have hx : 0 < x := by rcases Nat.eq_zero_or_pos x with rfl | g; · rw [Nat.mul_zero, Nat.zero_mod] at h; omega
                        · exact g
  have h2 : n ∣ x * x - 1 := (dvd_sub_mod (Nat.mul_pos hx hx)).2 (show x * x % n = 1 % n by rw [h, Nat.mod_eq_of_lt h1])
  have h3 : x * x - 1 = (x - 1) * (x + 1) := by
    obtain ⟨k, rfl⟩ : ∃ k, x = k + 1 := ⟨x - 1, by omega⟩
    rw [Nat.add_sub_cancel, show (k + 1) * (k + 1) = k * (k + 1 + 1) + 1 by grind, Nat.add_sub_cancel]
  rw [h3] at h2
  rcases pr_mul hn h2 with g | g
  · left
    rw [(dvd_sub_mod (show 1 ≤ x from hx)).1 g, Nat.mod_eq_of_lt h1]
  · right
    obtain ⟨k, hk⟩ := g
    have hk0 : 0 < k := by rcases Nat.eq_zero_or_pos k with rfl | q; · omega
                           · exact q
    obtain ⟨j, rfl⟩ : ∃ j, k = j + 1 := ⟨k - 1, by omega⟩
    rw [show x = n - 1 + n * j by rw [Nat.mul_succ] at hk; omega, Nat.add_mul_mod_self_left, Nat.mod_eq_of_lt (by omega)]
/-- A prime passes the strong test. -/
theorem prime_strong {n b m : Nat} (hn : isPr n) (hb : ¬ n ∣ b) : ∀ {h : Nat}, n - 1 = m * 2 ^ h → b ^ m % n = 1 ∨ ∃ i, i < h ∧ b ^ (m * 2 ^ i) % n = n - 1 := by
 intro h e
 have hone : ∀ j, j ≤ h → (∀ i, i < h → b ^ (m * 2 ^ i) % n ≠ n - 1) → b ^ (m * 2 ^ (h - j)) % n = 1 := by
  intro j
  induction j with
  | zero => intro _ _; rw [Nat.sub_zero, ← e]; exact fermat_one hn hb
  | succ j ih =>
   intro hj hne
   have h1 := ih (by omega) hne
   have e2 : m * 2 ^ (h - j) = m * 2 ^ (h - (j + 1)) + m * 2 ^ (h - (j + 1)) := by
    rw [show h - j = (h - (j + 1)) + 1 by omega, Nat.pow_succ]; grind
   rw [e2, Nat.pow_add] at h1
   rcases sq_one hn h1 with g | g
   ·exact g
   ·exact absurd g (hne _ (by omega))
 by_cases g : ∃ i, i < h ∧ b ^ (m * 2 ^ i) % n = n - 1
 ·exact .inr g
 ·left
  have := hone h (Nat.le_refl _) (fun i hi hc => g ⟨i, hi, hc⟩)
  rwa [Nat.sub_self, Nat.pow_zero, Nat.mul_one] at this
theorem strong_of {b n k : Nat} (h : rootOk b n k = true) (h0 : 0 < k) (hk : k ≤ 32) : strong b n = true := by
 have : ∀ K, k ≤ K → (Nat.rec (motive := fun _ => Bool) false (fun i ih => or (rootOk b n (Nat.succ i)) ih) K : Bool) = true := by
  intro K
  induction K with
  | zero => intro g; omega
  | succ K ih =>
   intro g
   show (rootOk b n (K + 1) || _) = true
   rw [Bool.or_eq_true]
   by_cases e : k = K + 1
   ·left; rw [← e]; exact h
   ·right; exact ih (by omega)
 exact this 32 hk
theorem rootOk_one {b n m h : Nat} (e : n - 1 = m * 2 ^ h) (ho : m % 2 = 1) (hp : b ^ m % n = 1) : rootOk b n h = true := by
 unfold rootOk
 rw [pwb_eq]
 have e0 : Nat.mod (Nat.sub n 1) (Nat.pow 2 h) = 0 := by show (n - 1) % 2 ^ h = 0; rw [e, Nat.mul_mod_left]
 have e1 : Nat.div (Nat.sub n 1) (Nat.pow 2 h) = m := by show (n - 1) / 2 ^ h = m; rw [e, Nat.mul_div_cancel _ (Nat.two_pow_pos h)]
 rw [e0, e1, hp]
 have e2 : Nat.mod m 2 = 1 := ho
 rw [e2]
 show cond true (_ || (true && true)) false = true
 rw [cond_true]; simp
theorem rootOk_neg {b n m h i : Nat} (e : n - 1 = m * 2 ^ h) (hi : i < h) (hp : b ^ (m * 2 ^ i) % n = n - 1) : rootOk b n (h - i) = true := by
 have e3 : n - 1 = m * 2 ^ i * 2 ^ (h - i) := by rw [Nat.mul_assoc, ← Nat.pow_add, show i + (h - i) = h by omega, e]
 unfold rootOk
 rw [pwb_eq]
 have e0 : Nat.mod (Nat.sub n 1) (Nat.pow 2 (h - i)) = 0 := by show (n - 1) % 2 ^ (h - i) = 0; rw [e3, Nat.mul_mod_left]
 have e1 : Nat.div (Nat.sub n 1) (Nat.pow 2 (h - i)) = m * 2 ^ i := by show (n - 1) / 2 ^ (h - i) = m * 2 ^ i; rw [e3, Nat.mul_div_cancel _ (Nat.two_pow_pos _)]
 rw [e0, e1, hp]
 show cond true (Nat.beq (n - 1) (n - 1) || _) false = true
 rw [cond_true, Nat.beq_refl, Bool.true_or]
theorem strongT_three {n : Nat} (h1 : 2 ≤ n) (h2 : strong 2 n = true) (h7 : strong 7 n = true) (h61 : strong 61 n = true) : strongT [2, 7, 61] n = true := by
 unfold strongT
 show (Nat.ble 2 n && (strong 2 n && (strong 7 n && (strong 61 n && true)))) = true
 rw [h2, h7, h61, Nat.ble_eq_true_of_le h1]; rfl
theorem not_pr_dvd {n d : Nat} (h : d ∣ n) (h2 : 2 ≤ d) (hd : d < n) : ¬ isPr n := fun k => by
 rcases k.2 d h with g | g <;> omega
/-- The least prime above n, below 2^31. -/
def IsNext (n q : Nat) (e : Int) : Prop := (e = 0 ∧ n < q ∧ q < 2147483648 ∧ isPr q ∧ ∀ i, n < i → i < q → ¬ isPr i) ∨ (e = 3 ∧ q = 0 ∧ ∀ i, n < i → i < 2147483648 → ¬ isPr i)
theorem IsNext.uniq {n q r : Nat} {e f : Int} (h : IsNext n q e) (k : IsNext n r f) : q = r ∧ e = f := by
 rcases h with ⟨rfl, a1, a2, a3, a4⟩ | ⟨rfl, rfl, a⟩ <;> rcases k with ⟨rfl, b1, b2, b3, b4⟩ | ⟨rfl, rfl, b⟩
 ·refine ⟨?_, rfl⟩
  rcases Nat.lt_trichotomy q r with g | g | g
  ·exact absurd a3 (b4 q a1 g)
  ·exact g
  ·exact absurd b3 (a4 r b1 g)
 ·exact absurd a3 (b q a1 a2)
 ·exact absurd b3 (a r b1 b2)
 ·exact ⟨rfl, rfl⟩
theorem IsNext.ex (n : Nat) : ∃ qe : Nat × Int, IsNext n qe.1 qe.2 := by
 have : ∀ k d, k + d = 2147483648 → (∀ i, n < i → i < d → ¬ isPr i) → n < d → ∃ qe : Nat × Int, IsNext n qe.1 qe.2 := by
  intro k
  induction k with
  | zero => intro d hd hlo _; exact ⟨(0, 3), .inr ⟨rfl, rfl, fun i h1 h2 => hlo i h1 (by omega)⟩⟩
  | succ k ih =>
   intro d hd hlo hn
   by_cases g : isPr d
   ·exact ⟨(d, 0), .inl ⟨rfl, hn, by show d < _; omega, g, hlo⟩⟩
   ·refine ih (d + 1) (by omega) (fun i h1 h2 => ?_) (by omega)
    rcases Nat.lt_or_ge i d with q | q
    ·exact hlo i h1 q
    ·have : i = d := by omega
     rw [this]; exact g
 rcases Nat.lt_or_ge n 2147483648 with g | g
 ·exact this (2147483648 - (n + 1)) (n + 1) (by omega) (fun i h1 h2 => by omega) (by omega)
 ·exact ⟨(0, 3), .inr ⟨rfl, rfl, fun i h1 h2 => by omega⟩⟩
end Go.Proofs.YtdkjckiialnpnaaGreatDoor
namespace Go.Proofs.YtdkjckiialnpnaaGreatDoor
open Go.RowKit
set_option maxHeartbeats 4000000 in
set_option maxRecDepth 100000 in
theorem residue_any (n p : Nat) (hn : n < 18446744073709551616) (hp : p < 4294967296) (w : World) :
  Calls Tryz.prog 186 #[.int .u64 (n : Int), .int .u32 (p : Int)] w fun e w' => e = .returned (.int .u32 ((rsd n p : Nat) : Int)) ∧ w' = w := by
 have hr : rsd n p < 4294967296 := Nat.lt_of_le_of_lt (rsd_le n p) hp
 by_cases h0 : p = 0
 ·subst h0
  go_enter Tryz.func186, Tryz.ntmps186
  go_wp2_with fail
  go_ret
  exact ⟨rfl, rfl⟩
 ·have e0 : ((p : Int) == 0) = false := by simp; omega
  have e1 : (p : Int) ≠ 0 := by omega
  have hz : (p : Int) % 18446744073709551616 = (p : Int) := by omega
  have hq : (n : Int) % (p : Int) = ((rsd n p : Nat) : Int) := by rw [rsd_pos h0]; rfl
  have hr2 : ((rsd n p : Nat) : Int) % 4294967296 = ((rsd n p : Nat) : Int) := by omega
  generalize rsd n p = r at *
  go_enter Tryz.func186, Tryz.ntmps186
  go_wp2_with fail
  go_ret
  exact ⟨by first | rfl | (simp [*]), rfl⟩
set_option maxHeartbeats 4000000 in
set_option maxRecDepth 100000 in
theorem madd_any (a b p : Nat) (ha : a < 4294967296) (hb : b < 4294967296) (hp : p < 4294967296) (w : World) :
  Calls Tryz.prog 122 #[.int .u32 (a : Int), .int .u32 (b : Int), .int .u32 (p : Int)] w fun e w' => e = .returned (.int .u32 ((rsd (a + b) p : Nat) : Int)) ∧ w' = w := by
 have R := Lib.hid (residue_any (a + b) p (by omega) hp w)
 obtain ⟨s, hs⟩ : ∃ s, s = a + b := ⟨_, rfl⟩
 rw [← hs] at R ⊢
 have h1 : (a : Int) % 18446744073709551616 = (a : Int) := by omega
 have h2 : (b : Int) % 18446744073709551616 = (b : Int) := by omega
 have h3 : (a : Int) + (b : Int) = (s : Int) := by omega
 have h4 : (s : Int) % 18446744073709551616 = (s : Int) := by omega
 clear hs ha hb hp
 generalize rsd s p = r at *
 go_enter Tryz.func122, Tryz.ntmps122
 go_wp2_with fail
 with_reducible refine Calls.mono R.out ?_
 rintro e w1 ⟨rfl, rfl⟩
 go_wp2_with fail
 go_ret
 exact ⟨rfl, rfl⟩
set_option maxHeartbeats 4000000 in
set_option maxRecDepth 100000 in
theorem mmul_any (a b p : Nat) (ha : a < 4294967296) (hb : b < 4294967296) (hp : p < 4294967296) (w : World) :
  Calls Tryz.prog 120 #[.int .u32 (a : Int), .int .u32 (b : Int), .int .u32 (p : Int)] w fun e w' => e = .returned (.int .u32 ((rsd (a * b) p : Nat) : Int)) ∧ w' = w := by
 have hl : a * b < 18446744073709551616 := by
  have := Nat.mul_le_mul (show a ≤ 4294967295 by omega) (show b ≤ 4294967295 by omega); omega
 have R := Lib.hid (residue_any (a * b) p hl hp w)
 obtain ⟨s, hs⟩ : ∃ s, s = a * b := ⟨_, rfl⟩
 rw [← hs] at R hl ⊢
 have h1 : (a : Int) % 18446744073709551616 = (a : Int) := by omega
 have h2 : (b : Int) % 18446744073709551616 = (b : Int) := by omega
 have h3 : (a : Int) * (b : Int) = (s : Int) := by rw [hs]; push_cast; rfl
 have h4 : (s : Int) % 18446744073709551616 = (s : Int) := by omega
 clear hs ha hb hp hl
 generalize rsd s p = r at *
 go_enter Tryz.func120, Tryz.ntmps120
 go_wp2_with fail
 with_reducible refine Calls.mono R.out ?_
 rintro e w1 ⟨rfl, rfl⟩
 go_wp2_with fail
 go_ret
 exact ⟨rfl, rfl⟩
set_option maxHeartbeats 4000000 in
set_option maxRecDepth 100000 in
theorem msub_any (a b p : Nat) (ha : a < 4294967296) (hb : b < 4294967296) (hp : p < 4294967296) (w : World) :
  Calls Tryz.prog 119 #[.int .u32 (a : Int), .int .u32 (b : Int), .int .u32 (p : Int)] w fun e w' => e = .returned (.int .u32 ((subN a b p : Nat) : Int)) ∧ w' = w := by
 have hle := rsd_le b p
 have R := Lib.hid (residue_any b p (by omega) hp w)
 have S := Lib.hid (madd_any a (p - rsd b p) p ha (by omega) hp w)
 rw [show rsd (a + (p - rsd b p)) p = subN a b p from rfl] at S
 generalize subN a b p = r at *
 generalize rsd b p = q at *
 obtain ⟨d, hd⟩ : ∃ d, d = p - q := ⟨_, rfl⟩
 rw [← hd] at S
 have h2 : (b : Int) % 18446744073709551616 = (b : Int) := by omega
 have h3 : (p : Int) - (q : Int) = (d : Int) := by omega
 have h4 : (d : Int) % 4294967296 = (d : Int) := by omega
 clear hd ha hb hp hle
 go_enter Tryz.func119, Tryz.ntmps119
 go_wp2_with fail
 with_reducible refine Calls.mono R.out ?_
 rintro e w1 ⟨rfl, rfl⟩
 go_wp2_with fail
 with_reducible refine Calls.mono S.out ?_
 rintro e w2 ⟨rfl, rfl⟩
 go_wp2_with fail
 go_ret
 exact ⟨rfl, rfl⟩
end Go.Proofs.YtdkjckiialnpnaaGreatDoor
namespace Go.Proofs.YtdkjckiialnpnaaGreatDoor
open Go.RowKit
attribute [local irreducible] rsd subN
theorem rsd_lt32 (n : Nat) {p : Nat} (hp : p < 4294967296) : rsd n p < 4294967296 := Nat.lt_of_le_of_lt (rsd_le n p) hp
theorem subN_lt32 (a b : Nat) {p : Nat} (hp : p < 4294967296) : subN a b p < 4294967296 := by unfold subN; exact rsd_lt32 _ hp
theorem pow_half_odd (P A N p : Nat) (h : N % 2 = 1) : rsd (rsd (P * A) p * rsd (A * A) p ^ (N / 2)) p = rsd (P * A ^ N) p := by
 rw [rsd_mul_l, ← rsd_mul_r, rsd_pow, rsd_mul_r]
 congr 1
 obtain ⟨k, hk⟩ : ∃ k, k = N / 2 := ⟨_, rfl⟩
 rw [← hk, show N = 2 * k + 1 by omega, Nat.pow_succ, Nat.pow_mul, Nat.pow_two, Nat.mul_assoc, Nat.mul_comm A]
theorem pow_half_even (P A N p : Nat) (h : N % 2 = 0) : rsd (P * rsd (A * A) p ^ (N / 2)) p = rsd (P * A ^ N) p := by
 rw [← rsd_mul_r, rsd_pow, rsd_mul_r]
 congr 1
 obtain ⟨k, hk⟩ : ∃ k, k = N / 2 := ⟨_, rfl⟩
 rw [← hk, show N = 2 * k by omega, Nat.pow_mul, Nat.pow_two]
set_option maxHeartbeats 4000000 in
set_option maxRecDepth 100000 in
theorem mpow_any (a n p : Nat) (ha : a < 4294967296) (hn : n < 18446744073709551616) (hp : p < 4294967296) (w : World) :
  Calls Tryz.prog 121 #[.int .u32 (a : Int), .int .u64 (n : Int), .int .u32 (p : Int)] w fun e w' => e = .returned (.int .u32 ((rsd (a ^ n) p : Nat) : Int)) ∧ w' = w := by
 have R := Lib.hid (residue_any 1 p (by omega) hp w)
 have hS : rsd (rsd 1 p * a ^ n) p = rsd (a ^ n) p := by rw [rsd_mul_l, Nat.one_mul]
 have hr1 := rsd_rsd 1 p
 have hl1 := rsd_lt32 1 hp
 generalize rsd 1 p = r1 at *
 replace hS := Lib.hid hS
 replace hr1 := Lib.hid hr1
 go_enter Tryz.func121, Tryz.ntmps121
 go_wp2_with fail
 with_reducible refine Calls.mono R.out ?_
 rintro e w1 ⟨rfl, rfl⟩
 go_wp2_with fail
 go_loopw [7, 1, 0] (fun pw nn aa wr => ∃ P N A : Nat, pw = .int .u32 (P : Int) ∧ nn = .int .u64 (N : Int) ∧ aa = .int .u32 (A : Int) ∧ P < 4294967296 ∧ A < 4294967296 ∧ N < 18446744073709551616 ∧ rsd P p = P ∧ rsd (P * A ^ N) p = rsd (a ^ n) p ∧ wr = w1) (fun _ nn _ _ => (intOf nn).toNat)
 case atStart => exact ⟨r1, n, a, rfl, rfl, rfl, hl1, ha, hn, hr1.out, hS.out, rfl⟩
 case round =>
  obtain ⟨P, N, A, rfl, rfl, rfl, hP, hA, hN, hPr, hE, rfl⟩ := hrel
  rcases Nat.eq_zero_or_pos N with rfl | h0
  ·rw [Nat.pow_zero, Nat.mul_one, hPr] at hE
   go_wp2_with fail
   go_ret
   exact ⟨by first | rfl | (rw [hE]; rfl), rfl⟩
  ·have k1 : (0 : Int) < (N : Int) := by omega
   have hq : (N : Int) / 2 = ((N / 2 : Nat) : Int) := by omega
   have hq2 : ((N / 2 : Nat) : Int) % 18446744073709551616 = ((N / 2 : Nat) : Int) := by omega
   have hlt : N / 2 < N := by omega
   have MA := Lib.hid (mmul_any A A p hA hA hp)
   have MP := Lib.hid (mmul_any P A p hP hA hp)
   have lA := rsd_lt32 (A * A) hp
   have lP := rsd_lt32 (P * A) hp
   rcases Nat.mod_two_eq_zero_or_one N with hm | hm
   ·have k2 : ((N : Int) % 2 == 1) = false := by simp; omega
    have hH := pow_half_even P A N p hm
    rw [hE] at hH
    replace hH := Lib.hid hH
    replace hPr := Lib.hid hPr
    clear hE hm
    generalize N / 2 = M at *
    generalize rsd (A * A) p = A2 at *
    go_wp2_with fail
    with_reducible refine Calls.mono (MA.out _) ?_
    rintro e w2 ⟨rfl, rfl⟩
    go_wp2_with fail
    go_roundw
    case rel => exact ⟨P, M, A2, rfl, rfl, rfl, hP, lA, by omega, hPr.out, hH.out, by first | rfl | trivial⟩
    case measure => simp [intOf]; omega
   ·have k2 : ((N : Int) % 2 == 1) = true := by simp; omega
    have hH := pow_half_odd P A N p hm
    rw [hE] at hH
    replace hH := Lib.hid hH
    have hRR := Lib.hid (rsd_rsd (P * A) p)
    clear hE hm hPr
    generalize N / 2 = M at *
    generalize rsd (A * A) p = A2 at *
    generalize rsd (P * A) p = P2 at *
    go_wp2_with fail
    with_reducible refine Calls.mono (MP.out _) ?_
    rintro e w2 ⟨rfl, rfl⟩
    go_wp2_with fail
    with_reducible refine Calls.mono (MA.out _) ?_
    rintro e w3 ⟨rfl, rfl⟩
    go_wp2_with fail
    go_roundw
    case rel => exact ⟨P2, M, A2, rfl, rfl, rfl, lP, lA, by omega, hRR.out, hH.out, by first | rfl | trivial⟩
    case measure => simp [intOf]; omega
end Go.Proofs.YtdkjckiialnpnaaGreatDoor
namespace Go.Proofs.YtdkjckiialnpnaaGreatDoor
open Go.RowKit
attribute [local irreducible] rsd subN invV invB
set_option maxHeartbeats 4000000 in
set_option maxRecDepth 100000 in
theorem minv_is (a p v : Nat) (ok : Bool) (ha : a < 4294967296) (hp : p < 4294967296) (hi : IsInv a p v ok) (w : World) :
  Calls Tryz.prog 118 #[.int .u32 (a : Int), .int .u32 (p : Int)] w fun e w' => e = .returned (.tuple #[.int .u32 (v : Int), .bool ok]) ∧ Below w.heap.size w w' := by
 have R := Lib.hid (residue_any a p (by omega) hp w)
 have hac : (a : Int) % 18446744073709551616 = (a : Int) := by omega
 by_cases h0 : p = 0
 ·subst h0
  obtain ⟨rfl, rfl⟩ := hi.uniq (show IsInv a 0 0 false from .inr ⟨rfl, rfl, .inl rfl⟩)
  rw [rsd_zero] at R
  go_enter Tryz.func118, Tryz.ntmps118
  go_wp2_with fail
  with_reducible refine Calls.mono R.out ?_
  rintro e w1 ⟨rfl, rfl⟩
  go_wp2_with fail
  go_loopw [6, 7, 8, 9] (fun gv xv dv yv wr => gv = .int .u32 0 ∧ xv = .int .u32 0 ∧ dv = .int .u32 0 ∧ yv = .int .u32 1 ∧ wr = w1) (fun _ _ _ _ _ => 0)
  case atStart => exact ⟨rfl, rfl, rfl, rfl, rfl⟩
  case round =>
   obtain ⟨rfl, rfl, rfl, rfl, rfl⟩ := hrel
   go_wp2_with fail
   exact bodyPost_ret (v := .tuple #[.int .u32 ((0 : Nat) : Int), .bool false]) (by simp [results, Tryz.results118, go_sem]) rfl ⟨rfl, Below.refl _ _⟩
 ·have hS := EucI.start (a := a) h0
  have hrl := rsd_lt32 a hp
  generalize rsd a p = r at *
  replace hS := Lib.hid hS
  go_enter Tryz.func118, Tryz.ntmps118
  go_wp2_with fail
  with_reducible refine Calls.mono R.out ?_
  rintro e w1 ⟨rfl, rfl⟩
  go_wp2_with fail
  go_loopw [6, 7, 8, 9] (fun gv xv dv yv wr => ∃ g x d y : Nat, gv = .int .u32 (g : Int) ∧ xv = .int .u32 (x : Int) ∧ dv = .int .u32 (d : Int) ∧ yv = .int .u32 (y : Int) ∧ EucI a p g d x y ∧ y < 4294967296 ∧ Below w1.heap.size w1 wr) (fun _ _ dv _ _ => (intOf dv).toNat)
  case atStart => exact ⟨p, 0, r, 1, rfl, rfl, rfl, rfl, hS.out, by omega, Below.refl _ _⟩
  case round =>
   obtain ⟨g, x, d, y, rfl, rfl, rfl, rfl, hE, hy, hbl⟩ := hrel
   clear hS R hac
   rcases Nat.eq_zero_or_pos d with rfl | hd
   ·by_cases h1 : g = 1
    ·subst h1
     obtain ⟨rfl, rfl⟩ := hi.uniq (hE.ok h0 rfl)
     clear hi
     go_wp2_with fail
     exact bodyPost_ret (v := .tuple #[.int .u32 ((v : Nat) : Int), .bool true]) (by simp [results, Tryz.results118, go_sem]) rfl ⟨rfl, hbl⟩
    ·obtain ⟨rfl, rfl⟩ := hi.uniq (hE.no h1)
     clear hi
     have k1 : ((g : Int) != 1) = true := by simp; omega
     go_wp2_with fail
     exact bodyPost_ret (v := .tuple #[.int .u32 ((0 : Nat) : Int), .bool false]) (by simp [results, Tryz.results118, go_sem]) rfl ⟨rfl, hbl⟩
   ·have hN := hE.step h0 (by omega)
    have hgp := hE.gp
    have hxl := hE.xl
    have hdl : d < p := by rcases hE.dl with k | k <;> omega
    have hql : g / d < 4294967296 := Nat.lt_of_le_of_lt (Nat.div_le_self _ _) (by omega)
    have M := Lib.hid (mmul_any (g / d) y p hql hy hp)
    have S := Lib.hid (msub_any x (rsd (g / d * y) p) p (by omega) (rsd_lt32 _ hp) hp)
    have hsl := subN_lt32 x (rsd (g / d * y) p) hp
    have hrm : g % d < d := Nat.mod_lt _ hd
    have e1 : (g : Int) / (d : Int) = ((g / d : Nat) : Int) := by push_cast; rfl
    have e2 : (g : Int) % (d : Int) = ((g % d : Nat) : Int) := by push_cast; rfl
    have e3 : ((d : Int) == 0) = false := by simp; omega
    have e4 : ((d : Int) != 0) = true := by simp; omega
    have e5 : (d : Int) ≠ 0 := by omega
    generalize subN x (rsd (g / d * y) p) p = z at *
    generalize rsd (g / d * y) p = m at *
    generalize g / d = q at *
    generalize g % d = r2 at *
    have e6 : (q : Int) % 4294967296 = (q : Int) := by omega
    have e7 : (r2 : Int) % 4294967296 = (r2 : Int) := by omega
    replace hN := Lib.hid hN
    clear hE hi hgp hxl hdl
    go_upto_region 5 with fail
    go_region
    have hbd := hbl.drew
    generalize wr.drew = wd at hbd ⊢
    go_wp2_with fail
    with_reducible refine Calls.mono (M.out _) ?_
    rintro e w2 ⟨rfl, rfl⟩
    go_wp2_with fail
    with_reducible refine Calls.mono (S.out _) ?_
    rintro e w3 ⟨rfl, rfl⟩
    go_wp2_with fail
    go_roundw
    case rel => exact ⟨d, y, r2, z, rfl, rfl, rfl, rfl, hN.out, hsl, hbd⟩
    case measure => simp [intOf]; omega
theorem minv_any (a p : Nat) (ha : a < 4294967296) (hp : p < 4294967296) (w : World) :
  Calls Tryz.prog 118 #[.int .u32 (a : Int), .int .u32 (p : Int)] w fun e w' => e = .returned (.tuple #[.int .u32 ((invV a p : Nat) : Int), .bool (invB a p)]) ∧ Below w.heap.size w w' := minv_is a p _ _ ha hp (inv_is a p) w
end Go.Proofs.YtdkjckiialnpnaaGreatDoor
namespace Go.Proofs.YtdkjckiialnpnaaGreatDoor
open Go.RowKit Go.Proofs.YtdkjckiialnpnaaGreatDoor.Rx
attribute [local irreducible] lo hs sm s64 c64 d64 b64 mh ml pd pc qd qc val hiB str cmpI srD lz nb isq zl zh zs dval tln rsd fd fe
set_option maxHeartbeats 4000000 in
set_option maxRecDepth 100000 in
theorem roffrac_no (q : Rat) (d : Nat) (z p r v : Int) (HD : ∀ (p0 : Value) (w : World), RF w p0 q → Calls Tryz.prog 65 #[p0] w fun e w' => ∃ pv, e = .returned pv ∧ Rn w' pv d ∧ Below w.heap.size w w') (HF : ∀ (p1 : Value) (w : World), Rn w p1 d → Calls Tryz.prog 125 #[.bool false, p1] w fun e w' => ∃ pv, e = .returned pv ∧ RZ w' pv z ∧ Below w.heap.size w w') (HO : ∀ (p0 : Value) (w : World), RZ w p0 z → Calls Tryz.prog 52 #[p0, .int .u32 p] w fun e w' => e = .returned (.int .u32 r) ∧ Below w.heap.size w w') (HI : ∀ w, Calls Tryz.prog 124 #[.int .u32 r, .int .u32 p] w fun xe w' => xe = .returned (.tuple #[.int .u32 v, .bool false]) ∧ Below w.heap.size w w') (p0 : Value) (w : World) (r0 : RF w p0 q) :
  Calls Tryz.prog 48 #[p0, .int .u32 p] w fun e w' => e = .returned (.tuple #[.int .u32 0, .bool false]) ∧ Below w.heap.size w w' := by
 obtain ⟨xa0, xc0, xb0, xd0, rfl⟩ := rf_form r0
 have xf0 := Lib.hid (rf_rn1 r0)
 have xk0 := Lib.hid (rf_rn2 r0)
 clear r0
 replace HD := Lib.hid HD
 replace HF := Lib.hid HF
 replace HO := Lib.hid HO
 replace HI := Lib.hid HI
 have hL0 : GL w w [] := GL.start w
 have hS : SS w [] := SS.nil w
 replace hS := (hS.new (.cells #[.bool (zs q.num), .slice xa0 (tln q.num.natAbs) xc0, .slice xb0 (tln (fd q)) xd0] 42))
 replace hL0 := (hL0.new rfl [.bool (zs q.num), .slice xa0 (tln q.num.natAbs) xc0, .slice xb0 (tln (fd q)) xd0] 42)
 generalize hweq : (w.alloc (.cells #[.bool (zs q.num), .slice xa0 (tln q.num.natAbs) xc0, .slice xb0 (tln (fd q)) xd0] 42)) = x1 at hL0 hS
 go_enter Tryz.func48, Tryz.ntmps48
 have hN0 := cells_of _ 0 [] rfl (hL0.get _ _ List.mem_cons_self)
 simp only [cellsF, and_true, Nat.zero_add, Nat.reduceAdd] at hN0
 go_wp2_with fail
 clear hN0
 with_reducible refine Calls.mono (HD.out (.agg #[.bool (zs q.num), .slice xa0 (tln q.num.natAbs) xc0, .slice xb0 (tln (fd q)) xd0]) _ (rf_of (Sl.below xf0.out hL0.bl) (Sl.below xk0.out hL0.bl))) ?_
 rintro e x2 ⟨v0, rfl, q0, hb⟩
 replace hL0 := hL0.call hb
 replace hS := hS.call hb
 clear hb hweq
 obtain ⟨g1, d1, rfl⟩ := rn_form q0
 replace hS := hS.cons q0
 clear q0
 go_wp2_with fail
 with_reducible refine Calls.mono (HF.out (.slice g1 (tln d) d1) _ (hS.get List.mem_cons_self)) ?_
 rintro e x3 ⟨v0, rfl, q0, hb⟩
 replace hL0 := hL0.call hb
 replace hS := hS.call hb
 clear hb
 obtain ⟨g2, d2, rfl⟩ := rz_form q0
 replace hS := hS.cons (rz_rn q0)
 clear q0
 go_wp2_with fail
 with_reducible refine Calls.mono (HO.out (.agg #[.bool (zs z), .slice g2 (tln z.natAbs) d2]) _ (rz_of (hS.get List.mem_cons_self))) ?_
 rintro e x4 ⟨rfl, hb⟩
 replace hL0 := hL0.call hb
 replace hS := hS.call hb
 clear hb
 go_wp2_with fail
 with_reducible refine Calls.mono (HI.out _) ?_
 rintro e x5 ⟨rfl, hb⟩
 replace hL0 := hL0.call hb
 replace hS := hS.call hb
 clear hb
 go_wp2_with fail
 exact bodyPost_ret (v := .tuple #[.int .u32 0, .bool false]) (by simp [results, Tryz.results48, go_sem]) rfl ⟨rfl, hL0.bl⟩
set_option maxHeartbeats 4000000 in
set_option maxRecDepth 100000 in
theorem roffrac_yes (q : Rat) (d : Nat) (z p r v s t o : Int) (HD : ∀ (p0 : Value) (w : World), RF w p0 q → Calls Tryz.prog 65 #[p0] w fun e w' => ∃ pv, e = .returned pv ∧ Rn w' pv d ∧ Below w.heap.size w w') (HF : ∀ (p1 : Value) (w : World), Rn w p1 d → Calls Tryz.prog 125 #[.bool false, p1] w fun e w' => ∃ pv, e = .returned pv ∧ RZ w' pv z ∧ Below w.heap.size w w') (HO : ∀ (p0 : Value) (w : World), RZ w p0 z → Calls Tryz.prog 52 #[p0, .int .u32 p] w fun e w' => e = .returned (.int .u32 r) ∧ Below w.heap.size w w') (HI : ∀ w, Calls Tryz.prog 124 #[.int .u32 r, .int .u32 p] w fun xe w' => xe = .returned (.tuple #[.int .u32 v, .bool true]) ∧ Below w.heap.size w w') (HP : ∀ (p0 : Value) (w : World), RZ w p0 q.num → Calls Tryz.prog 52 #[p0, .int .u32 p] w fun e w' => e = .returned (.int .u32 s) ∧ Below w.heap.size w w') (HM : ∀ w, Calls Tryz.prog 126 #[.int .u64 t, .int .u32 p] w fun xe w' => xe = .returned (.int .u32 o) ∧ Below w.heap.size w w') (h1 : s % 18446744073709551616 = s) (h2 : v % 18446744073709551616 = v) (h3 : s * v = t) (h4 : t % 18446744073709551616 = t) (p0 : Value) (w : World) (r0 : RF w p0 q) :
  Calls Tryz.prog 48 #[p0, .int .u32 p] w fun e w' => e = .returned (.tuple #[.int .u32 o, .bool true]) ∧ Below w.heap.size w w' := by
 obtain ⟨xa0, xc0, xb0, xd0, rfl⟩ := rf_form r0
 have xf0 := Lib.hid (rf_rn1 r0)
 have xk0 := Lib.hid (rf_rn2 r0)
 clear r0
 replace HD := Lib.hid HD
 replace HF := Lib.hid HF
 replace HO := Lib.hid HO
 replace HI := Lib.hid HI
 replace HP := Lib.hid HP
 replace HM := Lib.hid HM
 have hL0 : GL w w [] := GL.start w
 have hS : SS w [] := SS.nil w
 replace hS := (hS.new (.cells #[.bool (zs q.num), .slice xa0 (tln q.num.natAbs) xc0, .slice xb0 (tln (fd q)) xd0] 42))
 replace hL0 := (hL0.new rfl [.bool (zs q.num), .slice xa0 (tln q.num.natAbs) xc0, .slice xb0 (tln (fd q)) xd0] 42)
 generalize hweq : (w.alloc (.cells #[.bool (zs q.num), .slice xa0 (tln q.num.natAbs) xc0, .slice xb0 (tln (fd q)) xd0] 42)) = x1 at hL0 hS
 go_enter Tryz.func48, Tryz.ntmps48
 have hN0 := cells_of _ 0 [] rfl (hL0.get _ _ List.mem_cons_self)
 simp only [cellsF, and_true, Nat.zero_add, Nat.reduceAdd] at hN0
 go_wp2_with fail
 clear hN0
 with_reducible refine Calls.mono (HD.out (.agg #[.bool (zs q.num), .slice xa0 (tln q.num.natAbs) xc0, .slice xb0 (tln (fd q)) xd0]) _ (rf_of (Sl.below xf0.out hL0.bl) (Sl.below xk0.out hL0.bl))) ?_
 rintro e x2 ⟨v0, rfl, q0, hb⟩
 replace hL0 := hL0.call hb
 replace hS := hS.call hb
 clear hb hweq
 obtain ⟨g1, d1, rfl⟩ := rn_form q0
 replace hS := hS.cons q0
 clear q0
 go_wp2_with fail
 with_reducible refine Calls.mono (HF.out (.slice g1 (tln d) d1) _ (hS.get List.mem_cons_self)) ?_
 rintro e x3 ⟨v0, rfl, q0, hb⟩
 replace hL0 := hL0.call hb
 replace hS := hS.call hb
 clear hb
 obtain ⟨g2, d2, rfl⟩ := rz_form q0
 replace hS := hS.cons (rz_rn q0)
 clear q0
 go_wp2_with fail
 with_reducible refine Calls.mono (HO.out (.agg #[.bool (zs z), .slice g2 (tln z.natAbs) d2]) _ (rz_of (hS.get List.mem_cons_self))) ?_
 rintro e x4 ⟨rfl, hb⟩
 replace hL0 := hL0.call hb
 replace hS := hS.call hb
 clear hb
 go_wp2_with fail
 with_reducible refine Calls.mono (HI.out _) ?_
 rintro e x5 ⟨rfl, hb⟩
 replace hL0 := hL0.call hb
 replace hS := hS.call hb
 clear hb
 have hN0 := cells_of _ 0 [] rfl (hL0.get _ _ List.mem_cons_self)
 simp only [cellsF, and_true, Nat.zero_add, Nat.reduceAdd] at hN0
 go_wp2_with fail
 clear hN0
 with_reducible refine Calls.mono (HP.out (.agg #[.bool (zs q.num), .slice xa0 (tln q.num.natAbs) xc0]) _ (rz_of (Sl.below xf0.out hL0.bl))) ?_
 rintro e x6 ⟨rfl, hb⟩
 replace hL0 := hL0.call hb
 replace hS := hS.call hb
 clear hb
 go_wp2_with fail
 with_reducible refine Calls.mono (HM.out _) ?_
 rintro e x7 ⟨rfl, hb⟩
 replace hL0 := hL0.call hb
 replace hS := hS.call hb
 clear hb
 go_wp2_with fail
 exact bodyPost_ret (v := .tuple #[.int .u32 o, .bool true]) (by simp [results, Tryz.results48, go_sem]) rfl ⟨rfl, hL0.bl⟩
set_option maxHeartbeats 4000000 in
set_option maxRecDepth 100000 in
theorem mof_big0 (sx : Bool) (ax qx : Option Addr) (nx cx mx dx : Nat) (p : Int) (KT : World → Prop) (hKT : Keeps KT) (HW : ∀ w, KT w → Calls Tryz.prog 46 #[] w fun xe w' => xe = .returned (.bool true) ∧ Below w.heap.size w w') (l0 : decide ((8 : Int) < ((nx : Nat) : Int)) = true) (k0 : decide (8 < nx) = true) (w : World) (kKT : KT w) :
  Calls Tryz.prog 13 #[.agg #[.bool sx, .slice ax nx cx, .slice qx mx dx], .int .u32 p] w fun xe w' => xe = .returned (.bool true) ∧ Below w.heap.size w w' := by
 have hL0 : GL w w [] := GL.start w
 replace hKT := Lib.hid hKT
 replace HW := Lib.hid HW
 replace hL0 := (hL0.new rfl [.bool sx, .slice ax nx cx, .slice qx mx dx] 50)
 generalize hweq : (w.alloc (.cells #[.bool sx, .slice ax nx cx, .slice qx mx dx] 50)) = x1 at hL0
 go_enter Tryz.func13, Tryz.ntmps13
 have hN0 := cells_of _ 0 [] rfl (hL0.get _ _ List.mem_cons_self)
 simp only [cellsF, and_true, Nat.zero_add, Nat.reduceAdd] at hN0
 go_wp2_with fail
 clear hN0
 with_reducible refine Calls.mono (HW.out _ (hKT.out.at hL0.bl kKT)) ?_
 rintro e x2 ⟨rfl, hb⟩
 replace hL0 := hL0.call hb
 clear hb hweq
 go_wp2_with fail
 exact bodyPost_ret (v := .bool true) (by simp [results, Tryz.results13, go_sem]) rfl ⟨rfl, hL0.bl⟩
set_option maxHeartbeats 4000000 in
set_option maxRecDepth 100000 in
theorem mof_big1 (sx : Bool) (ax qx : Option Addr) (nx cx mx dx : Nat) (p : Int) (KT : World → Prop) (hKT : Keeps KT) (HW : ∀ w, KT w → Calls Tryz.prog 46 #[] w fun xe w' => xe = .returned (.bool true) ∧ Below w.heap.size w w') (l0 : decide ((8 : Int) < ((nx : Nat) : Int)) = false) (k0 : decide (8 < nx) = false) (l1 : decide ((8 : Int) < ((mx : Nat) : Int)) = true) (k1 : decide (8 < mx) = true) (w : World) (kKT : KT w) :
  Calls Tryz.prog 13 #[.agg #[.bool sx, .slice ax nx cx, .slice qx mx dx], .int .u32 p] w fun xe w' => xe = .returned (.bool true) ∧ Below w.heap.size w w' := by
 have hL0 : GL w w [] := GL.start w
 replace hKT := Lib.hid hKT
 replace HW := Lib.hid HW
 replace hL0 := (hL0.new rfl [.bool sx, .slice ax nx cx, .slice qx mx dx] 50)
 generalize hweq : (w.alloc (.cells #[.bool sx, .slice ax nx cx, .slice qx mx dx] 50)) = x1 at hL0
 go_enter Tryz.func13, Tryz.ntmps13
 have hN0 := cells_of _ 0 [] rfl (hL0.get _ _ List.mem_cons_self)
 simp only [cellsF, and_true, Nat.zero_add, Nat.reduceAdd] at hN0
 go_wp2_with fail
 clear hN0
 with_reducible refine Calls.mono (HW.out _ (hKT.out.at hL0.bl kKT)) ?_
 rintro e x2 ⟨rfl, hb⟩
 replace hL0 := hL0.call hb
 clear hb hweq
 go_wp2_with fail
 exact bodyPost_ret (v := .bool true) (by simp [results, Tryz.results13, go_sem]) rfl ⟨rfl, hL0.bl⟩
set_option maxHeartbeats 4000000 in
set_option maxRecDepth 100000 in
theorem mof_ok (sx : Bool) (ax qx : Option Addr) (nx cx mx dx : Nat) (p r s m : Int) (k : Bool) (a : Rat) (Kx : World → Prop) (hKx : Keeps Kx) (GX : ∀ w, Kx w → Calls Tryz.prog 20 #[.agg #[.bool sx, .slice ax nx cx, .slice qx mx dx]] w fun xe w' => xe = .returned (fracV a) ∧ Below w.heap.size w w') (F1 : ∀ w, Calls Tryz.prog 47 #[fracV a, .int .u32 p] w fun xe w' => xe = .returned (.tuple #[.int .u32 r, .bool k]) ∧ Below w.heap.size w w') (RX : ∀ (w : World), Kx w → Calls Tryz.prog 49 #[.agg #[.bool sx, .slice ax nx cx, .slice qx mx dx]] w fun e w' => ∃ pv, e = .returned pv ∧ RF w' pv a ∧ Below w.heap.size w w') (RO : ∀ (p0 : Value) (w : World), RF w p0 a → Calls Tryz.prog 48 #[p0, .int .u32 p] w fun e w' => e = .returned (.tuple #[.int .u32 r, .bool k]) ∧ Below w.heap.size w w') (ZX : ∀ w, Kx w → Calls Tryz.prog 51 #[.agg #[.bool sx, .slice ax nx cx]] w fun xe w' => xe = .returned (intV m) ∧ Below w.heap.size w w') (I1 : ∀ w, Calls Tryz.prog 50 #[intV m, .int .u32 p] w fun xe w' => xe = .returned (.int .u32 s) ∧ Below w.heap.size w w') (ZR : ∀ (w : World), Kx w → Calls Tryz.prog 53 #[.agg #[.bool sx, .slice ax nx cx]] w fun e w' => ∃ pv, e = .returned pv ∧ RZ w' pv m ∧ Below w.heap.size w w') (RI : ∀ (p0 : Value) (w : World), RZ w p0 m → Calls Tryz.prog 52 #[p0, .int .u32 p] w fun e w' => e = .returned (.int .u32 s) ∧ Below w.heap.size w w') (KT : World → Prop) (hKT : Keeps KT) (HW : ∀ w, KT w → Calls Tryz.prog 46 #[] w fun xe w' => xe = .returned (.bool true) ∧ Below w.heap.size w w') (l0 : decide ((8 : Int) < ((nx : Nat) : Int)) = false) (k0 : decide (8 < nx) = false) (l1 : decide ((8 : Int) < ((mx : Nat) : Int)) = false) (k1 : decide (8 < mx) = false) (w : World) (kKx : Kx w) (kKT : KT w) :
  Calls Tryz.prog 13 #[.agg #[.bool sx, .slice ax nx cx, .slice qx mx dx], .int .u32 p] w fun e w' => e = .returned (.bool true) ∧ Below w.heap.size w w' := by
 replace hKx := Lib.hid hKx
 replace GX := Lib.hid GX
 replace F1 := Lib.hid F1
 replace RX := Lib.hid RX
 replace RO := Lib.hid RO
 replace ZX := Lib.hid ZX
 replace I1 := Lib.hid I1
 replace ZR := Lib.hid ZR
 replace RI := Lib.hid RI
 replace hKT := Lib.hid hKT
 replace HW := Lib.hid HW
 have hL0 : GL w w [] := GL.start w
 have hS : SS w [] := SS.nil w
 replace hS := (hS.new (.cells #[.bool sx, .slice ax nx cx, .slice qx mx dx] 50))
 replace hL0 := (hL0.new rfl [.bool sx, .slice ax nx cx, .slice qx mx dx] 50)
 generalize hweq : (w.alloc (.cells #[.bool sx, .slice ax nx cx, .slice qx mx dx] 50)) = x1 at hL0 hS
 go_enter Tryz.func13, Tryz.ntmps13
 have hN0 := cells_of _ 0 [] rfl (hL0.get _ _ List.mem_cons_self)
 simp only [cellsF, and_true, Nat.zero_add, Nat.reduceAdd] at hN0
 go_wp2_with fail
 clear hN0
 with_reducible refine Calls.mono (GX.out _ (hKx.out.at hL0.bl kKx)) ?_
 rintro e x2 ⟨rfl, hb⟩
 replace hL0 := hL0.call hb
 replace hS := hS.call hb
 clear hb hweq
 go_wp2_with fail
 with_reducible refine Calls.mono (F1.out _) ?_
 rintro e x3 ⟨rfl, hb⟩
 replace hL0 := hL0.call hb
 replace hS := hS.call hb
 clear hb
 have hN0 := cells_of _ 0 [] rfl (hL0.get _ _ List.mem_cons_self)
 simp only [cellsF, and_true, Nat.zero_add, Nat.reduceAdd] at hN0
 go_wp2_with fail
 clear hN0
 with_reducible refine Calls.mono (RX.out _ (hKx.out.at (hL0.bl) kKx)) ?_
 rintro e x4 ⟨v0, rfl, q0, hb⟩
 replace hL0 := hL0.call hb
 replace hS := hS.call hb
 clear hb
 obtain ⟨g1, d1, g2, d2, rfl⟩ := rf_form q0
 replace hS := hS.cons (rf_rn1 q0)
 replace hS := hS.cons (rf_rn2 q0)
 clear q0
 go_wp2_with fail
 with_reducible refine Calls.mono (RO.out (.agg #[.bool (zs a.num), .slice g1 (tln a.num.natAbs) d1, .slice g2 (tln (fd a)) d2]) _ (rf_of (hS.get (List.mem_cons_of_mem _ List.mem_cons_self)) (hS.get List.mem_cons_self))) ?_
 rintro e x5 ⟨rfl, hb⟩
 replace hL0 := hL0.call hb
 replace hS := hS.call hb
 clear hb
 go_upto_region 5 with fail
 refine region_tl 25 [EV (.pointer (some ⟨w.heap.size, 0, none⟩)), EV (.agg #[.bool sx, .slice ax nx cx]), EV (.agg #[.int .u64 ((zl m : Nat) : Int), .string (zh m), .bool (zs m)]), EV (.int .u32 p), EV (.int .u32 s), EV (.pointer (some ⟨w.heap.size, 0, none⟩)), EV (.agg #[.bool sx, .slice ax nx cx]), PZ m, EV (.int .u32 p), EV (.int .u32 s), EV (.bool true), EV (.bool true), EV (.int .u32 r), EV (.int .u32 r), EV (.bool true), EV (.bool true), EV (.bool true), EV (.bool k), EV (.bool k), EV (.bool true), EV (.bool true), EV (.bool true), EV (.bool true), EV (.bool true), EV (.bool true)] (by kernel_rfl) (by kernel_rfl) ?_ ?_ ?_
 ·exact stays_cons (stays_eq _) (stays_cons (stays_eq _) (stays_cons (stays_eq _) (stays_cons (stays_eq _) (stays_cons (stays_eq _) (stays_cons (stays_eq _) (stays_cons (stays_eq _) (stays_cons (stays_rz _) (stays_cons (stays_eq _) (stays_cons (stays_eq _) (stays_cons (stays_eq _) (stays_cons (stays_eq _) (stays_cons (stays_eq _) (stays_cons (stays_eq _) (stays_cons (stays_eq _) (stays_cons (stays_eq _) (stays_cons (stays_eq _) (stays_cons (stays_eq _) (stays_cons (stays_eq _) (stays_cons (stays_eq _) (stays_cons (stays_eq _) (stays_cons (stays_eq _) (stays_cons (stays_eq _) (stays_cons (stays_eq _) (stays_cons (stays_eq _) (stays_nil)))))))))))))))))))))))))
 ·simp only [List.take_succ_cons, List.take_zero, hopsR, and_true]
  refine ⟨?_, ?_, ?_, ?_, ?_, ?_, ?_, ?_, ?_, ?_, ?_, ?_, ?_, ?_, ?_, ?_, ?_, ?_, ?_, ?_, ?_, ?_, ?_, ?_, ?_⟩ <;> intro fv w1 hb1 hp
  all_goals (simp only [putsV, Act.put, List.setIfInBounds_toArray, List.set_cons_succ, List.set_cons_zero, Nat.zero_add, Nat.reduceAdd])
  ·refine tyAt_none rfl ?_
   simp [tyUpon, execOp, go_sem, Act.eval, Below.refl]
  ·have h0 : EV _ (fv 0) w1 := hp 0 (LC (by kernel_rfl))
   refine tyAt_none rfl ?_
   have hc := (hL0.call (below_drew hb1)).fc
   simp only [fcG, cellsF, neK, and_true, ne_eq, Nat.zero_add, Nat.reduceAdd] at hc
   simp [tyUpon, execOp, go_sem, Act.eval, hc, h0, Below.refl]
  ·have h1 : EV _ (fv 1) w1 := hp 1 (LC (by kernel_rfl))
   refine tyAt_none rfl ?_
   refine ty_call (f := 51) (args := #[.agg #[.bool sx, .slice ax nx cx]]) (by simp [execOp, go_sem, Act.eval, h1]) ?_
   exact (ZX.out w1 (hKx.out.at ((hL0.call (below_drew hb1)).bl) kKx)).mono fun e w2 ⟨h1, h2⟩ => ⟨_, h1, rfl, h2⟩
  ·refine tyAt_none rfl ?_
   simp [tyUpon, execOp, go_sem, Act.eval, Below.refl]
  ·have h2 : EV _ (fv 2) w1 := hp 2 (LC (by kernel_rfl))
   have h3 : EV _ (fv 3) w1 := hp 3 (LC (by kernel_rfl))
   refine tyAt_none rfl ?_
   refine ty_call (f := 50) (args := #[.agg #[.int .u64 ((zl m : Nat) : Int), .string (zh m), .bool (zs m)], .int .u32 p]) (by simp [execOp, go_sem, Act.eval, h2, h3]) ?_
   exact (I1.out w1).mono fun e w2 ⟨h1, h2⟩ => ⟨_, h1, rfl, h2⟩
  ·refine tyAt_none rfl ?_
   simp [tyUpon, execOp, go_sem, Act.eval, Below.refl]
  ·have h5 : EV _ (fv 5) w1 := hp 5 (LC (by kernel_rfl))
   refine tyAt_none rfl ?_
   have hc := (hL0.call (below_drew hb1)).fc
   simp only [fcG, cellsF, neK, and_true, ne_eq, Nat.zero_add, Nat.reduceAdd] at hc
   simp [tyUpon, execOp, go_sem, Act.eval, hc, h5, Below.refl]
  ·have h6 : EV _ (fv 6) w1 := hp 6 (LC (by kernel_rfl))
   refine tyAt_none rfl ?_
   refine ty_call (f := 53) (args := #[.agg #[.bool sx, .slice ax nx cx]]) (by simp [execOp, go_sem, Act.eval, h6]) ?_
   exact (ZR.out w1 (hKx.out.at ((hL0.call (below_drew hb1)).bl) kKx)).mono fun e w2 ⟨pv, h1, h2, h3⟩ => ⟨pv, h1, h2, h3⟩
  ·refine tyAt_none rfl ?_
   simp [tyUpon, execOp, go_sem, Act.eval, Below.refl]
  ·have h7 : PZ _ (fv 7) w1 := hp 7 (LC (by kernel_rfl))
   have h8 : EV _ (fv 8) w1 := hp 8 (LC (by kernel_rfl))
   refine tyAt_none rfl ?_
   refine ty_call (f := 52) (args := #[fv 7, .int .u32 p]) (by simp [execOp, go_sem, Act.eval, h8]) ?_
   exact (RI.out (fv 7) w1 h7).mono fun e w2 ⟨h1, h2⟩ => ⟨_, h1, rfl, h2⟩
  ·have h4 : EV _ (fv 4) w1 := hp 4 (LC (by kernel_rfl))
   have h9 : EV _ (fv 9) w1 := hp 9 (LC (by kernel_rfl))
   refine tyAt_none rfl ?_
   simp [tyUpon, execOp, go_sem, Act.eval, h4, h9, Below.refl]
  ·have h10 : EV _ (fv 10) w1 := hp 10 (LC (by kernel_rfl))
   refine tyAt_none rfl ?_
   simp [tyUpon, execOp, go_sem, Act.eval, h10, Below.refl]
  ·have h11 : EV _ (fv 11) w1 := hp 11 (LC (by kernel_rfl))
   refine tyAt_yes (by simp [Region.wanted, yielded, h11]) ?_
   simp [tyUpon, execOp, go_sem, Act.eval, h11, Below.refl]
  ·have h11 : EV _ (fv 11) w1 := hp 11 (LC (by kernel_rfl))
   refine tyAt_yes (by simp [Region.wanted, yielded, h11]) ?_
   simp [tyUpon, execOp, go_sem, Act.eval, h11, Below.refl]
  ·have h12 : EV _ (fv 12) w1 := hp 12 (LC (by kernel_rfl))
   have h13 : EV _ (fv 13) w1 := hp 13 (LC (by kernel_rfl))
   have h11 : EV _ (fv 11) w1 := hp 11 (LC (by kernel_rfl))
   refine tyAt_yes (by simp [Region.wanted, yielded, h12, h13, h11]) ?_
   simp [tyUpon, execOp, go_sem, Act.eval, h12, h13, h11, Below.refl]
  ·have h11 : EV _ (fv 11) w1 := hp 11 (LC (by kernel_rfl))
   have h14 : EV _ (fv 14) w1 := hp 14 (LC (by kernel_rfl))
   refine tyAt_none rfl ?_
   simp [tyUpon, execOp, go_sem, Act.eval, h11, h14, Below.refl]
  ·have h15 : EV _ (fv 15) w1 := hp 15 (LC (by kernel_rfl))
   refine tyAt_none rfl ?_
   simp [tyUpon, execOp, go_sem, Act.eval, h15, Below.refl]
  ·have h16 : EV _ (fv 16) w1 := hp 16 (LC (by kernel_rfl))
   refine tyAt_yes (by simp [Region.wanted, yielded, h16]) ?_
   simp [tyUpon, execOp, go_sem, Act.eval, h16, Below.refl]
  ·have h16 : EV _ (fv 16) w1 := hp 16 (LC (by kernel_rfl))
   refine tyAt_yes (by simp [Region.wanted, yielded, h16]) ?_
   simp [tyUpon, execOp, go_sem, Act.eval, h16, Below.refl]
  ·have h17 : EV _ (fv 17) w1 := hp 17 (LC (by kernel_rfl))
   have h18 : EV _ (fv 18) w1 := hp 18 (LC (by kernel_rfl))
   have h16 : EV _ (fv 16) w1 := hp 16 (LC (by kernel_rfl))
   refine tyAt_yes (by simp [Region.wanted, yielded, h17, h18, h16]) ?_
   simp [tyUpon, execOp, go_sem, Act.eval, h17, h18, h16, Below.refl]
  ·have h16 : EV _ (fv 16) w1 := hp 16 (LC (by kernel_rfl))
   have h19 : EV _ (fv 19) w1 := hp 19 (LC (by kernel_rfl))
   refine tyAt_none rfl ?_
   simp [tyUpon, execOp, go_sem, Act.eval, h16, h19, Below.refl]
  ·have h20 : EV _ (fv 20) w1 := hp 20 (LC (by kernel_rfl))
   refine tyAt_none rfl ?_
   simp [tyUpon, execOp, go_sem, Act.eval, h20, Below.refl]
  ·have h21 : EV _ (fv 21) w1 := hp 21 (LC (by kernel_rfl))
   refine tyAt_yes (by simp [Region.wanted, yielded, h21]) ?_
   refine ty_call (f := 46) (args := #[]) (by simp [execOp, go_sem, Act.eval, h21]) ?_
   exact (HW.out w1 (hKT.out.at ((hL0.call (below_drew hb1)).bl) kKT)).mono fun e w2 ⟨h1, h2⟩ => ⟨_, h1, rfl, h2⟩
  ·have h21 : EV _ (fv 21) w1 := hp 21 (LC (by kernel_rfl))
   have h22 : EV _ (fv 22) w1 := hp 22 (LC (by kernel_rfl))
   refine tyAt_none rfl ?_
   simp [tyUpon, execOp, go_sem, Act.eval, h21, h22, Below.refl]
  ·have h23 : EV _ (fv 23) w1 := hp 23 (LC (by kernel_rfl))
   refine tyAt_none rfl ?_
   simp [tyUpon, execOp, go_sem, Act.eval, h23, Below.refl]
 ·intro fv x6 hb1 hv
  have e0 : fv 0 = _ := hv 0 (by omega)
  have e1 : fv 1 = _ := hv 1 (by omega)
  have e2 : fv 2 = _ := hv 2 (by omega)
  have e3 : fv 3 = _ := hv 3 (by omega)
  have e4 : fv 4 = _ := hv 4 (by omega)
  have e5 : fv 5 = _ := hv 5 (by omega)
  have e6 : fv 6 = _ := hv 6 (by omega)
  have q7 : RZ x6 (fv 7) m := hv 7 (by omega)
  obtain ⟨g3, d3, e7⟩ := rz_form q7
  rw [e7] at q7
  have e8 : fv 8 = _ := hv 8 (by omega)
  have e9 : fv 9 = _ := hv 9 (by omega)
  have e10 : fv 10 = _ := hv 10 (by omega)
  have e11 : fv 11 = _ := hv 11 (by omega)
  have e12 : fv 12 = _ := hv 12 (by omega)
  have e13 : fv 13 = _ := hv 13 (by omega)
  have e14 : fv 14 = _ := hv 14 (by omega)
  have e15 : fv 15 = _ := hv 15 (by omega)
  have e16 : fv 16 = _ := hv 16 (by omega)
  have e17 : fv 17 = _ := hv 17 (by omega)
  have e18 : fv 18 = _ := hv 18 (by omega)
  have e19 : fv 19 = _ := hv 19 (by omega)
  have e20 : fv 20 = _ := hv 20 (by omega)
  have e21 : fv 21 = _ := hv 21 (by omega)
  have e22 : fv 22 = _ := hv 22 (by omega)
  have e23 : fv 23 = _ := hv 23 (by omega)
  have e24 : fv 24 = _ := hv 24 (by omega)
  simp only [List.take_succ_cons, List.take_zero, putsV, Act.put, List.setIfInBounds_toArray, List.set_cons_succ, List.set_cons_zero, List.drop_succ_cons, List.drop_zero, Nat.zero_add, Nat.reduceAdd, e0, e1, e2, e3, e4, e5, e6, e7, e8, e9, e10, e11, e12, e13, e14, e15, e16, e17, e18, e19, e20, e21, e22, e23, e24]
  replace hL0 := hL0.call (below_drew hb1)
  replace hS := hS.call (below_drew hb1)
  replace hS := hS.cons (rz_rn q7)
  clear e0 e1 e2 e3 e4 e5 e6 e7 e8 e9 e10 e11 e12 e13 e14 e15 e16 e17 e18 e19 e20 e21 e22 e23 e24 hb1 hv q7 fv
  go_wp2_with fail
  exact bodyPost_ret (v := .bool true) (by simp [results, Tryz.results13, go_sem]) rfl ⟨rfl, hL0.bl⟩
end Go.Proofs.YtdkjckiialnpnaaGreatDoor
namespace Go.Proofs.YtdkjckiialnpnaaGreatDoor
open Go.RowKit Go.Proofs.YtdkjckiialnpnaaGreatDoor.Rx
attribute [local irreducible] lo hs sm s64 c64 d64 b64 mh ml pd pc qd qc val hiB str cmpI srD lz nb isq zl zh zs dval tln
set_option maxHeartbeats 4000000 in
set_option maxRecDepth 100000 in
theorem rzcmp_w (x y d c : Int) (HB : ∀ (p0 p1 : Value) (w : World), RZ w p0 x → RZ w p1 y → Calls Tryz.prog 193 #[p0, p1] w fun e w' => ∃ pv, e = .returned pv ∧ RZ w' pv d ∧ Below w.heap.size w w') (HS : ∀ (p0 : Value) (w : World), RZ w p0 d → Calls Tryz.prog 192 #[p0] w fun e w' => e = .returned (.int .i64 c) ∧ Below w.heap.size w w') (p0 : Value) (p1 : Value) (w : World) (r0 : RZ w p0 x) (r1 : RZ w p1 y) :
  Calls Tryz.prog 188 #[p0, p1] w fun e w' => e = .returned (.int .i64 c) ∧ Below w.heap.size w w' := by
 obtain ⟨a0, c0, rfl⟩ := rz_form r0
 have f0 := Lib.hid (rz_rn r0)
 clear r0
 obtain ⟨a1, c1, rfl⟩ := rz_form r1
 have f1 := Lib.hid (rz_rn r1)
 clear r1
 replace HB := Lib.hid HB
 replace HS := Lib.hid HS
 have hL0 : GL w w [] := GL.start w
 have hS : SS w [] := SS.nil w
 replace hS := ((hS.new (.cells #[.bool (zs x), .slice a0 (tln x.natAbs) c0] 40)).new (.cells #[.bool (zs y), .slice a1 (tln y.natAbs) c1] 40))
 replace hL0 := ((hL0.new rfl [.bool (zs x), .slice a0 (tln x.natAbs) c0] 40).new (K := w.heap.size + 1) (szA _ _) [.bool (zs y), .slice a1 (tln y.natAbs) c1] 40)
 generalize hweq : ((w.alloc (.cells #[.bool (zs x), .slice a0 (tln x.natAbs) c0] 40)).alloc (.cells #[.bool (zs y), .slice a1 (tln y.natAbs) c1] 40)) = x1 at hL0 hS
 go_enter Tryz.func188, Tryz.ntmps188
 have hN0 := cells_of _ 0 [] rfl (hL0.get _ _ List.mem_cons_self)
 simp only [cellsF, and_true, Nat.zero_add, Nat.reduceAdd] at hN0
 have hN1 := cells_of _ 0 [] rfl (hL0.get _ _ (List.mem_cons_of_mem _ List.mem_cons_self))
 simp only [cellsF, and_true, Nat.zero_add, Nat.reduceAdd] at hN1
 go_wp2_with fail
 clear hN0 hN1
 with_reducible refine Calls.mono (HB.out (.agg #[.bool (zs x), .slice a0 (tln x.natAbs) c0]) (.agg #[.bool (zs y), .slice a1 (tln y.natAbs) c1]) _ (rz_of (Sl.below f0.out hL0.bl)) (rz_of (Sl.below f1.out hL0.bl))) ?_
 rintro e x2 ⟨v0, rfl, q0, hb⟩
 replace hL0 := hL0.call hb
 replace hS := hS.call hb
 clear hb hweq
 obtain ⟨g1, d1, rfl⟩ := rz_form q0
 replace hS := hS.cons (rz_rn q0)
 clear q0
 go_wp2_with fail
 with_reducible refine Calls.mono (HS.out (.agg #[.bool (zs d), .slice g1 (tln d.natAbs) d1]) _ (rz_of (hS.get List.mem_cons_self))) ?_
 rintro e x3 ⟨rfl, hb⟩
 replace hL0 := hL0.call hb
 replace hS := hS.call hb
 clear hb
 go_wp2_with fail
 exact bodyPost_ret (v := .int .i64 c) (by simp [results, Tryz.results188, go_sem]) rfl ⟨rfl, hL0.bl⟩
set_option maxHeartbeats 4000000 in
set_option maxRecDepth 100000 in
theorem rzgcd_zero (x y g t k s : Int) (HY : ∀ (p0 : Value) (w : World), RZ w p0 y → Calls Tryz.prog 192 #[p0] w fun e w' => e = .returned (.int .i64 0) ∧ Below w.heap.size w w') (HX : ∀ (p0 : Value) (w : World), RZ w p0 x → Calls Tryz.prog 192 #[p0] w fun e w' => e = .returned (.int .i64 s) ∧ Below w.heap.size w w') (HF : ∀ (p1 : Value) (w : World), Rn w p1 x.natAbs → Calls Tryz.prog 125 #[.bool false, p1] w fun e w' => ∃ pv, e = .returned pv ∧ RZ w' pv g ∧ Below w.heap.size w w') (HO : ∀ (w : World), Calls Tryz.prog 129 #[.int .i64 s] w fun e w' => ∃ pv, e = .returned pv ∧ RZ w' pv t ∧ Below w.heap.size w w') (HZ : ∀ (w : World), Calls Tryz.prog 129 #[.int .i64 0] w fun e w' => ∃ pv, e = .returned pv ∧ RZ w' pv k ∧ Below w.heap.size w w') (p0 : Value) (p1 : Value) (w : World) (r0 : RZ w p0 x) (r1 : RZ w p1 y) :
  Calls Tryz.prog 187 #[p0, p1] w fun e w' => ∃ v0 v1 v2, e = .returned (.tuple #[v0, v1, v2]) ∧ RZ w' v0 g ∧ RZ w' v1 t ∧ RZ w' v2 k ∧ Below w.heap.size w w' := by
 obtain ⟨a0, c0, rfl⟩ := rz_form r0
 have f0 := Lib.hid (rz_rn r0)
 clear r0
 obtain ⟨a1, c1, rfl⟩ := rz_form r1
 have f1 := Lib.hid (rz_rn r1)
 clear r1
 replace HY := Lib.hid HY
 replace HX := Lib.hid HX
 replace HF := Lib.hid HF
 replace HO := Lib.hid HO
 replace HZ := Lib.hid HZ
 have hL0 : GL w w [] := GL.start w
 have hS : SS w [] := SS.nil w
 replace hS := (((((hS.new (.cells #[.bool (zs x), .slice a0 (tln x.natAbs) c0] 40)).new (.cells #[.bool (zs y), .slice a1 (tln y.natAbs) c1] 40)).new (.cells #[.bool false, .slice none 0 0] 40)).new (.cells #[.bool false, .slice none 0 0] 40)).new (.cells #[.bool false, .slice none 0 0] 40))
 replace hL0 := (((((hL0.new rfl [.bool (zs x), .slice a0 (tln x.natAbs) c0] 40).new (K := w.heap.size + 1) (szA _ _) [.bool (zs y), .slice a1 (tln y.natAbs) c1] 40).new (K := w.heap.size + 1 + 1) (by simp only [World.size_alloc]) [.bool false, .slice none 0 0] 40).new (K := w.heap.size + 1 + 1 + 1) (by simp only [World.size_alloc]) [.bool false, .slice none 0 0] 40).new (K := w.heap.size + 1 + 1 + 1 + 1) (by simp only [World.size_alloc]) [.bool false, .slice none 0 0] 40)
 generalize hweq : (((((w.alloc (.cells #[.bool (zs x), .slice a0 (tln x.natAbs) c0] 40)).alloc (.cells #[.bool (zs y), .slice a1 (tln y.natAbs) c1] 40)).alloc (.cells #[.bool false, .slice none 0 0] 40)).alloc (.cells #[.bool false, .slice none 0 0] 40)).alloc (.cells #[.bool false, .slice none 0 0] 40)) = x1 at hL0 hS
 go_enter Tryz.func187, Tryz.ntmps187
 have hN0 := cells_of _ 0 [] rfl (hL0.get _ _ (List.mem_cons_of_mem _ (List.mem_cons_of_mem _ (List.mem_cons_of_mem _ List.mem_cons_self))))
 simp only [cellsF, and_true, Nat.zero_add, Nat.reduceAdd] at hN0
 go_wp2_with fail
 clear hN0
 with_reducible refine Calls.mono (HY.out (.agg #[.bool (zs y), .slice a1 (tln y.natAbs) c1]) _ (rz_of (Sl.below f1.out hL0.bl))) ?_
 rintro e x2 ⟨rfl, hb⟩
 replace hL0 := hL0.call hb
 replace hS := hS.call hb
 clear hb hweq
 go_upto_region 2 with fail
 refine region_tl 7 [EV (.pointer (some ⟨w.heap.size, 1, none⟩)), EV (.slice a0 (tln x.natAbs) c0), PZ g, EV (.agg #[.bool (zs x), .slice a0 (tln x.natAbs) c0]), EV (.int .i64 s), PZ t, PZ k] (by kernel_rfl) (by kernel_rfl) ?_ ?_ ?_
 ·exact stays_cons (stays_eq _) (stays_cons (stays_eq _) (stays_cons (stays_rz _) (stays_cons (stays_eq _) (stays_cons (stays_eq _) (stays_cons (stays_rz _) (stays_cons (stays_rz _) (stays_nil)))))))
 ·simp only [List.take_succ_cons, List.take_zero, hopsR, and_true]
  refine ⟨?_, ?_, ?_, ?_, ?_, ?_, ?_⟩ <;> intro fv w1 hb1 hp
  all_goals (simp only [putsV, Act.put, List.setIfInBounds_toArray, List.set_cons_succ, List.set_cons_zero, Nat.zero_add, Nat.reduceAdd])
  ·refine tyAt_none rfl ?_
   simp [tyUpon, execOp, go_sem, Act.eval, Below.refl]
  ·have h0 : EV _ (fv 0) w1 := hp 0 (LC (by kernel_rfl))
   refine tyAt_none rfl ?_
   have hc := (hL0.call (below_drew hb1)).fc
   simp only [fcG, cellsF, neK, and_true, ne_eq, Nat.zero_add, Nat.reduceAdd] at hc
   simp [tyUpon, execOp, go_sem, Act.eval, hc, h0, Below.refl]
  ·have h1 : EV _ (fv 1) w1 := hp 1 (LC (by kernel_rfl))
   refine tyAt_none rfl ?_
   refine ty_call (f := 125) (args := #[.bool false, .slice a0 (tln x.natAbs) c0]) (by simp [execOp, go_sem, Act.eval, h1]) ?_
   exact (HF.out (.slice a0 (tln x.natAbs) c0) w1 (Sl.below (Sl.below f0.out hL0.bl) (below_drew hb1))).mono fun e w2 ⟨pv, h1, h2, h3⟩ => ⟨pv, h1, h2, h3⟩
  ·refine tyAt_none rfl ?_
   have hc := (hL0.call (below_drew hb1)).fc
   simp only [fcG, cellsF, neK, and_true, ne_eq, Nat.zero_add, Nat.reduceAdd] at hc
   simp [tyUpon, execOp, go_sem, Act.eval, hc, Below.refl]
  ·have h3 : EV _ (fv 3) w1 := hp 3 (LC (by kernel_rfl))
   refine tyAt_none rfl ?_
   refine ty_call (f := 192) (args := #[.agg #[.bool (zs x), .slice a0 (tln x.natAbs) c0]]) (by simp [execOp, go_sem, Act.eval, h3]) ?_
   exact (HX.out (.agg #[.bool (zs x), .slice a0 (tln x.natAbs) c0]) w1 (rz_of (Sl.below (Sl.below f0.out hL0.bl) (below_drew hb1)))).mono fun e w2 ⟨h1, h2⟩ => ⟨_, h1, rfl, h2⟩
  ·have h4 : EV _ (fv 4) w1 := hp 4 (LC (by kernel_rfl))
   refine tyAt_none rfl ?_
   refine ty_call (f := 129) (args := #[.int .i64 s]) (by simp [execOp, go_sem, Act.eval, h4]) ?_
   exact (HO.out w1).mono fun e w2 ⟨pv, h1, h2, h3⟩ => ⟨pv, h1, h2, h3⟩
  ·refine tyAt_none rfl ?_
   refine ty_call (f := 129) (args := #[.int .i64 0]) (by simp [execOp, go_sem, Act.eval]) ?_
   exact (HZ.out w1).mono fun e w2 ⟨pv, h1, h2, h3⟩ => ⟨pv, h1, h2, h3⟩
 ·intro fv x3 hb1 hv
  have e0 : fv 0 = _ := hv 0 (by omega)
  have e1 : fv 1 = _ := hv 1 (by omega)
  have q2 : RZ x3 (fv 2) g := hv 2 (by omega)
  obtain ⟨g1, d1, e2⟩ := rz_form q2
  rw [e2] at q2
  have e3 : fv 3 = _ := hv 3 (by omega)
  have e4 : fv 4 = _ := hv 4 (by omega)
  have q5 : RZ x3 (fv 5) t := hv 5 (by omega)
  obtain ⟨g2, d2, e5⟩ := rz_form q5
  rw [e5] at q5
  have q6 : RZ x3 (fv 6) k := hv 6 (by omega)
  obtain ⟨g3, d3, e6⟩ := rz_form q6
  rw [e6] at q6
  simp only [List.take_succ_cons, List.take_zero, putsV, Act.put, List.setIfInBounds_toArray, List.set_cons_succ, List.set_cons_zero, List.drop_succ_cons, List.drop_zero, Nat.zero_add, Nat.reduceAdd, e0, e1, e2, e3, e4, e5, e6]
  replace hL0 := hL0.call (below_drew hb1)
  replace hS := hS.call (below_drew hb1)
  replace hS := hS.cons (rz_rn q2)
  replace hS := hS.cons (rz_rn q5)
  replace hS := hS.cons (rz_rn q6)
  clear e0 e1 e2 e3 e4 e5 e6 hb1 hv q2 q5 q6 fv
  have hS1 := hS.put (((Upd.refl (w.heap.size + 1 + 1) x3).setCell 0 (.bool (zs g))).setCell 1 (.slice g1 (tln g.natAbs) d1)) (hL0.get _ _ (List.mem_cons_of_mem _ (List.mem_cons_of_mem _ List.mem_cons_self))) (by intro v hv n; simp only [List.mem_cons, List.not_mem_nil, or_false] at hv; rcases hv with rfl | rfl <;> simp)
  have hA := hL0.fc
  simp only [fcG, cellsF, neK, and_true, ne_eq, Nat.zero_add, Nat.reduceAdd] at hA
  have hP := hL0.put 2 (w.heap.size + 1 + 1) _ rfl [.bool (zs g), .slice g1 (tln g.natAbs) d1] rfl
  simp only [setAll, List.set_cons_zero, List.set_cons_succ] at hP
  generalize hput1 : ((x3.setCell ⟨w.heap.size + 1 + 1, 0, none⟩ (.bool (zs g))).setCell ⟨w.heap.size + 1 + 1, 1, none⟩ (.slice g1 (tln g.natAbs) d1)) = x4 at hP hS1
  have hB1 := hP.fc
  simp only [fcG, cellsF, neK, and_true, ne_eq, Nat.zero_add, Nat.reduceAdd] at hB1
  replace hL0 := hP
  replace hS := hS1
  clear hS1
  have hS1 := hS.put (((Upd.refl (w.heap.size + 1 + 1 + 1) x4).setCell 0 (.bool (zs t))).setCell 1 (.slice g2 (tln t.natAbs) d2)) (hL0.get _ _ (List.mem_cons_of_mem _ List.mem_cons_self)) (by intro v hv n; simp only [List.mem_cons, List.not_mem_nil, or_false] at hv; rcases hv with rfl | rfl <;> simp)
  have hP := hL0.put 1 (w.heap.size + 1 + 1 + 1) _ rfl [.bool (zs t), .slice g2 (tln t.natAbs) d2] rfl
  simp only [setAll, List.set_cons_zero, List.set_cons_succ] at hP
  generalize hput2 : ((x4.setCell ⟨w.heap.size + 1 + 1 + 1, 0, none⟩ (.bool (zs t))).setCell ⟨w.heap.size + 1 + 1 + 1, 1, none⟩ (.slice g2 (tln t.natAbs) d2)) = x5 at hP hS1
  have hB2 := hP.fc
  simp only [fcG, cellsF, neK, and_true, ne_eq, Nat.zero_add, Nat.reduceAdd] at hB2
  replace hL0 := hP
  replace hS := hS1
  clear hS1
  have hS1 := hS.put (((Upd.refl (w.heap.size + 1 + 1 + 1 + 1) x5).setCell 0 (.bool (zs k))).setCell 1 (.slice g3 (tln k.natAbs) d3)) (hL0.get _ _ List.mem_cons_self) (by intro v hv n; simp only [List.mem_cons, List.not_mem_nil, or_false] at hv; rcases hv with rfl | rfl <;> simp)
  have hP := hL0.put 0 (w.heap.size + 1 + 1 + 1 + 1) _ rfl [.bool (zs k), .slice g3 (tln k.natAbs) d3] rfl
  simp only [setAll, List.set_cons_zero, List.set_cons_succ] at hP
  generalize hput3 : ((x5.setCell ⟨w.heap.size + 1 + 1 + 1 + 1, 0, none⟩ (.bool (zs k))).setCell ⟨w.heap.size + 1 + 1 + 1 + 1, 1, none⟩ (.slice g3 (tln k.natAbs) d3)) = x6 at hP hS1
  have hB3 := hP.fc
  simp only [fcG, cellsF, neK, and_true, ne_eq, Nat.zero_add, Nat.reduceAdd] at hB3
  replace hL0 := hP
  replace hS := hS1
  clear hS1
  go_wp2_with fail
  exact bodyPost_ret (v := .tuple #[.agg #[.bool (zs g), .slice g1 (tln g.natAbs) d1], .agg #[.bool (zs t), .slice g2 (tln t.natAbs) d2], .agg #[.bool (zs k), .slice g3 (tln k.natAbs) d3]]) (by simp [results, Tryz.results187, go_sem, hB3]) rfl ⟨_, _, _, rfl, (rz_of (hS.get (List.mem_cons_of_mem _ (List.mem_cons_of_mem _ List.mem_cons_self)))), (rz_of (hS.get (List.mem_cons_of_mem _ List.mem_cons_self))), (rz_of (hS.get List.mem_cons_self)), hL0.bl⟩
set_option maxHeartbeats 4000000 in
set_option maxRecDepth 100000 in
theorem rzgcd_step (x y r q m g u v s p : Int) (HY : ∀ (p0 : Value) (w : World), RZ w p0 y → Calls Tryz.prog 192 #[p0] w fun e w' => e = .returned (.int .i64 r) ∧ Below w.heap.size w w') (HD : ∀ (p0 p1 : Value) (w : World), RZ w p0 x → RZ w p1 y → Calls Tryz.prog 133 #[p0, p1] w fun e w' => ∃ v0 v1, e = .returned (.tuple #[v0, v1]) ∧ RZ w' v0 q ∧ RZ w' v1 m ∧ Below w.heap.size w w') (HG : ∀ (p0 p1 : Value) (w : World), RZ w p0 y → RZ w p1 m → Calls Tryz.prog 187 #[p0, p1] w fun e w' => ∃ v0 v1 v2, e = .returned (.tuple #[v0, v1, v2]) ∧ RZ w' v0 g ∧ RZ w' v1 u ∧ RZ w' v2 v ∧ Below w.heap.size w w') (HM : ∀ (p0 p1 : Value) (w : World), RZ w p0 q → RZ w p1 v → Calls Tryz.prog 178 #[p0, p1] w fun e w' => ∃ pv, e = .returned pv ∧ RZ w' pv p ∧ Below w.heap.size w w') (HB : ∀ (p0 p1 : Value) (w : World), RZ w p0 u → RZ w p1 p → Calls Tryz.prog 193 #[p0, p1] w fun e w' => ∃ pv, e = .returned pv ∧ RZ w' pv s ∧ Below w.heap.size w w') (h0 : (r == 0) = false) (p0 : Value) (p1 : Value) (w : World) (r0 : RZ w p0 x) (r1 : RZ w p1 y) :
  Calls Tryz.prog 187 #[p0, p1] w fun e w' => ∃ v0 v1 v2, e = .returned (.tuple #[v0, v1, v2]) ∧ RZ w' v0 g ∧ RZ w' v1 v ∧ RZ w' v2 s ∧ Below w.heap.size w w' := by
 obtain ⟨a0, c0, rfl⟩ := rz_form r0
 have f0 := Lib.hid (rz_rn r0)
 clear r0
 obtain ⟨a1, c1, rfl⟩ := rz_form r1
 have f1 := Lib.hid (rz_rn r1)
 clear r1
 replace HY := Lib.hid HY
 replace HD := Lib.hid HD
 replace HG := Lib.hid HG
 replace HM := Lib.hid HM
 replace HB := Lib.hid HB
 have hL0 : GL w w [] := GL.start w
 have hS : SS w [] := SS.nil w
 replace hS := (((((hS.new (.cells #[.bool (zs x), .slice a0 (tln x.natAbs) c0] 40)).new (.cells #[.bool (zs y), .slice a1 (tln y.natAbs) c1] 40)).new (.cells #[.bool false, .slice none 0 0] 40)).new (.cells #[.bool false, .slice none 0 0] 40)).new (.cells #[.bool false, .slice none 0 0] 40))
 replace hL0 := (((((hL0.new rfl [.bool (zs x), .slice a0 (tln x.natAbs) c0] 40).new (K := w.heap.size + 1) (szA _ _) [.bool (zs y), .slice a1 (tln y.natAbs) c1] 40).new (K := w.heap.size + 1 + 1) (by simp only [World.size_alloc]) [.bool false, .slice none 0 0] 40).new (K := w.heap.size + 1 + 1 + 1) (by simp only [World.size_alloc]) [.bool false, .slice none 0 0] 40).new (K := w.heap.size + 1 + 1 + 1 + 1) (by simp only [World.size_alloc]) [.bool false, .slice none 0 0] 40)
 generalize hweq : (((((w.alloc (.cells #[.bool (zs x), .slice a0 (tln x.natAbs) c0] 40)).alloc (.cells #[.bool (zs y), .slice a1 (tln y.natAbs) c1] 40)).alloc (.cells #[.bool false, .slice none 0 0] 40)).alloc (.cells #[.bool false, .slice none 0 0] 40)).alloc (.cells #[.bool false, .slice none 0 0] 40)) = x1 at hL0 hS
 go_enter Tryz.func187, Tryz.ntmps187
 have hN0 := cells_of _ 0 [] rfl (hL0.get _ _ (List.mem_cons_of_mem _ (List.mem_cons_of_mem _ (List.mem_cons_of_mem _ List.mem_cons_self))))
 simp only [cellsF, and_true, Nat.zero_add, Nat.reduceAdd] at hN0
 go_wp2_with fail
 clear hN0
 with_reducible refine Calls.mono (HY.out (.agg #[.bool (zs y), .slice a1 (tln y.natAbs) c1]) _ (rz_of (Sl.below f1.out hL0.bl))) ?_
 rintro e x2 ⟨rfl, hb⟩
 replace hL0 := hL0.call hb
 replace hS := hS.call hb
 clear hb hweq
 have hN0 := cells_of _ 0 [] rfl (hL0.get _ _ (List.mem_cons_of_mem _ (List.mem_cons_of_mem _ (List.mem_cons_of_mem _ List.mem_cons_self))))
 simp only [cellsF, and_true, Nat.zero_add, Nat.reduceAdd] at hN0
 have hN1 := cells_of _ 0 [] rfl (hL0.get _ _ (List.mem_cons_of_mem _ (List.mem_cons_of_mem _ (List.mem_cons_of_mem _ (List.mem_cons_of_mem _ List.mem_cons_self)))))
 simp only [cellsF, and_true, Nat.zero_add, Nat.reduceAdd] at hN1
 go_wp2_with fail
 clear hN0 hN1
 with_reducible refine Calls.mono (HD.out (.agg #[.bool (zs x), .slice a0 (tln x.natAbs) c0]) (.agg #[.bool (zs y), .slice a1 (tln y.natAbs) c1]) _ (rz_of (Sl.below f0.out hL0.bl)) (rz_of (Sl.below f1.out hL0.bl))) ?_
 rintro e x3 ⟨v0, v1, rfl, q0, q1, hb⟩
 replace hL0 := hL0.call hb
 replace hS := hS.call hb
 clear hb
 obtain ⟨g1, d1, rfl⟩ := rz_form q0
 replace hS := hS.cons (rz_rn q0)
 clear q0
 obtain ⟨g2, d2, rfl⟩ := rz_form q1
 replace hS := hS.cons (rz_rn q1)
 clear q1
 replace hS := ((hS.new (.cells #[.bool (zs q), .slice g1 (tln q.natAbs) d1] 40)).new (.cells #[.bool (zs m), .slice g2 (tln m.natAbs) d2] 40))
 replace hL0 := ((hL0.new rfl [.bool (zs q), .slice g1 (tln q.natAbs) d1] 40).new (K := x3.heap.size + 1) (szA _ _) [.bool (zs m), .slice g2 (tln m.natAbs) d2] 40)
 generalize hweq : ((x3.alloc (.cells #[.bool (zs q), .slice g1 (tln q.natAbs) d1] 40)).alloc (.cells #[.bool (zs m), .slice g2 (tln m.natAbs) d2] 40)) = x4 at hL0 hS
 have hN0 := cells_of _ 0 [] rfl (hL0.get _ _ List.mem_cons_self)
 simp only [cellsF, and_true, Nat.zero_add, Nat.reduceAdd] at hN0
 have hN1 := cells_of _ 0 [] rfl (hL0.get _ _ (List.mem_cons_of_mem _ (List.mem_cons_of_mem _ (List.mem_cons_of_mem _ (List.mem_cons_of_mem _ (List.mem_cons_of_mem _ List.mem_cons_self))))))
 simp only [cellsF, and_true, Nat.zero_add, Nat.reduceAdd] at hN1
 go_wp2_with fail
 clear hN0 hN1
 with_reducible refine Calls.mono (HG.out (.agg #[.bool (zs y), .slice a1 (tln y.natAbs) c1]) (.agg #[.bool (zs m), .slice g2 (tln m.natAbs) d2]) _ (rz_of (Sl.below f1.out hL0.bl)) (rz_of (hS.get List.mem_cons_self))) ?_
 rintro e x5 ⟨v0, v1, v2, rfl, q0, q1, q2, hb⟩
 replace hL0 := hL0.call hb
 replace hS := hS.call hb
 clear hb hweq
 obtain ⟨g3, d3, rfl⟩ := rz_form q0
 replace hS := hS.cons (rz_rn q0)
 clear q0
 obtain ⟨g4, d4, rfl⟩ := rz_form q1
 replace hS := hS.cons (rz_rn q1)
 clear q1
 obtain ⟨g5, d5, rfl⟩ := rz_form q2
 replace hS := hS.cons (rz_rn q2)
 clear q2
 replace hS := (((hS.new (.cells #[.bool (zs g), .slice g3 (tln g.natAbs) d3] 40)).new (.cells #[.bool (zs u), .slice g4 (tln u.natAbs) d4] 40)).new (.cells #[.bool (zs v), .slice g5 (tln v.natAbs) d5] 40))
 replace hL0 := (((hL0.new rfl [.bool (zs g), .slice g3 (tln g.natAbs) d3] 40).new (K := x5.heap.size + 1) (szA _ _) [.bool (zs u), .slice g4 (tln u.natAbs) d4] 40).new (K := x5.heap.size + 1 + 1) (by simp only [World.size_alloc]) [.bool (zs v), .slice g5 (tln v.natAbs) d5] 40)
 generalize hweq : (((x5.alloc (.cells #[.bool (zs g), .slice g3 (tln g.natAbs) d3] 40)).alloc (.cells #[.bool (zs u), .slice g4 (tln u.natAbs) d4] 40)).alloc (.cells #[.bool (zs v), .slice g5 (tln v.natAbs) d5] 40)) = x6 at hL0 hS
 go_upto_region 5 with fail
 clear hweq
 refine region_tbl 7 1 [EV (.agg #[.bool (zs g), .slice g3 (tln g.natAbs) d3]), EV (.agg #[.bool (zs v), .slice g5 (tln v.natAbs) d5]), EV (.agg #[.bool (zs u), .slice g4 (tln u.natAbs) d4]), EV (.agg #[.bool (zs q), .slice g1 (tln q.natAbs) d1]), EV (.agg #[.bool (zs v), .slice g5 (tln v.natAbs) d5]), PZ p, PZ s] [] (by kernel_rfl) (by kernel_rfl) ?_ ?_ ?_ ?_ ?_ (by rfl) ?_
 ·exact stays_cons (stays_eq _) (stays_cons (stays_eq _) (stays_cons (stays_eq _) (stays_cons (stays_eq _) (stays_cons (stays_eq _) (stays_cons (stays_rz _) (stays_cons (stays_rz _) (stays_nil)))))))
 ·simp only [List.take_succ_cons, List.take_zero, hopsR, and_true]
  refine ⟨?_, ?_, ?_, ?_, ?_, ?_, ?_⟩ <;> intro fv w1 hb1 hp
  all_goals (simp only [putsV, Act.put, List.setIfInBounds_toArray, List.set_cons_succ, List.set_cons_zero, Nat.zero_add, Nat.reduceAdd])
  ·refine tyAt_none rfl ?_
   have hc := (hL0.call (below_drew hb1)).fc
   simp only [fcG, cellsF, neK, and_true, ne_eq, Nat.zero_add, Nat.reduceAdd] at hc
   simp [tyUpon, execOp, go_sem, Act.eval, hc, Below.refl]
  ·refine tyAt_none rfl ?_
   have hc := (hL0.call (below_drew hb1)).fc
   simp only [fcG, cellsF, neK, and_true, ne_eq, Nat.zero_add, Nat.reduceAdd] at hc
   simp [tyUpon, execOp, go_sem, Act.eval, hc, Below.refl]
  ·refine tyAt_none rfl ?_
   have hc := (hL0.call (below_drew hb1)).fc
   simp only [fcG, cellsF, neK, and_true, ne_eq, Nat.zero_add, Nat.reduceAdd] at hc
   simp [tyUpon, execOp, go_sem, Act.eval, hc, Below.refl]
  ·refine tyAt_none rfl ?_
   have hc := (hL0.call (below_drew hb1)).fc
   simp only [fcG, cellsF, neK, and_true, ne_eq, Nat.zero_add, Nat.reduceAdd] at hc
   simp [tyUpon, execOp, go_sem, Act.eval, hc, Below.refl]
  ·refine tyAt_none rfl ?_
   have hc := (hL0.call (below_drew hb1)).fc
   simp only [fcG, cellsF, neK, and_true, ne_eq, Nat.zero_add, Nat.reduceAdd] at hc
   simp [tyUpon, execOp, go_sem, Act.eval, hc, Below.refl]
  ·have h3 : EV _ (fv 3) w1 := hp 3 (LC (by kernel_rfl))
   have h4 : EV _ (fv 4) w1 := hp 4 (LC (by kernel_rfl))
   refine tyAt_none rfl ?_
   refine ty_call (f := 178) (args := #[.agg #[.bool (zs q), .slice g1 (tln q.natAbs) d1], .agg #[.bool (zs v), .slice g5 (tln v.natAbs) d5]]) (by simp [execOp, go_sem, Act.eval, h3, h4]) ?_
   exact (HM.out (.agg #[.bool (zs q), .slice g1 (tln q.natAbs) d1]) (.agg #[.bool (zs v), .slice g5 (tln v.natAbs) d5]) w1 (rz_of (Sl.below (hS.get (List.mem_cons_of_mem _ (List.mem_cons_of_mem _ (List.mem_cons_of_mem _ (List.mem_cons_of_mem _ List.mem_cons_self))))) (below_drew hb1))) (rz_of (Sl.below (hS.get List.mem_cons_self) (below_drew hb1)))).mono fun e w2 ⟨pv, h1, h2, h3⟩ => ⟨pv, h1, h2, h3⟩
  ·have h2 : EV _ (fv 2) w1 := hp 2 (LC (by kernel_rfl))
   have h5 : PZ _ (fv 5) w1 := hp 5 (LC (by kernel_rfl))
   refine tyAt_none rfl ?_
   refine ty_call (f := 193) (args := #[.agg #[.bool (zs u), .slice g4 (tln u.natAbs) d4], fv 5]) (by simp [execOp, go_sem, Act.eval, h2]) ?_
   exact (HB.out (.agg #[.bool (zs u), .slice g4 (tln u.natAbs) d4]) (fv 5) w1 (rz_of (Sl.below (hS.get (List.mem_cons_of_mem _ List.mem_cons_self)) (below_drew hb1))) h5).mono fun e w2 ⟨pv, h1, h2, h3⟩ => ⟨pv, h1, h2, h3⟩
 ·intro j hj; simp at hj
 ·trivial
 ·intro fv wl hb1 hv
  have e0 : fv 0 = .agg #[.bool (zs g), .slice g3 (tln g.natAbs) d3] := hv 0 (by omega) (by omega)
  have e2 : fv 2 = .agg #[.bool (zs u), .slice g4 (tln u.natAbs) d4] := hv 2 (by omega) (by omega)
  have e3 : fv 3 = .agg #[.bool (zs q), .slice g1 (tln q.natAbs) d1] := hv 3 (by omega) (by omega)
  have e4 : fv 4 = .agg #[.bool (zs v), .slice g5 (tln v.natAbs) d5] := hv 4 (by omega) (by omega)
  obtain ⟨lg5, ld5, e5⟩ := rz_form (show RZ wl (fv 5) p from hv 5 (by omega) (by omega))
  obtain ⟨lg6, ld6, e6⟩ := rz_form (show RZ wl (fv 6) s from hv 6 (by omega) (by omega))
  have hx0 := hL0
  replace hL0 := hL0.call (below_drew hb1)
  have hA := hL0.fc
  simp only [fcG, cellsF, neK, and_true, ne_eq, Nat.zero_add, Nat.reduceAdd] at hA
  have hP := hL0.put 7 (w.heap.size + 1 + 1) _ rfl [.bool (zs g), .slice g3 (tln g.natAbs) d3] rfl
  simp only [setAll, List.set_cons_zero, List.set_cons_succ] at hP
  have hB1 := hP.fc
  simp only [fcG, cellsF, neK, and_true, ne_eq, Nat.zero_add, Nat.reduceAdd] at hB1
  refine ⟨((wl.setCell ⟨w.heap.size + 1 + 1, 0, none⟩ (.bool (zs g))).setCell ⟨w.heap.size + 1 + 1, 1, none⟩ (.slice g3 (tln g.natAbs) d3)), .agg #[.bool (zs v), .slice g5 (tln v.natAbs) d5], fun o ho => ?_, fun o ho => ?_, ?_⟩
  ·obtain rfl := Option.some.inj ho
   simp [execOp, go_sem, Act.eval, putsV, Act.put, List.take_succ_cons, List.take_zero, List.setIfInBounds_toArray, List.set_cons_succ, List.set_cons_zero, Nat.zero_add, Nat.reduceAdd, hA, e0, e2, e3, e4, e5, e6]
  ·obtain rfl := Option.some.inj ho
   simp [execOp, go_sem, Act.eval, putsV, Act.put, List.take_succ_cons, List.take_zero, List.setIfInBounds_toArray, List.set_cons_succ, List.set_cons_zero, Nat.zero_add, Nat.reduceAdd, hB1, e0, e2, e3, e4, e5, e6]
  ·rfl
 ·intro fv x7 hb1 hv hne
  have e0 : fv 0 = _ := hv 0 (by omega)
  have e1 : fv 1 = _ := hv 1 (by omega)
  have e2 : fv 2 = _ := hv 2 (by omega)
  have e3 : fv 3 = _ := hv 3 (by omega)
  have e4 : fv 4 = _ := hv 4 (by omega)
  have q5 : RZ x7 (fv 5) p := hv 5 (by omega)
  obtain ⟨g6, d6, e5⟩ := rz_form q5
  rw [e5] at q5
  have q6 : RZ x7 (fv 6) s := hv 6 (by omega)
  obtain ⟨g7, d7, e6⟩ := rz_form q6
  rw [e6] at q6
  simp only [List.take_succ_cons, List.take_zero, putsV, Act.put, List.setIfInBounds_toArray, List.set_cons_succ, List.set_cons_zero, List.drop_succ_cons, List.drop_zero, Nat.zero_add, Nat.reduceAdd, e0, e1, e2, e3, e4, e5, e6]
  replace hL0 := hL0.call (below_drew hb1)
  replace hS := hS.call (below_drew hb1)
  replace hS := hS.cons (rz_rn q5)
  replace hS := hS.cons (rz_rn q6)
  clear e0 e1 e2 e3 e4 e5 e6 hb1 hv hne q5 q6 fv
  have hS1 := hS.put (((Upd.refl (w.heap.size + 1 + 1) x7).setCell 0 (.bool (zs g))).setCell 1 (.slice g3 (tln g.natAbs) d3)) (hL0.get _ _ (List.mem_cons_of_mem _ (List.mem_cons_of_mem _ (List.mem_cons_of_mem _ (List.mem_cons_of_mem _ (List.mem_cons_of_mem _ (List.mem_cons_of_mem _ (List.mem_cons_of_mem _ List.mem_cons_self)))))))) (by intro v hv n; simp only [List.mem_cons, List.not_mem_nil, or_false] at hv; rcases hv with rfl | rfl <;> simp)
  have hA := hL0.fc
  simp only [fcG, cellsF, neK, and_true, ne_eq, Nat.zero_add, Nat.reduceAdd] at hA
  have hP := hL0.put 7 (w.heap.size + 1 + 1) _ rfl [.bool (zs g), .slice g3 (tln g.natAbs) d3] rfl
  simp only [setAll, List.set_cons_zero, List.set_cons_succ] at hP
  generalize hput1 : ((x7.setCell ⟨w.heap.size + 1 + 1, 0, none⟩ (.bool (zs g))).setCell ⟨w.heap.size + 1 + 1, 1, none⟩ (.slice g3 (tln g.natAbs) d3)) = x8 at hP hS1
  have hB1 := hP.fc
  simp only [fcG, cellsF, neK, and_true, ne_eq, Nat.zero_add, Nat.reduceAdd] at hB1
  replace hL0 := hP
  replace hS := hS1
  clear hS1
  have hS1 := hS.put (((Upd.refl (w.heap.size + 1 + 1 + 1) x8).setCell 0 (.bool (zs v))).setCell 1 (.slice g5 (tln v.natAbs) d5)) (hL0.get _ _ (List.mem_cons_of_mem _ (List.mem_cons_of_mem _ (List.mem_cons_of_mem _ (List.mem_cons_of_mem _ (List.mem_cons_of_mem _ (List.mem_cons_of_mem _ List.mem_cons_self))))))) (by intro v hv n; simp only [List.mem_cons, List.not_mem_nil, or_false] at hv; rcases hv with rfl | rfl <;> simp)
  have hP := hL0.put 6 (w.heap.size + 1 + 1 + 1) _ rfl [.bool (zs v), .slice g5 (tln v.natAbs) d5] rfl
  simp only [setAll, List.set_cons_zero, List.set_cons_succ] at hP
  generalize hput2 : ((x8.setCell ⟨w.heap.size + 1 + 1 + 1, 0, none⟩ (.bool (zs v))).setCell ⟨w.heap.size + 1 + 1 + 1, 1, none⟩ (.slice g5 (tln v.natAbs) d5)) = x9 at hP hS1
  have hB2 := hP.fc
  simp only [fcG, cellsF, neK, and_true, ne_eq, Nat.zero_add, Nat.reduceAdd] at hB2
  replace hL0 := hP
  replace hS := hS1
  clear hS1
  have hS1 := hS.put (((Upd.refl (w.heap.size + 1 + 1 + 1 + 1) x9).setCell 0 (.bool (zs s))).setCell 1 (.slice g7 (tln s.natAbs) d7)) (hL0.get _ _ (List.mem_cons_of_mem _ (List.mem_cons_of_mem _ (List.mem_cons_of_mem _ (List.mem_cons_of_mem _ (List.mem_cons_of_mem _ List.mem_cons_self)))))) (by intro v hv n; simp only [List.mem_cons, List.not_mem_nil, or_false] at hv; rcases hv with rfl | rfl <;> simp)
  have hP := hL0.put 5 (w.heap.size + 1 + 1 + 1 + 1) _ rfl [.bool (zs s), .slice g7 (tln s.natAbs) d7] rfl
  simp only [setAll, List.set_cons_zero, List.set_cons_succ] at hP
  generalize hput3 : ((x9.setCell ⟨w.heap.size + 1 + 1 + 1 + 1, 0, none⟩ (.bool (zs s))).setCell ⟨w.heap.size + 1 + 1 + 1 + 1, 1, none⟩ (.slice g7 (tln s.natAbs) d7)) = x10 at hP hS1
  have hB3 := hP.fc
  simp only [fcG, cellsF, neK, and_true, ne_eq, Nat.zero_add, Nat.reduceAdd] at hB3
  replace hL0 := hP
  replace hS := hS1
  clear hS1
  go_wp2_with fail
  exact bodyPost_ret (v := .tuple #[.agg #[.bool (zs g), .slice g3 (tln g.natAbs) d3], .agg #[.bool (zs v), .slice g5 (tln v.natAbs) d5], .agg #[.bool (zs s), .slice g7 (tln s.natAbs) d7]]) (by simp [results, Tryz.results187, go_sem, hB3]) rfl ⟨_, _, _, rfl, (rz_of (hS.get (List.mem_cons_of_mem _ (List.mem_cons_of_mem _ (List.mem_cons_of_mem _ (List.mem_cons_of_mem _ List.mem_cons_self)))))), (rz_of (hS.get (List.mem_cons_of_mem _ (List.mem_cons_of_mem _ List.mem_cons_self)))), (rz_of (hS.get List.mem_cons_self)), hL0.bl⟩
end Go.Proofs.YtdkjckiialnpnaaGreatDoor
namespace Go.Proofs.YtdkjckiialnpnaaGreatDoor
open Go.RowKit
attribute [local irreducible] lo hs sm s64 c64 d64 b64 mh ml pd pc qd qc val hiB str cmpI srD lz nb isq zl zh zs dval
theorem GI.run {a b : Int} : ∀ (n : Nat) (G X N Y : Int), N.natAbs ≤ n → GI a b G X N Y → ∃ G X Y, GI a b G X 0 Y := by
  intro n
  induction n with
  | zero => intro G X N Y h hG; obtain rfl : N = 0 := by omega
            exact ⟨_, _, _, hG⟩
  | succ n ih =>
    intro G X N Y h hG
    by_cases hN : N = 0
    · subst hN; exact ⟨_, _, _, hG⟩
    · have h1 := Int.emod_lt G hN
      have h2 := Int.emod_nonneg G hN
      exact ih _ _ _ _ (by omega) (hG.next hN)
theorem xgcd_dI {a b : Int} {k : Nat} (ha : dI a ≤ k) (hb : dI b ≤ k) : dI (xgcd a b).1 ≤ 1 + k ∧ dI (xgcd a b).2.1 ≤ 1 + (k + 1) ∧ dI (xgcd a b).2.2 ≤ 2 * k + 4 := by
 obtain ⟨G, X, Y, h⟩ := GI.run _ a 1 b 0 (Nat.le_refl _) (GI.start a b)
 obtain ⟨b1, b2, b3, -⟩ := h.bounds ha hb
 obtain ⟨l1, l2⟩ := h.last
 have hs1 : dI (sgn G) ≤ 1 := digs_length_iff.2 (by have : (sgn G).natAbs ≤ 1 := (by unfold sgn; split <;> (try split) <;> omega); unfold Bs; omega)
 have q1 : dI (xgcd a b).1 ≤ 1 + k := by rw [l1]; exact dI_mul hs1 b1
 have q2 : dI (xgcd a b).2.1 ≤ 1 + (k + 1) := by rw [l2]; exact dI_mul hs1 b3
 refine ⟨q1, q2, ?_⟩
 by_cases h0 : b = 0
 ·subst h0; rw [xgcd_zero]; exact Nat.le_trans (show dI (0 : Int) ≤ 1 from dI_lit (by decide)) (by omega)
 ·rw [← xgcd_y h0]
  refine Nat.le_trans (dI_mono (Int.natAbs_ediv_le_natAbs _ _)) ?_
  have q3 : dI (a * (xgcd a b).2.1) ≤ k + (1 + (k + 1)) := dI_mul ha q2
  exact Nat.le_trans (dI_sub (k := 2 * k + 2) (by omega) (by omega)) (by omega)
end Go.Proofs.YtdkjckiialnpnaaGreatDoor
namespace Go.Proofs.YtdkjckiialnpnaaGreatDoor
open Go.RowKit Go.Proofs.YtdkjckiialnpnaaGreatDoor.Rx
attribute [local irreducible] lo hs sm s64 c64 d64 b64 mh ml pd pc qd qc val hiB str cmpI srD lz nb isq zl zh dval
theorem rzcmpI (x y : Int) (lx : (Rx.td x.natAbs).length ≤ 1000) (ly : (Rx.td y.natAbs).length ≤ 1000) (v1 v2 : Value) (w : World) (h1 : RZ w v1 x) (h2 : RZ w v2 y) :
  Calls Tryz.prog 188 #[v1, v2] w fun e w' => e = .returned (.int .i64 (sgn (x - y))) ∧ Below w.heap.size w w' :=
 rzcmp_w x y (x - y) _ (fun a b w ha hb => rzsubI a b x y (by omega) (by omega) w ha hb) (rzsignI _) v1 v2 w h1 h2
theorem rzof_sgn (z : Int) (w : World) : Calls Tryz.prog 129 #[.int .i64 (sgn z)] w fun e w' => ∃ v, e = .returned v ∧ RZ w' v (sgn z) ∧ Below w.heap.size w w' := by
 unfold sgn
 split
 ·exact rzof_neg (-1) 0 0 0 1 (-1) 1 one_r (rz_from true 1 (-1) rfl rfl) (by decide) (by decide) (by decide) (by decide) (by decide) w
 ·split
  ·exact rzof_pos 0 0 0 0 (fun w => rof_val 0 0 rfl (by omega) w) (rz_from false 0 0 rfl rfl) (by decide) (by decide) w
  ·exact rzof_one w
theorem rzof_zero (w : World) : Calls Tryz.prog 129 #[.int .i64 0] w fun e w' => ∃ v, e = .returned v ∧ RZ w' v 0 ∧ Below w.heap.size w w' := rzof_pos 0 0 0 0 (fun w => rof_val 0 0 rfl (by omega) w) (rz_from false 0 0 rfl rfl) (by decide) (by decide) w
theorem dI_le {a b : Int} {k : Nat} (h : a.natAbs ≤ b.natAbs) (hb : dI b ≤ k) : dI a ≤ k := digs_length_iff.2 (Nat.lt_of_le_of_lt h (digs_length_iff.1 hb))
theorem dI_td {a : Int} {k : Nat} (h : dI a ≤ k) : (Rx.td a.natAbs).length ≤ 5 * k := td_of_digs h
theorem rzgcd_any {k : Nat} (hk : k ≤ 90) : ∀ (n : Nat) (x y : Int), y.natAbs ≤ n → dI x ≤ k → dI y ≤ k → ∀ (v1 v2 : Value) (w : World), RZ w v1 x → RZ w v2 y →
  Calls Tryz.prog 187 #[v1, v2] w fun e w' => ∃ a b c, e = .returned (.tuple #[a, b, c]) ∧ RZ w' a (xgcd x y).1 ∧ RZ w' b (xgcd x y).2.1 ∧ RZ w' c (xgcd x y).2.2 ∧ Below w.heap.size w w' := by
 intro n
 induction n with
 | zero =>
  intro x y hy lx ly v1 v2 w h1 h2
  obtain rfl : y = 0 := by omega
  rw [xgcd_zero]
  exact rzgcd_zero x 0 _ _ 0 (sgn x) (rzsignI 0) (rzsignI x) (rz_from false _ _ (by simp) (by simp)) (rzof_sgn x) rzof_zero v1 v2 w h1 h2
 | succ n ih =>
  intro x y hy lx ly v1 v2 w h1 h2
  by_cases h0 : y = 0
  ·subst h0
   rw [xgcd_zero]
   exact rzgcd_zero x 0 _ _ 0 (sgn x) (rzsignI 0) (rzsignI x) (rz_from false _ _ (by simp) (by simp)) (rzof_sgn x) rzof_zero v1 v2 w h1 h2
  ·have g1 := Int.emod_lt x h0
   have g2 := Int.emod_nonneg x h0
   have lm : dI (x % y) ≤ k := dI_le (by omega) ly
   have hI := ih y (x % y) (by omega) ly lm
   obtain ⟨-, b1, b2⟩ := xgcd_dI ly lm
   have l1 := dI_td b1
   have l2 := dI_td b2
   have lq : (Rx.td (x / y).natAbs).length ≤ 5 * k := dI_td (dI_le (Int.natAbs_ediv_le_natAbs x y) lx)
   have lp : (Rx.td (x / y * (xgcd y (x % y)).2.2).natAbs).length ≤ 5 * k + 5 * (2 * k + 4) := by rw [Int.natAbs_mul]; exact td_mul_le lq l2
   have tx := dI_td lx
   have ty := dI_td ly
   have hs : (sgn y == 0) = false := beq_eq_false_iff_ne.2 (by unfold sgn; split <;> (try split) <;> omega)
   rw [xgcd_step h0]
   exact rzgcd_step x y (sgn y) (x / y) (x % y) _ _ _ _ _ (rzsignI y) (rzdivI x y h0 (by omega) (by omega)) hI (fun a b w ha hb => rzmulI a b _ _ (by omega) (by omega) w ha hb) (fun a b w ha hb => rzsubI a b _ _ (by omega) (by omega) w ha hb) hs v1 v2 w h1 h2
end Go.Proofs.YtdkjckiialnpnaaGreatDoor
